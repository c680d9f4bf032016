package tests

import (
	"bytes"
	"slices"
	"testing"

	"loop.example/casemate/impl"
)

// sameLists says whether two lists of lists of bytes are the same value.
func sameLists(a [][]byte, b [][]byte) bool {
	return slices.EqualFunc(a, b, same)
}

func sameBox(a impl.BoxBox, b impl.BoxBox) bool {
	return a.Depth == b.Depth && sameLists(a.Items, b.Items)
}

// copyLists is the same lists, each in memory of its own.
func copyLists(list [][]byte) [][]byte {
	var out [][]byte
	for _, one := range list {
		out = append(out, bytes.Clone(one))
	}
	return out
}

// unlike is n messages that differ from each other: the longest, none, and others.
func unlike(n int) [][]byte {
	sizes := []int{8, 0, 1, 7, 5, 2, 8, 8}
	var out [][]byte
	for k := range n {
		m := upward(sizes[k])
		if len(m) > 0 {
			m[0] = byte(100 + k)
		}
		out = append(out, m)
	}
	return out
}

// okBoxes are boxes of each depth and with each number of messages, of each size.
func okBoxes() []impl.BoxBox {
	var out []impl.BoxBox
	for depth := 1; depth <= 4; depth++ {
		for n := 0; n <= depth; n++ {
			out = append(out, impl.BoxBox{Depth: depth, Items: unlike(n)})
			for size := 0; size <= 8; size++ {
				b := impl.BoxBox{Depth: depth}
				for range n {
					b.Items = append(b.Items, upward(size))
				}
				out = append(out, b)
			}
		}
	}
	return append(out, impl.BoxBox{Depth: 4, Items: [][]byte{nil, {}, nil}}, impl.BoxBox{Depth: 1, Items: [][]byte{}})
}

// wrongBoxes are boxes of which just one thing is not ok.
func wrongBoxes() []impl.BoxBox {
	out := []impl.BoxBox{{}}
	for _, depth := range append([]int{-4, -1, 0, 5, 6}, farInts...) {
		for n := 0; n <= 5; n++ {
			out = append(out, impl.BoxBox{Depth: depth, Items: unlike(n)})
		}
	}
	for depth := 1; depth <= 4; depth++ {
		for n := depth + 1; n <= 8; n++ {
			out = append(out, impl.BoxBox{Depth: depth, Items: unlike(n)})
		}
		for n := 1; n <= depth; n++ {
			for place := range n {
				for _, size := range []int{9, 10, 64, 256, 264} {
					b := impl.BoxBox{Depth: depth, Items: unlike(n)}
					b.Items[place] = upward(size)
					out = append(out, b)
				}
			}
		}
	}
	return append(out, impl.BoxBox{Depth: 1, Items: make([][]byte, 256)}, impl.BoxBox{Depth: 1, Items: make([][]byte, 257)})
}

func TestBoxValues(t *testing.T) {
	if impl.BoxMaxDepth != 4 {
		t.Error(impl.BoxMaxDepth)
	}
}

func TestBoxNew(t *testing.T) {
	for depth := 1; depth <= 4; depth++ {
		if b := impl.BoxNew(depth); b.Depth != depth || len(b.Items) != 0 || !impl.BoxOk(b) {
			t.Error(depth, b)
		}
	}
	for _, depth := range append([]int{-257, -2, -1, 0, 5, 6, 256, 257, 260}, farInts...) {
		if b := impl.BoxNew(depth); !sameBox(b, impl.BoxBox{}) || impl.BoxOk(b) {
			t.Error(depth, b)
		}
	}
}

func TestBoxOk(t *testing.T) {
	for _, b := range okBoxes() {
		if !impl.BoxOk(b) {
			t.Error(b, "is not ok")
		}
	}
	for _, b := range wrongBoxes() {
		if impl.BoxOk(b) {
			t.Error(b, "is ok")
		}
	}
	// What lies behind the end of a list is none of its things.
	if b := (impl.BoxBox{Depth: 1, Items: [][]byte{upward(8), upward(9), nil}[:1]}); !impl.BoxOk(b) {
		t.Error("spare room counts")
	}
}

func TestP57OneInOneOut(t *testing.T) {
	for depth := 1; depth <= 4; depth++ {
		for size := 0; size <= 8; size++ {
			full, ok := impl.BoxPut(impl.BoxNew(depth), upward(size))
			if !ok || !sameBox(full, impl.BoxBox{Depth: depth, Items: [][]byte{upward(size)}}) {
				t.Fatal(depth, size, full, ok)
			}
			empty, m, ok := impl.BoxTake(full)
			if !ok || !same(m, upward(size)) || !sameBox(empty, impl.BoxNew(depth)) {
				t.Fatal(depth, size, empty, m, ok)
			}
		}
	}
}

func TestP57FirstInFirstOut(t *testing.T) {
	d := &draw{x: 57}
	for depth := 1; depth <= 4; depth++ {
		for range 300 {
			b := impl.BoxNew(depth)
			var waits [][]byte
			// How much more often it is put than taken differs, so that boxes fill up and run empty.
			bias := 1 + d.below(9)
			for range 60 {
				if d.below(10) < bias {
					m := d.bytes(d.below(9))
					after, ok := impl.BoxPut(b, m)
					if ok != (len(waits) < depth) {
						t.Fatalf("%v put into %v: %v", m, b, ok)
					}
					if ok {
						waits = append(waits, m)
					}
					b = after
				} else {
					after, m, ok := impl.BoxTake(b)
					if ok != (len(waits) > 0) || !ok && len(m) > 0 || ok && !same(m, waits[0]) {
						t.Fatalf("taken from %v: %v %v, not %v", b, m, ok, waits)
					}
					if ok {
						waits = waits[1:]
					}
					b = after
				}
				if !impl.BoxOk(b) || !sameBox(b, impl.BoxBox{Depth: depth, Items: waits}) {
					t.Fatalf("%v, not %v", b, waits)
				}
			}
		}
	}
}

func TestP57Take(t *testing.T) {
	for _, b := range okBoxes() {
		after, m, ok := impl.BoxTake(b)
		if len(b.Items) == 0 {
			if ok || len(m) != 0 || !sameBox(after, b) {
				t.Errorf("taken from %v: %v %v %v", b, after, m, ok)
			}
			continue
		}
		if !ok || !same(m, b.Items[0]) || !sameBox(after, impl.BoxBox{Depth: b.Depth, Items: b.Items[1:]}) {
			t.Errorf("taken from %v: %v %v %v", b, after, m, ok)
		}
	}
}

func TestP57TakeOfWrongBoxes(t *testing.T) {
	for _, b := range wrongBoxes() {
		if after, m, ok := impl.BoxTake(b); ok || len(m) != 0 || !sameBox(after, impl.BoxBox{}) {
			t.Errorf("taken from %v: %v %v %v", b, after, m, ok)
		}
	}
}

func TestP58Put(t *testing.T) {
	for _, b := range okBoxes() {
		for size := 0; size <= 8; size++ {
			m := slices.Repeat([]byte{99}, size)
			after, ok := impl.BoxPut(b, m)
			want := b
			if len(b.Items) < b.Depth {
				want.Items = append(copyLists(b.Items), m)
			}
			if ok != (len(b.Items) < b.Depth) || !sameBox(after, want) {
				t.Errorf("%v put into %v: %v %v", m, b, after, ok)
			}
		}
		if after, ok := impl.BoxPut(b, nil); ok != (len(b.Items) < b.Depth) || len(after.Items) != min(len(b.Items)+1, b.Depth) {
			t.Errorf("nil put into %v: %v %v", b, after, ok)
		}
	}
}

func TestP58PutOfWrong(t *testing.T) {
	for _, b := range wrongBoxes() {
		for _, size := range []int{0, 1, 8, 9} {
			if after, ok := impl.BoxPut(b, upward(size)); ok || !sameBox(after, impl.BoxBox{}) {
				t.Errorf("%d bytes put into %v: %v %v", size, b, after, ok)
			}
		}
	}
	// What is no message is answered alike, whether there is room or not.
	for _, b := range okBoxes() {
		for _, size := range []int{9, 10, 64, 256, 264} {
			if after, ok := impl.BoxPut(b, upward(size)); ok || !sameBox(after, impl.BoxBox{}) {
				t.Errorf("%d bytes put into %v: %v %v", size, b, after, ok)
			}
		}
	}
	if after, ok := impl.BoxPut(impl.BoxNew(1), make([]byte, 8, 64)); !ok || len(after.Items) != 1 {
		t.Error("spare room counts:", after, ok)
	}
}

// fencedBox is a box of which the list, and each message, lies between things that nobody may touch.
type fencedBox struct {
	all   [][]byte
	was   [][]byte
	items []*fenced[byte]
	b     impl.BoxBox
}

func fenceBox(b impl.BoxBox) *fencedBox {
	f := &fencedBox{b: b}
	for k := range len(b.Items) + 12 {
		f.all = append(f.all, []byte{0xA5, byte(k)})
	}
	for k, m := range b.Items {
		item := fence(m, 0xA5)
		f.items = append(f.items, item)
		f.all[3+k] = item.list
	}
	f.was = copyLists(f.all)
	f.b.Items = f.all[3 : 3+len(b.Items)]
	return f
}

func (f *fencedBox) untouched() bool {
	for _, item := range f.items {
		if !item.untouched() {
			return false
		}
	}
	return sameLists(f.all, f.was)
}

// rooms is each list with its spare room.
func rooms(lists [][]byte) [][]byte {
	var out [][]byte
	for _, list := range lists {
		out = append(out, list[:cap(list)])
	}
	return out
}

// checkApart writes over one list behind the other, spare room included: no other one may change by that.
func checkApart(t *testing.T, name string, lists ...[]byte) {
	t.Helper()
	all := rooms(lists)
	for k, room := range all {
		want := copyLists(all)
		for at := range room {
			room[at] ^= 0xFF
			want[k][at] ^= 0xFF
		}
		if !sameLists(all, want) {
			t.Fatalf("%s: two lists of the answer share memory", name)
		}
	}
}

func TestBoxPutMemory(t *testing.T) {
	for _, b := range append(okBoxes(), wrongBoxes()...) {
		for _, size := range []int{0, 1, 8, 9} {
			f, m := fenceBox(b), fence(upward(size), 0xA5)
			first, ok := impl.BoxPut(f.b, m.list)
			was := impl.BoxBox{Depth: first.Depth, Items: copyLists(first.Items)}
			checkApart(t, "BoxPut", first.Items...)
			scribble(first.Items, []byte{0xEE})
			if !f.untouched() || !m.untouched() {
				t.Fatalf("%d bytes put into %v: an argument was written into, or is shared with the answer", size, b)
			}
			if second, too := impl.BoxPut(f.b, m.list); !sameBox(second, was) || ok != too {
				t.Fatalf("%d bytes put into %v: %v %v and then %v %v", size, b, was, ok, second, too)
			}
		}
	}
}

func TestBoxTakeMemory(t *testing.T) {
	for _, b := range append(okBoxes(), wrongBoxes()...) {
		f := fenceBox(b)
		first, m, ok := impl.BoxTake(f.b)
		was, got := impl.BoxBox{Depth: first.Depth, Items: copyLists(first.Items)}, bytes.Clone(m)
		checkApart(t, "BoxTake", append([][]byte{m}, first.Items...)...)
		scribble(first.Items, []byte{0xEE})
		if !f.untouched() {
			t.Fatalf("taken from %v: it was written into, or is shared with the answer", b)
		}
		if second, again, too := impl.BoxTake(f.b); !sameBox(second, was) || !same(again, got) || ok != too {
			t.Fatalf("taken from %v: %v %v %v and then %v %v %v", b, was, got, ok, second, again, too)
		}
	}
}

func TestBoxNewMemory(t *testing.T) {
	for depth := range 6 {
		scribble(impl.BoxNew(depth).Items, []byte{0xEE})
		if b := impl.BoxNew(depth); len(b.Items) != 0 {
			t.Error("BoxNew is kept:", b)
		}
	}
	for _, b := range append(okBoxes(), wrongBoxes()...) {
		f := fenceBox(b)
		if impl.BoxOk(f.b) != impl.BoxOk(b) || !f.untouched() {
			t.Fatal("BoxOk writes into", b)
		}
	}
}

func TestBoxKeepsItsOwn(t *testing.T) {
	m := []byte{1, 2, 3}
	b, _ := impl.BoxPut(impl.BoxNew(2), m)
	m[0] = 99
	twice, _ := impl.BoxPut(b, b.Items[0])
	b.Items[0][1] = 99
	if !sameLists(twice.Items, [][]byte{{1, 2, 3}, {1, 2, 3}}) {
		t.Error("a message is shared with what was put:", twice)
	}
	twice.Items[0][2] = 99
	if !same(twice.Items[1], []byte{1, 2, 3}) {
		t.Error("two messages of a box are one:", twice)
	}
}
