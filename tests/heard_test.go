package tests

import (
	"slices"
	"testing"

	"loop.example/casemate/impl"
)

// hello is what a book is told.
type hello struct {
	node, boot, seq int
}

func sameBook(a impl.HrdBook, b impl.HrdBook) bool {
	return slices.Equal(a.Boots, b.Boots) && slices.Equal(a.Seqs, b.Seqs)
}

func copyBook(b impl.HrdBook) impl.HrdBook {
	return impl.HrdBook{Boots: slices.Clone(b.Boots), Seqs: slices.Clone(b.Seqs)}
}

// noBook says whether a book is nothing.
func noBook(b impl.HrdBook) bool {
	return len(b.Boots) == 0 && len(b.Seqs) == 0
}

// plainBookOk says whether a book is ok, straight along the document.
func plainBookOk(b impl.HrdBook) bool {
	if len(b.Boots) < 1 || len(b.Boots) > 4 || len(b.Seqs) != len(b.Boots) {
		return false
	}
	for k := range b.Boots {
		if b.Boots[k] < 0 || b.Boots[k] > 60000 || b.Seqs[k] < 0 || b.Seqs[k] > 60000 || b.Boots[k] == 0 && b.Seqs[k] != 0 {
			return false
		}
	}
	return true
}

// may says whether a hello is one that a book of n nodes can note.
func (h hello) may(n int) bool {
	return h.node >= 0 && h.node < n && h.boot >= 1 && h.boot <= 60000 && h.seq >= 0 && h.seq <= 60000
}

// plainHear notes a hello, straight along the document.
func plainHear(b impl.HrdBook, h hello) (impl.HrdBook, int) {
	if !plainBookOk(b) || !h.may(len(b.Boots)) {
		return impl.HrdBook{}, 0
	}
	after, code := copyBook(b), 3
	if h.boot > b.Boots[h.node] {
		code = 1
	} else if h.boot == b.Boots[h.node] && h.seq > b.Seqs[h.node] {
		code = 2
	}
	if code < 3 {
		after.Boots[h.node], after.Seqs[h.node] = h.boot, h.seq
	}
	return after, code
}

// okBooks are books of each size, their numbers at the edges and between, each node with another one.
func okBooks() []impl.HrdBook {
	pairs := [][2]int{{0, 0}, {1, 0}, {1, 60000}, {2, 7}, {60000, 60000}, {300, 1}, {60000, 0}, {59999, 59999}, {1, 1}}
	var out []impl.HrdBook
	for n := 1; n <= 4; n++ {
		for first := range pairs {
			var b impl.HrdBook
			for k := range n {
				pair := pairs[(first+k)%len(pairs)]
				b.Boots, b.Seqs = append(b.Boots, pair[0]), append(b.Seqs, pair[1])
			}
			out = append(out, b)
		}
	}
	return out
}

// wrongBooks are books of which just one thing is not ok.
func wrongBooks() []impl.HrdBook {
	out := []impl.HrdBook{{}, {Boots: []int{}, Seqs: []int{}}, {Boots: []int{0}}, {Seqs: []int{0}}, {Boots: []int{1, 1, 1, 1}}}
	for _, n := range []int{5, 6, 8, 256, 257, 260} {
		out = append(out, impl.HrdBook{Boots: make([]int, n), Seqs: make([]int, n)})
	}
	for _, b := range okBooks() {
		n := len(b.Boots)
		out = append(out, impl.HrdBook{Boots: b.Boots, Seqs: b.Seqs[:n-1]}, impl.HrdBook{Boots: b.Boots[:n-1], Seqs: b.Seqs},
			impl.HrdBook{Boots: b.Boots, Seqs: append(slices.Clone(b.Seqs), 0)}, impl.HrdBook{Boots: append(slices.Clone(b.Boots), 0), Seqs: b.Seqs})
		for place := range n {
			for _, wrong := range noLives {
				boots, seqs := copyBook(b), copyBook(b)
				boots.Boots[place] = wrong
				seqs.Boots[place], seqs.Seqs[place] = 9, wrong
				out = append(out, boots, seqs)
			}
			for _, seq := range []int{1, 7, 60000} {
				never := copyBook(b)
				never.Boots[place], never.Seqs[place] = 0, seq
				out = append(out, never)
			}
		}
	}
	return out
}

// hellosNear are hellos that are less than, the same as and greater than what stands there of a node, and at the edges.
func hellosNear(b impl.HrdBook, node int) []hello {
	boot, seq := 0, 0
	if node < min(len(b.Boots), len(b.Seqs)) {
		boot, seq = b.Boots[node], b.Seqs[node]
	}
	var out []hello
	for _, one := range []int{boot - 1, boot, boot + 1, 1, 60000} {
		for _, other := range []int{seq - 1, seq, seq + 1, 0, 60000} {
			out = append(out, hello{node, one, other})
		}
	}
	return out
}

// wrongHellos are hellos that a book of n nodes cannot note, of most just for one part.
func wrongHellos(n int) []hello {
	out := []hello{{}, {-1, -1, -1}, {n, 60001, 60001}}
	for _, node := range append([]int{-257, -4, -1, n, n + 1, 255, 256}, farInts...) {
		out = append(out, hello{node, 1, 0}, hello{node, 60000, 60000})
	}
	for node := range n {
		for _, boot := range append([]int{0}, noLives...) {
			out = append(out, hello{node, boot, 0}, hello{node, boot, 60000})
		}
		for _, seq := range noLives {
			out = append(out, hello{node, 1, seq}, hello{node, 60000, seq})
		}
	}
	return out
}

// checkHeard calls HrdHear, and holds it against the document; the answer.
func checkHeard(t *testing.T, b impl.HrdBook, h hello) (impl.HrdBook, int) {
	t.Helper()
	want, code := plainHear(b, h)
	after, got := impl.HrdHear(b, h.node, h.boot, h.seq)
	if !sameBook(after, want) || got != code {
		t.Fatalf("HrdHear of %v and %v: %v %d, not %v %d", b, h, after, got, want, code)
	}
	return after, got
}

func TestHeardValues(t *testing.T) {
	if impl.HrdMaxSeq != 60000 {
		t.Error(impl.HrdMaxSeq)
	}
}

func TestHeardNew(t *testing.T) {
	for n := 1; n <= 4; n++ {
		b := impl.HrdNew(n)
		if !slices.Equal(b.Boots, make([]int, n)) || !slices.Equal(b.Seqs, make([]int, n)) || !impl.HrdOk(b) {
			t.Error(n, b)
		}
	}
	for _, n := range append([]int{-257, -4, -1, 0, 5, 6, 256, 257, 260}, farInts...) {
		if b := impl.HrdNew(n); !noBook(b) || impl.HrdOk(b) {
			t.Error(n, b)
		}
	}
}

func TestHeardOk(t *testing.T) {
	for _, b := range okBooks() {
		if !impl.HrdOk(b) {
			t.Errorf("%v is not ok", b)
		}
	}
	for _, b := range wrongBooks() {
		if impl.HrdOk(b) {
			t.Errorf("%v is ok", b)
		}
	}
	// What lies behind the end of a list is none of its numbers.
	if !impl.HrdOk(impl.HrdBook{Boots: []int{1, -1, -1, -1, -1}[:1], Seqs: []int{0, 70000}[:1]}) {
		t.Error("spare room counts")
	}
}

func TestP71Hear(t *testing.T) {
	for _, b := range okBooks() {
		for node := range b.Boots {
			for _, h := range hellosNear(b, node) {
				checkHeard(t, b, h)
			}
		}
	}
}

func TestP71HearByHand(t *testing.T) {
	b := impl.HrdBook{Boots: []int{3, 0, 60000}, Seqs: []int{9, 0, 60000}}
	for _, one := range []struct {
		h    hello
		code int
	}{
		{hello{0, 4, 0}, 1}, {hello{0, 4, 9}, 1}, {hello{0, 60000, 60000}, 1},
		{hello{0, 3, 10}, 2}, {hello{0, 3, 60000}, 2},
		{hello{0, 3, 9}, 3}, {hello{0, 3, 8}, 3}, {hello{0, 3, 0}, 3}, {hello{0, 2, 10}, 3}, {hello{0, 1, 60000}, 3},
		{hello{1, 1, 0}, 1}, {hello{1, 1, 5}, 1}, {hello{1, 60000, 0}, 1},
		{hello{2, 60000, 60000}, 3}, {hello{2, 59999, 60000}, 3}, {hello{2, 60000, 0}, 3},
	} {
		want := copyBook(b)
		if one.code < 3 {
			want.Boots[one.h.node], want.Seqs[one.h.node] = one.h.boot, one.h.seq
		}
		after, code := impl.HrdHear(b, one.h.node, one.h.boot, one.h.seq)
		if code != one.code || !sameBook(after, want) {
			t.Error(one, after, code)
		}
	}
}

func TestP71WrongHellos(t *testing.T) {
	for _, b := range okBooks() {
		for _, h := range wrongHellos(len(b.Boots)) {
			if after, code := checkHeard(t, b, h); !noBook(after) || code != 0 {
				t.Fatalf("%v heard by %v: %v %d", h, b, after, code)
			}
		}
	}
}

func TestP71WrongBooks(t *testing.T) {
	for _, b := range wrongBooks() {
		for node := range 5 {
			for _, h := range []hello{{node, 1, 0}, {node, 300, 7}, {node, 60000, 60000}, {node, 0, 0}} {
				if after, code := checkHeard(t, b, h); !noBook(after) || code != 0 {
					t.Fatalf("%v heard by %v: %v %d", h, b, after, code)
				}
			}
		}
	}
}

// checkNotEarlier says of no node that it was heard earlier than it was.
func checkNotEarlier(t *testing.T, was impl.HrdBook, is impl.HrdBook) {
	t.Helper()
	for k := range was.Boots {
		if is.Boots[k] < was.Boots[k] || is.Boots[k] == was.Boots[k] && is.Seqs[k] < was.Seqs[k] {
			t.Fatalf("%v goes back to %v", was, is)
		}
	}
}

// checkTwoHellos lets a book hear two hellos in both orders, and each one again.
func checkTwoHellos(t *testing.T, b impl.HrdBook, one hello, other hello) {
	t.Helper()
	first, code := checkHeard(t, b, one)
	both, next := checkHeard(t, first, other)
	second, _ := checkHeard(t, b, other)
	turned, _ := checkHeard(t, second, one)
	if code == 0 || next == 0 || !sameBook(both, turned) {
		t.Fatalf("%v behind %v and %v: %v in one order, %v in the other one", b, one, other, both, turned)
	}
	checkNotEarlier(t, b, first)
	checkNotEarlier(t, first, both)
	checkNotEarlier(t, second, turned)
	for _, h := range []hello{one, other} {
		if again, old := checkHeard(t, both, h); old != 3 || !sameBook(again, both) {
			t.Fatalf("%v: %v is noted again: %v %d", both, h, again, old)
		}
	}
	if again, old := checkHeard(t, first, one); old != 3 || !sameBook(again, first) {
		t.Fatalf("%v: %v is noted again at once: %v %d", first, one, again, old)
	}
}

func TestP71EitherOrder(t *testing.T) {
	for _, b := range okBooks() {
		n := len(b.Boots)
		var all []hello
		for _, node := range []int{0, n / 2, n - 1} {
			for _, h := range hellosNear(b, node) {
				if h.may(n) {
					all = append(all, h)
				}
			}
		}
		for _, one := range all {
			for _, other := range all {
				checkTwoHellos(t, b, one, other)
			}
		}
	}
}

func TestP71ManyHellos(t *testing.T) {
	d := &draw{x: 71}
	for range 500 {
		n := 1 + d.below(4)
		b := impl.HrdNew(n)
		noted := map[hello]bool{}
		latest := make([]hello, n)
		for range 60 {
			h := hello{d.below(n), 1 + d.below(4), d.below(5)}
			after, code := checkHeard(t, b, h)
			if noted[h] && code != 3 {
				t.Fatalf("%v: %v, which was noted, has the code %d", b, h, code)
			}
			noted[h] = noted[h] || code != 3
			if last := latest[h.node]; h.boot > last.boot || h.boot == last.boot && h.seq > last.seq {
				latest[h.node] = h
			}
			checkNotEarlier(t, b, after)
			if b = after; !impl.HrdOk(b) {
				t.Fatalf("%v is not ok", b)
			}
		}
		for node, h := range latest {
			if b.Boots[node] != h.boot || b.Seqs[node] != h.seq {
				t.Fatalf("%v, but the latest hello is %v", b, h)
			}
		}
	}
}

// fencedBook is a book whose lists lie between things that nobody may touch.
type fencedBook struct {
	boots *fenced[int]
	seqs  *fenced[int]
	b     impl.HrdBook
}

func fenceBook(b impl.HrdBook) *fencedBook {
	f := &fencedBook{boots: fence(b.Boots, -77), seqs: fence(b.Seqs, -77)}
	f.b = impl.HrdBook{Boots: f.boots.list, Seqs: f.seqs.list}
	return f
}

func (f *fencedBook) untouched() bool {
	return f.boots.untouched() && f.seqs.untouched()
}

func TestHeardHearMemory(t *testing.T) {
	for _, b := range append(okBooks(), wrongBooks()...) {
		n := len(b.Boots)
		all := wrongHellos(min(n, 1))
		for node := range min(n, 4) {
			all = append(all, hellosNear(b, node)...)
		}
		for _, h := range all {
			f := fenceBook(b)
			first, code := impl.HrdHear(f.b, h.node, h.boot, h.seq)
			was := copyBook(first)
			checkListsApart(t, "HrdHear", [][]int{first.Boots, first.Seqs}, -5, slices.Equal[[]int])
			if !f.untouched() {
				t.Fatalf("%v heard by %v: it was written into, or is shared with the answer", h, b)
			}
			if second, again := impl.HrdHear(f.b, h.node, h.boot, h.seq); !sameBook(second, was) || again != code {
				t.Fatalf("%v heard by %v: %v %d and then %v %d", h, b, was, code, second, again)
			}
		}
		f := fenceBook(b)
		if impl.HrdOk(f.b) != impl.HrdOk(b) || !f.untouched() {
			t.Fatalf("HrdOk writes into %v", b)
		}
	}
}

func TestHeardNewMemory(t *testing.T) {
	for n := range 6 {
		first := impl.HrdNew(n)
		was := copyBook(first)
		checkListsApart(t, "HrdNew", [][]int{first.Boots, first.Seqs}, -5, slices.Equal[[]int])
		if second := impl.HrdNew(n); !sameBook(second, was) {
			t.Errorf("HrdNew of %d is kept: %v", n, second)
		}
	}
}

// One list for both Boots and Seqs is an argument as any other one.
func TestHeardOneListTwice(t *testing.T) {
	list := []int{7, 9}
	after, code := impl.HrdHear(impl.HrdBook{Boots: list, Seqs: list}, 1, 9, 10)
	if code != 2 || !slices.Equal(after.Boots, []int{7, 9}) || !slices.Equal(after.Seqs, []int{7, 10}) || !slices.Equal(list, []int{7, 9}) {
		t.Error(after, code, list)
	}
}
