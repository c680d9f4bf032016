package tests

import (
	"bytes"
	"slices"
	"testing"

	"loop.example/casemate/impl"
)

func sameCell(a impl.CelCell, b impl.CelCell) bool {
	return sameState(a.State, b.State) && same(a.In, b.In)
}

func copyCell(c impl.CelCell) impl.CelCell {
	return impl.CelCell{State: copyState(c.State), In: bytes.Clone(c.In)}
}

func sameSight(a impl.CelSight, b impl.CelSight) bool {
	return a.Kind == b.Kind && a.Way == b.Way && same(a.Bytes, b.Bytes)
}

func sameSights(a []impl.CelSight, b []impl.CelSight) bool {
	return slices.EqualFunc(a, b, sameSight)
}

// newCell is a cell at its beginning, by hand.
func newCell() impl.CelCell {
	return impl.CelCell{State: impl.VmState{Regs: make([]int, 4), Mem: make([]int, 8)}}
}

// okCells are cells with machines at the bounds and between, for which each number of bytes waits.
func okCells() []impl.CelCell {
	d := &draw{x: 139}
	full := machine(24, [4]int{255, 255, 255, 255}, [8]int{255, 255, 255, 255, 255, 255, 255, 255})
	var out []impl.CelCell
	for size := 0; size <= 6; size++ {
		out = append(out, impl.CelCell{State: newCell().State, In: upward(size)}, impl.CelCell{State: copyState(full), In: make([]byte, size)})
		for halt := 0; halt <= 2; halt++ {
			s := drawState(d)
			s.Halt = halt
			out = append(out, impl.CelCell{State: s, In: d.bytes(size)})
		}
	}
	return out
}

// wrongCells are cells of which just one thing is not ok.
func wrongCells() []impl.CelCell {
	out := []impl.CelCell{{}, {In: []byte{1}}}
	for k, s := range wrongStates() {
		out = append(out, impl.CelCell{State: s, In: upward(k % 7)})
	}
	for _, size := range []int{7, 8, 12, 255, 256, 262} {
		for halt := 0; halt <= 2; halt++ {
			c := newCell()
			c.State.Halt, c.In = halt, upward(size)
			out = append(out, c)
		}
	}
	return out
}

// plainInput is what CelInput answers of a cell that is ok or not, straight along the document.
func plainInput(c impl.CelCell, ok bool, n int) (impl.CelCell, bool) {
	if !ok || n < 0 || n > 255 {
		return impl.CelCell{}, false
	}
	after := copyCell(c)
	if len(c.In) == 6 {
		return after, false
	}
	after.In = append(after.In, byte(n))
	return after, true
}

// noBytes are numbers that are no byte.
var noBytes = append([]int{-257, -256, -255, -1, 256, 257, 511, 512}, farInts...)

func TestCellValues(t *testing.T) {
	got := []int{impl.CelMaxIn, impl.CelMaxSeen, impl.SawSent, impl.SawFull, impl.SawGot, impl.SawNone, impl.SawByte, impl.SawQuiet, impl.SawTold, impl.SawFell, impl.SawStopped, impl.SawBegan}
	if !slices.Equal(got, []int{6, 120, 1, 2, 3, 4, 5, 6, 7, 8, 9, 10}) {
		t.Error(got)
	}
}

func TestCellNew(t *testing.T) {
	if c := impl.CelNew(); !sameCell(c, newCell()) || !impl.CelOk(c) {
		t.Error(c, impl.CelOk(c))
	}
}

func TestCellOk(t *testing.T) {
	for _, c := range okCells() {
		if !impl.CelOk(c) {
			t.Errorf("%v is not ok", c)
		}
	}
	for _, c := range wrongCells() {
		if impl.CelOk(c) {
			t.Errorf("%v is ok", c)
		}
	}
	roomy := newCell()
	if roomy.In = upward(300)[:6]; !impl.CelOk(roomy) {
		t.Error("spare room counts")
	}
}

func TestP39InputStandsLast(t *testing.T) {
	for _, c := range okCells() {
		for n := range 256 {
			want, fine := plainInput(c, true, n)
			after, ok := impl.CelInput(c, n)
			if !sameCell(after, want) || ok != fine || ok != (len(c.In) < 6) || !impl.CelOk(after) {
				t.Fatalf("%v given %d: %v %v, not %v %v", c, n, after, ok, want, fine)
			}
		}
	}
}

func TestP39InOrder(t *testing.T) {
	all := []byte{7, 0, 255, 7, 1, 128, 9, 10}
	start := impl.CelCell{State: machine(3, [4]int{1, 2, 3, 4}, [8]int{8, 7, 6, 5, 4, 3, 2, 1})}
	for halt := 0; halt <= 2; halt++ {
		c := copyCell(start)
		c.State.Halt = halt
		for k, n := range all {
			after, ok := impl.CelInput(c, int(n))
			if ok != (k < 6) || !same(after.In, all[:min(k+1, 6)]) || !sameState(after.State, c.State) {
				t.Fatal(k, after, ok)
			}
			c = after
		}
	}
}

func TestP39InputOfWrong(t *testing.T) {
	for _, c := range okCells() {
		for _, n := range noBytes {
			if after, ok := impl.CelInput(c, n); ok || !sameCell(after, impl.CelCell{}) {
				t.Fatalf("%v given %d: %v %v", c, n, after, ok)
			}
		}
	}
	for _, c := range wrongCells() {
		for _, n := range append([]int{0, 1, 255}, noBytes...) {
			if after, ok := impl.CelInput(c, n); ok || !sameCell(after, impl.CelCell{}) {
				t.Fatalf("%v given %d: %v %v", c, n, after, ok)
			}
		}
	}
}

// plainSightOk says whether a sight is one that may be, straight along the document.
func plainSightOk(s impl.CelSight) bool {
	if len(s.Bytes) > 8 {
		return false
	}
	switch s.Kind {
	case 1, 2, 3, 4:
		return s.Way >= 0 && s.Way <= 9
	case 5, 6, 7, 8, 9, 10:
		return s.Way == 0
	}
	return false
}

func TestCellSightOk(t *testing.T) {
	fine := 0
	for _, kind := range append([]int{-2, -1, 0, 1, 2, 3, 4, 5, 6, 7, 8, 9, 10, 11, 12, 255, 257}, farInts...) {
		for _, way := range append([]int{-2, -1, 0, 1, 5, 8, 9, 10, 11, 255, 256}, farInts...) {
			for _, size := range []int{0, 1, 2, 7, 8, 9, 10, 255, 256, 264} {
				s := impl.CelSight{Kind: kind, Way: way, Bytes: upward(size)}
				if impl.CelSightOk(s) != plainSightOk(s) {
					t.Errorf("%v: %v", s, impl.CelSightOk(s))
				}
				if plainSightOk(s) {
					fine++
				}
			}
		}
	}
	if fine != (4*5+6)*5 {
		t.Error("so many sights are ok:", fine)
	}
	if impl.CelSightOk(impl.CelSight{}) || !impl.CelSightOk(impl.CelSight{Kind: 4, Way: 9, Bytes: upward(64)[:8]}) {
		t.Error("nothing is a sight, or spare room counts")
	}
}

// fencedCell is a cell whose lists lie between things that nobody may touch.
type fencedCell struct {
	state *fencedState
	in    *fenced[byte]
	c     impl.CelCell
}

func fenceCell(c impl.CelCell) *fencedCell {
	f := &fencedCell{state: fenceState(c.State), in: fence(c.In, 0xA5)}
	f.c = impl.CelCell{State: f.state.s, In: f.in.list}
	return f
}

func (f *fencedCell) untouched() bool {
	return f.state.untouched() && f.in.untouched()
}

func TestCellMemory(t *testing.T) {
	for _, c := range append(okCells(), wrongCells()...) {
		for _, n := range []int{-1, 0, 9, 255, 256} {
			f := fenceCell(c)
			first, ok := impl.CelInput(f.c, n)
			was := copyCell(first)
			scribble(first.In, 0xEE)
			checkStateMemory(t, "CelInput", first.State)
			if impl.CelOk(f.c) != impl.CelOk(c) || !f.untouched() {
				t.Fatalf("%v given %d: it was written into, or is shared with the answer", c, n)
			}
			if second, too := impl.CelInput(f.c, n); !sameCell(second, was) || too != ok {
				t.Fatalf("%v given %d: %v %v and then %v %v", c, n, was, ok, second, too)
			}
		}
	}
	c := impl.CelNew()
	checkStateMemory(t, "CelNew", c.State)
	scribble(c.In, 0xEE)
	if again := impl.CelNew(); !sameCell(again, newCell()) {
		t.Error("CelNew is kept:", again)
	}
	for _, size := range []int{0, 1, 8, 9} {
		held := fence(upward(size), 0xA5)
		impl.CelSightOk(impl.CelSight{Kind: impl.SawGot, Way: 3, Bytes: held.list})
		if !held.untouched() {
			t.Error("CelSightOk writes into a sight")
		}
	}
}
