package tests

import (
	"testing"

	"loop.example/casemate/impl"
)

// number is a life, an epoch and a number in it.
type number struct {
	boot, epoch, seq int
}

// plainInOk says whether a half is ok, straight along the document.
func plainInOk(i impl.InIn) bool {
	return i.Boot >= 0 && i.Boot <= 60000 && i.Epoch >= 0 && i.Epoch <= 200 && i.Seq >= 0 && i.Seq <= 16
}

// may says whether a node could give a number away.
func (n number) may() bool {
	return n.boot >= 1 && n.boot <= 60000 && n.epoch >= 0 && n.epoch <= 200 && n.seq >= 0 && n.seq <= 15
}

// rank is where a number stands in the row of all that may be, or are one past.
func (n number) rank() int {
	return (n.boot*1000+n.epoch)*100 + n.seq
}

func plainFresh(i impl.InIn, n number) bool {
	return plainInOk(i) && n.may() && n.rank() >= number{i.Boot, i.Epoch, i.Seq}.rank()
}

// okIns are halves that are ok, each part at its edges and between.
func okIns() []impl.InIn {
	var out []impl.InIn
	for _, boot := range []int{0, 1, 2, 300, 59999, 60000} {
		for _, epoch := range []int{0, 1, 16, 100, 199, 200} {
			for _, seq := range []int{0, 1, 7, 14, 15, 16} {
				out = append(out, impl.InIn{Boot: boot, Epoch: epoch, Seq: seq})
			}
		}
	}
	return out
}

// wrongIns are halves of which at least one part is not ok; of most just one is.
func wrongIns() []impl.InIn {
	out := []impl.InIn{{Boot: -1, Epoch: -1, Seq: -1}, {Boot: 60001, Epoch: 201, Seq: 17}}
	for k, i := range okIns() {
		if k%17 != 0 && i.Seq != 16 {
			continue
		}
		for _, n := range noLives {
			boot := i
			boot.Boot = n
			out = append(out, boot)
		}
		for _, n := range append([]int{-256, -1, 201, 202, 255, 256}, farInts...) {
			epoch := i
			epoch.Epoch = n
			out = append(out, epoch)
		}
		for _, n := range append([]int{-256, -1, 17, 18, 255, 256}, farInts...) {
			seq := i
			seq.Seq = n
			out = append(out, seq)
		}
	}
	return out
}

// wrongNumbers are numbers that no node gives away, of most just for one part.
func wrongNumbers() []number {
	out := []number{{}, {0, 1, 1}, {-1, -1, -1}, {60001, 201, 16}}
	for _, n := range []number{{1, 0, 0}, {1, 200, 15}, {300, 7, 3}, {60000, 200, 15}, {60000, 0, 0}} {
		for _, boot := range append([]int{0}, noLives...) {
			out = append(out, number{boot, n.epoch, n.seq})
		}
		for _, epoch := range append([]int{-256, -1, 201, 202, 255, 256}, farInts...) {
			out = append(out, number{n.boot, epoch, n.seq})
		}
		for _, seq := range append([]int{-256, -1, 16, 17, 255, 256}, farInts...) {
			out = append(out, number{n.boot, n.epoch, seq})
		}
	}
	return out
}

// checkHear calls InFresh and InHear, and holds them against the document; the half behind it.
func checkHear(t *testing.T, i impl.InIn, n number) impl.InIn {
	t.Helper()
	fresh := plainFresh(i, n)
	if impl.InFresh(i, n.boot, n.epoch, n.seq) != fresh {
		t.Fatalf("InFresh of %v and %v: not %v", i, n, fresh)
	}
	want := impl.InIn{}
	switch {
	case fresh:
		want = impl.InIn{Boot: n.boot, Epoch: n.epoch, Seq: n.seq + 1}
	case plainInOk(i):
		want = i
	}
	after := impl.InHear(i, n.boot, n.epoch, n.seq)
	if after != want {
		t.Fatalf("InHear of %v and %v: %v, not %v", i, n, after, want)
	}
	return after
}

func TestInOk(t *testing.T) {
	for _, i := range append(okIns(), impl.InIn{}) {
		if !impl.InOk(i) {
			t.Errorf("%v is not ok", i)
		}
	}
	for _, i := range wrongIns() {
		if impl.InOk(i) {
			t.Errorf("%v is ok", i)
		}
	}
	for epoch := -3; epoch <= 260; epoch++ {
		for seq := -3; seq <= 260; seq++ {
			i := impl.InIn{Epoch: epoch, Seq: seq}
			if impl.InOk(i) != plainInOk(i) {
				t.Fatalf("%v: %v", i, impl.InOk(i))
			}
		}
	}
}

func TestP70SameBehindAhead(t *testing.T) {
	for _, i := range okIns() {
		for boot := -1; boot <= 1; boot++ {
			for epoch := -1; epoch <= 1; epoch++ {
				for seq := -1; seq <= 1; seq++ {
					after := checkHear(t, i, number{i.Boot + boot, i.Epoch + epoch, i.Seq + seq})
					if !impl.InOk(after) {
						t.Fatalf("behind %v: %v is not ok", i, after)
					}
				}
			}
		}
		// Parts further left count more, however far apart those further right are.
		for _, n := range []number{{i.Boot + 1, 0, 0}, {i.Boot - 1, 200, 15}, {i.Boot, i.Epoch + 1, 0}, {i.Boot, i.Epoch - 1, 15}, {1, 0, 0}, {60000, 200, 15}} {
			checkHear(t, i, n)
		}
	}
}

func TestP70ByHand(t *testing.T) {
	for _, one := range []struct {
		half  impl.InIn
		n     number
		fresh bool
	}{
		{impl.InIn{}, number{1, 0, 0}, true},
		{impl.InIn{}, number{60000, 200, 15}, true},
		{impl.InIn{}, number{0, 0, 0}, false},
		{impl.InIn{Epoch: 200, Seq: 16}, number{1, 0, 0}, true},
		{impl.InIn{Boot: 2, Epoch: 3, Seq: 4}, number{2, 3, 4}, true},
		{impl.InIn{Boot: 2, Epoch: 3, Seq: 4}, number{2, 3, 3}, false},
		{impl.InIn{Boot: 2, Epoch: 3, Seq: 4}, number{2, 3, 5}, true},
		{impl.InIn{Boot: 2, Epoch: 3, Seq: 4}, number{2, 2, 15}, false},
		{impl.InIn{Boot: 2, Epoch: 3, Seq: 4}, number{2, 4, 0}, true},
		{impl.InIn{Boot: 2, Epoch: 3, Seq: 4}, number{1, 200, 15}, false},
		{impl.InIn{Boot: 2, Epoch: 3, Seq: 4}, number{3, 0, 0}, true},
		{impl.InIn{Boot: 2, Epoch: 3, Seq: 16}, number{2, 3, 15}, false},
		{impl.InIn{Boot: 2, Epoch: 3, Seq: 16}, number{2, 3, 16}, false},
		{impl.InIn{Boot: 2, Epoch: 3, Seq: 16}, number{2, 4, 0}, true},
		{impl.InIn{Boot: 2, Epoch: 200, Seq: 16}, number{2, 200, 15}, false},
		{impl.InIn{Boot: 2, Epoch: 200, Seq: 16}, number{2, 201, 0}, false},
		{impl.InIn{Boot: 2, Epoch: 200, Seq: 16}, number{3, 0, 0}, true},
		{impl.InIn{Boot: 60000, Epoch: 200, Seq: 15}, number{60000, 200, 15}, true},
		{impl.InIn{Boot: 60000, Epoch: 200, Seq: 16}, number{60000, 200, 15}, false},
		{impl.InIn{Boot: 60000, Epoch: 200, Seq: 16}, number{60001, 0, 0}, false},
	} {
		if impl.InFresh(one.half, one.n.boot, one.n.epoch, one.n.seq) != one.fresh {
			t.Error(one)
		}
		want := one.half
		if one.fresh {
			want = impl.InIn{Boot: one.n.boot, Epoch: one.n.epoch, Seq: one.n.seq + 1}
		}
		if after := impl.InHear(one.half, one.n.boot, one.n.epoch, one.n.seq); after != want {
			t.Error(one, after)
		}
	}
}

func TestP70WrongNumbers(t *testing.T) {
	for _, i := range okIns() {
		for _, n := range wrongNumbers() {
			if checkHear(t, i, n) != i {
				t.Fatalf("%v changed by %v", i, n)
			}
		}
	}
}

func TestP70WrongHalves(t *testing.T) {
	for _, i := range wrongIns() {
		for _, n := range []number{{1, 0, 0}, {300, 100, 7}, {60000, 200, 15}, {0, 0, 0}, {1, 201, 0}, {i.Boot, i.Epoch, i.Seq}} {
			if checkHear(t, i, n) != (impl.InIn{}) {
				t.Fatalf("InHear of %v, which is not ok", i)
			}
		}
	}
}

// drawNumber is a number near to others that it draws, one in eight none that may be.
func drawNumber(d *draw) number {
	bad := wrongNumbers()
	if d.below(8) == 0 {
		return bad[d.below(len(bad))]
	}
	return number{1 + d.below(3), []int{0, 1, 2, 199, 200}[d.below(5)], []int{0, 1, 2, 14, 15}[d.below(5)]}
}

func TestP70NoneTwice(t *testing.T) {
	d := &draw{x: 70}
	for range 600 {
		half := impl.InIn{}
		var fresh []number
		for range 40 {
			n := drawNumber(d)
			want := n.may()
			for _, other := range fresh {
				want = want && n.rank() > other.rank()
			}
			if impl.InFresh(half, n.boot, n.epoch, n.seq) != want {
				t.Fatalf("behind %v: %v is not %v", fresh, n, want)
			}
			if half = checkHear(t, half, n); want {
				fresh = append(fresh, n)
			}
			for _, other := range fresh {
				if impl.InFresh(half, other.boot, other.epoch, other.seq) {
					t.Fatalf("behind %v: %v is fresh twice", fresh, other)
				}
			}
		}
	}
}

func TestP70WhatIsGivenAway(t *testing.T) {
	half := impl.InIn{}
	for boot := 1; boot <= 3; boot++ {
		o := impl.OutOpen(boot)
		for n := 0; ; n++ {
			after, e, s, ok := impl.OutNext(o)
			if !ok {
				break
			}
			given := number{boot, e, s}
			// A frame may be lost, and one that was heard may come again.
			if n%3 != 2 {
				if !impl.InFresh(half, boot, e, s) {
					t.Fatalf("%v is not fresh for %v", given, half)
				}
				half = checkHear(t, half, given)
				if checkHear(t, half, given) != half {
					t.Fatalf("%v is heard twice", given)
				}
			}
			o = after
		}
	}
	if half != (impl.InIn{Boot: 3, Epoch: 199, Seq: 16}) {
		t.Error(half)
	}
	// A life that was heard before has nothing more to say.
	for boot := 1; boot <= 2; boot++ {
		for epoch := 0; epoch <= 200; epoch++ {
			for seq := 0; seq <= 15; seq++ {
				if checkHear(t, half, number{boot, epoch, seq}) != half {
					t.Fatalf("%d %d %d is heard behind %v", boot, epoch, seq, half)
				}
			}
		}
	}
}
