package tests

import (
	"slices"
	"testing"

	"loop.example/casemate/impl"
)

// lives are the edges of a life, and numbers between; outside has what is none.
var (
	lives   = []int{1, 2, 3, 255, 256, 59998, 59999, 60000}
	noLives = append([]int{-60000, -257, -1, 60001, 60002, 65535, 65536, 65537, 120001}, farInts...)
)

// plainOutOk says whether a half is ok, straight along the document.
func plainOutOk(o impl.OutOut) bool {
	return o.Boot >= 1 && o.Boot <= 60000 && o.Peer >= 0 && o.Peer <= 60000 &&
		o.Epoch >= 0 && o.Epoch <= 200 && o.Seq >= 0 && o.Seq <= 15
}

// okOuts are halves that are ok, each part at its edges and between.
func okOuts() []impl.OutOut {
	var out []impl.OutOut
	for _, boot := range []int{1, 2, 300, 59999, 60000} {
		for _, peer := range []int{0, 1, 2, 300, 59999, 60000} {
			for _, epoch := range []int{0, 1, 15, 16, 100, 199, 200} {
				for _, seq := range []int{0, 1, 7, 14, 15} {
					out = append(out, impl.OutOut{Boot: boot, Peer: peer, Epoch: epoch, Seq: seq})
				}
			}
		}
	}
	return out
}

// wrongOuts are halves of which at least one part is not ok; of most just one is.
func wrongOuts() []impl.OutOut {
	out := []impl.OutOut{{}, {Peer: 1}, {Boot: -1, Peer: -1, Epoch: -1, Seq: -1}, {Boot: 60001, Peer: 60001, Epoch: 201, Seq: 16}}
	for k, o := range okOuts() {
		if k%37 != 0 && o.Seq != 15 {
			continue
		}
		for _, n := range append([]int{0}, noLives...) {
			boot := o
			boot.Boot = n
			out = append(out, boot)
		}
		for _, n := range noLives {
			peer := o
			peer.Peer = n
			out = append(out, peer)
		}
		for _, n := range append([]int{-256, -1, 201, 202, 255, 256, 60000}, farInts...) {
			epoch := o
			epoch.Epoch = n
			out = append(out, epoch)
		}
		for _, n := range append([]int{-256, -1, 16, 17, 255, 256, 60000}, farInts...) {
			seq := o
			seq.Seq = n
			out = append(out, seq)
		}
	}
	return out
}

func TestOutValues(t *testing.T) {
	if impl.OutMaxBoot != 60000 || impl.OutMaxEpoch != 200 || impl.OutMaxSeq != 15 {
		t.Error(impl.OutMaxBoot, impl.OutMaxEpoch, impl.OutMaxSeq)
	}
}

func TestOutOpen(t *testing.T) {
	for _, boot := range lives {
		if o := impl.OutOpen(boot); o != (impl.OutOut{Boot: boot}) || !impl.OutOk(o) {
			t.Error(boot, o)
		}
	}
	for _, boot := range append([]int{0}, noLives...) {
		if o := impl.OutOpen(boot); o != (impl.OutOut{}) || impl.OutOk(o) {
			t.Error(boot, o)
		}
	}
}

func TestOutOk(t *testing.T) {
	for _, o := range okOuts() {
		if !impl.OutOk(o) {
			t.Errorf("%v is not ok", o)
		}
	}
	for _, o := range wrongOuts() {
		if impl.OutOk(o) {
			t.Errorf("%v is ok", o)
		}
	}
	for epoch := -3; epoch <= 260; epoch++ {
		for seq := -3; seq <= 260; seq++ {
			o := impl.OutOut{Boot: 1, Epoch: epoch, Seq: seq}
			if impl.OutOk(o) != plainOutOk(o) {
				t.Fatalf("%v: %v", o, impl.OutOk(o))
			}
		}
	}
}

// checkNext calls OutNext, and holds it against the document; the answer.
func checkNext(t *testing.T, o impl.OutOut) (impl.OutOut, int, int, bool) {
	t.Helper()
	want, epoch, seq, fine := o, 0, 0, false
	if plainOutOk(o) && o.Epoch < 200 {
		epoch, seq, fine = o.Epoch, o.Seq, true
		want.Seq++
		if want.Seq == 16 {
			want.Epoch, want.Seq = want.Epoch+1, 0
		}
	}
	after, e, s, ok := impl.OutNext(o)
	if after != want || e != epoch || s != seq || ok != fine {
		t.Fatalf("OutNext of %v: %v %d %d %v, not %v %d %d %v", o, after, e, s, ok, want, epoch, seq, fine)
	}
	return after, e, s, ok
}

func TestP68Next(t *testing.T) {
	for _, o := range okOuts() {
		if after, _, _, _ := checkNext(t, o); !impl.OutOk(after) {
			t.Errorf("behind %v: %v is not ok", o, after)
		}
	}
	for epoch := 0; epoch <= 200; epoch++ {
		for seq := 0; seq <= 15; seq++ {
			checkNext(t, impl.OutOut{Boot: 60000, Peer: 9, Epoch: epoch, Seq: seq})
		}
	}
}

func TestP68NextByHand(t *testing.T) {
	for _, one := range []struct {
		epoch, seq     int
		behind, number int
		ok             bool
	}{
		{0, 0, 0, 1, true}, {0, 14, 0, 15, true}, {0, 15, 1, 0, true}, {1, 0, 1, 1, true},
		{199, 14, 199, 15, true}, {199, 15, 200, 0, true},
		{200, 0, 200, 0, false}, {200, 1, 200, 1, false}, {200, 14, 200, 14, false}, {200, 15, 200, 15, false},
	} {
		o, e, s, ok := impl.OutNext(impl.OutOut{Boot: 5, Peer: 6, Epoch: one.epoch, Seq: one.seq})
		epoch, seq := one.epoch, one.seq
		if !one.ok {
			epoch, seq = 0, 0
		}
		if o != (impl.OutOut{Boot: 5, Peer: 6, Epoch: one.behind, Seq: one.number}) || e != epoch || s != seq || ok != one.ok {
			t.Error(one, o, e, s, ok)
		}
	}
}

func TestP68NextOfWrong(t *testing.T) {
	for _, o := range wrongOuts() {
		if after, e, s, ok := impl.OutNext(o); after != o || e != 0 || s != 0 || ok {
			t.Fatalf("OutNext of %v: %v %d %d %v", o, after, e, s, ok)
		}
	}
}

func TestP68AsManyAsAreLeft(t *testing.T) {
	d := &draw{x: 68}
	starts := []impl.OutOut{impl.OutOpen(1), impl.OutOpen(60000), {Boot: 7, Peer: 3, Epoch: 199, Seq: 15}, {Boot: 7, Epoch: 200, Seq: 15}, {Boot: 7, Epoch: 200}}
	for range 40 {
		starts = append(starts, impl.OutOut{Boot: 1 + d.below(60000), Peer: d.below(60001), Epoch: d.below(201), Seq: d.below(16)})
	}
	for _, start := range starts {
		o, last := start, -1
		counts := map[int]int{}
		for n := 0; ; n++ {
			after, e, s, ok := checkNext(t, o)
			if !ok {
				break
			}
			if number := e*1000 + s; number <= last {
				t.Fatalf("from %v: the number %d %d does not rise", start, e, s)
			} else {
				last = number
			}
			if counts[e]++; n > 3200 {
				t.Fatalf("from %v: there is no end", start)
			}
			// What is learnt of the other node between numbers takes none away.
			if n%5 == 0 {
				after = impl.OutPeer(after, d.below(60001))
			}
			o = after
		}
		for epoch := range 202 {
			want := 0
			if epoch < 200 && epoch > start.Epoch {
				want = 16
			} else if epoch < 200 && epoch == start.Epoch {
				want = 16 - start.Seq
			}
			if counts[epoch] != want {
				t.Fatalf("from %v: %d numbers in the epoch %d, not %d", start, counts[epoch], epoch, want)
			}
		}
		for range 3 {
			if again, _, _, ok := checkNext(t, o); ok || again != o {
				t.Fatalf("from %v: behind the last number there is one more", start)
			}
		}
	}
}

// checkPeer calls OutPeer, and holds it against the document; the answer.
func checkPeer(t *testing.T, o impl.OutOut, peer int) impl.OutOut {
	t.Helper()
	var want impl.OutOut
	if plainOutOk(o) && peer >= 0 && peer <= 60000 {
		want = o
		want.Peer = max(o.Peer, peer)
	}
	after := impl.OutPeer(o, peer)
	if after != want {
		t.Fatalf("OutPeer of %v and %d: %v, not %v", o, peer, after, want)
	}
	return after
}

func TestP69Peer(t *testing.T) {
	for _, o := range okOuts() {
		for _, peer := range []int{0, 1, 2, 299, 300, 301, 59998, 59999, 60000, o.Boot, o.Epoch, o.Seq} {
			after := checkPeer(t, o, peer)
			if !impl.OutOk(after) || after.Peer < o.Peer || after.Peer < peer {
				t.Fatalf("OutPeer of %v and %d: %v", o, peer, after)
			}
			after.Peer = o.Peer
			if after != o {
				t.Fatalf("OutPeer of %v and %d: more than Peer changed", o, peer)
			}
		}
	}
}

func TestP69PeerByHand(t *testing.T) {
	o := impl.OutOut{Boot: 4, Peer: 7, Epoch: 3, Seq: 15}
	for peer, want := range map[int]int{0: 7, 6: 7, 7: 7, 8: 8, 60000: 60000} {
		if after := impl.OutPeer(o, peer); after != (impl.OutOut{Boot: 4, Peer: want, Epoch: 3, Seq: 15}) {
			t.Error(peer, after)
		}
	}
	// The last epoch has no numbers, and learns all the same.
	if after := impl.OutPeer(impl.OutOut{Boot: 4, Epoch: 200, Seq: 15}, 5); after != (impl.OutOut{Boot: 4, Peer: 5, Epoch: 200, Seq: 15}) {
		t.Error(after)
	}
}

func TestP69PeerOfWrong(t *testing.T) {
	for _, o := range okOuts() {
		for _, peer := range noLives {
			checkPeer(t, o, peer)
		}
	}
	for _, o := range wrongOuts() {
		for _, peer := range []int{-1, 0, 1, 300, 60000, 60001} {
			checkPeer(t, o, peer)
		}
	}
}

func TestP69AnyOrder(t *testing.T) {
	d := &draw{x: 69}
	outs := okOuts()
	for range 4000 {
		o := outs[d.below(len(outs))]
		peers := make([]int, 1+d.below(6))
		for k := range peers {
			peers[k] = []int{d.below(60001), d.below(4), o.Peer, 60000 - d.below(3)}[d.below(4)]
		}
		learnt := func() impl.OutOut {
			all := o
			for _, peer := range peers {
				before := all
				if all = checkPeer(t, all, peer); all.Peer < before.Peer {
					t.Fatalf("OutPeer of %v and %d goes back", before, peer)
				}
			}
			return all
		}
		first := learnt()
		if first.Peer != max(o.Peer, slices.Max(peers)) {
			t.Fatalf("%v behind %v: %v", o, peers, first)
		}
		for range 4 {
			a, b := d.below(len(peers)), d.below(len(peers))
			peers[a], peers[b] = peers[b], peers[a]
			if other := learnt(); other != first {
				t.Fatalf("%v behind %v: %v in one order, %v in another one", o, peers, first, other)
			}
		}
	}
}
