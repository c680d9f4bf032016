package tests

import (
	"slices"
	"testing"

	"loop.example/casemate/impl"
)

// plainRun lets things happen one behind the other, straight along the document.
func plainRun(w impl.WldWorld, events []impl.WldEvent) impl.WldWorld {
	if !plainWorldOk(w) || len(events) > 500 {
		return impl.WldWorld{}
	}
	for _, e := range events {
		w = plainEvent(w, e)
	}
	return w
}

// plainCalm lets all nodes rise, and rounds pass, straight along the document.
func plainCalm(w impl.WldWorld, rounds int) impl.WldWorld {
	if !plainWorldOk(w) || rounds > 20 {
		return impl.WldWorld{}
	}
	for at := range w.Nodes {
		w = plainEvent(w, impl.WldEvent{Kind: 3, At: at})
	}
	for k := 0; k < rounds; k++ {
		for range w.Plan.Slots {
			w = plainEvent(w, impl.WldEvent{Kind: 1})
		}
	}
	return w
}

// plainBack says whether all nodes are up and know each other, straight along the document.
func plainBack(w impl.WldWorld) bool {
	if !plainWorldOk(w) {
		return false
	}
	for at, n := range w.Nodes {
		for other, m := range w.Nodes {
			if !n.Up || other != at && n.Heard.Boots[other] != m.Boot {
				return false
			}
		}
	}
	return true
}

// checkRun calls WldRun, and holds it against the document; the answer.
func checkRun(t *testing.T, w impl.WldWorld, events []impl.WldEvent) impl.WldWorld {
	t.Helper()
	after := impl.WldRun(w, events)
	if want := plainRun(w, events); !sameWorld(after, want) {
		t.Fatalf("%d events in %v:\nare %v\nnot %v", len(events), w, after, want)
	}
	return after
}

// checkCalm calls WldCalm and WldBack, and holds them against the document; the answer.
func checkCalm(t *testing.T, w impl.WldWorld, rounds int) impl.WldWorld {
	t.Helper()
	after := impl.WldCalm(w, rounds)
	if want := plainCalm(w, rounds); !sameWorld(after, want) {
		t.Fatalf("%d calm rounds in %v:\nare %v\nnot %v", rounds, w, after, want)
	}
	if impl.WldBack(after) != plainBack(after) {
		t.Fatalf("%v: back is %v", after, impl.WldBack(after))
	}
	return after
}

// drawEvents are so many things that may happen in a world, told ahead.
func drawEvents(d *draw, w impl.WldWorld, many int) []impl.WldEvent {
	out := make([]impl.WldEvent, many)
	for k := range out {
		out[k] = drawEvent(d, w)
	}
	return out
}

func TestRunValues(t *testing.T) {
	if impl.RunMaxEvents != 500 || impl.RunMaxRounds != 20 {
		t.Error(impl.RunMaxEvents, impl.RunMaxRounds)
	}
}

// The document's example: what happens, and what both cells see of it.
func TestRunExample(t *testing.T) {
	pass, lost := impl.WldEvent{Kind: impl.WldSlot}, impl.WldEvent{Kind: impl.WldSlot, N: impl.WldLost}
	events := []impl.WldEvent{{Kind: impl.WldInput, At: 0, N: 65}, pass, pass, pass, pass, lost, pass, {Kind: impl.WldFalls, At: 1}, {Kind: impl.WldRises, At: 1},
		{Kind: impl.WldInput, At: 0, N: 200}, pass, pass, pass, pass, pass, {Kind: impl.WldSlot, N: impl.WldBent, At: 11, V: 1}, {Kind: impl.WldSlot, N: impl.WldEarlier, At: 3}}
	w := checkRun(t, impl.WldNew(examplePlan()), events)
	first := []impl.CelSight{saw(5, 0, 65), saw(1, 0, 0, 65), saw(6, 0), saw(1, 0, 0, 0), saw(5, 0, 200), saw(1, 0, 0, 200), saw(6, 0), saw(1, 0, 0, 0), saw(6, 0)}
	second := []impl.CelSight{saw(4, 0), saw(7, 0, 0), saw(4, 0), saw(7, 0, 0), saw(3, 0, 0, 65), saw(7, 0, 3)}
	for range 5 {
		second = append(second, saw(4, 0), saw(7, 0, 0))
	}
	if !sameSights(w.Seen[0], first) || !sameSights(w.Seen[1], second) || w.Now != 13 || len(w.Log) != 12 {
		t.Errorf("%v\n%v\n%d slots, %d frames", w.Seen[0], w.Seen[1], w.Now, len(w.Log))
	}
}

func TestP6BehindACalmRoundAllKnowEachOther(t *testing.T) {
	t.Parallel()
	d, apart := &draw{x: 6}, 0
	for _, p := range append(livelyPlans(d, 30), widePlan(d)) {
		w := impl.WldNew(p)
		for k := range 1000 {
			w = impl.WldStep(w, drawEvent(d, w))
			if k%40 > 0 && k < 998 {
				continue
			}
			if !impl.WldBack(w) {
				apart++
			}
			after := checkCalm(t, w, 1)
			if !impl.WldBack(after) || after.Now != w.Now+len(p.Slots) {
				t.Fatalf("behind %d steps and a calm round they do not know each other: %v", k+1, after)
			}
		}
	}
	if apart < 200 {
		t.Error("too few worlds that were apart:", apart)
	}
}

func TestP6BackByHand(t *testing.T) {
	for _, c := range []worldChange{
		{"as it is", true, func(w *impl.WldWorld) {}},
		{"one is down", false, func(w *impl.WldWorld) { *w = impl.WldStep(*w, impl.WldEvent{Kind: impl.WldFalls, At: 2}) }},
		{"one has a later life", false, func(w *impl.WldWorld) {
			*w = impl.WldRun(*w, []impl.WldEvent{{Kind: impl.WldFalls, At: 0}, {Kind: impl.WldRises, At: 0}})
		}},
		{"one was never heard by another one", false, func(w *impl.WldWorld) { w.Nodes[2].Heard.Boots[1], w.Nodes[2].Heard.Seqs[1] = 0, 0 }},
		{"one is known in a life that will be", false, func(w *impl.WldWorld) { w.Nodes[1].Heard.Boots[2] = 2 }},
		{"another hello was heard", true, func(w *impl.WldWorld) { w.Nodes[1].Heard.Seqs[2] = 60000 }},
		{"a way does not know it", true, func(w *impl.WldWorld) { w.Nodes[0].Outs[0].Peer = 0 }},
		{"a node is not ok", false, func(w *impl.WldWorld) { w.Nodes[1].Hello = 60001 }},
		{"a sight is not ok", false, func(w *impl.WldWorld) { w.Seen[1] = []impl.CelSight{{}} }},
		{"the plan is not ok", false, func(w *impl.WldWorld) { w.Plan.Fuel = 0 }},
	} {
		w := copyWorld(impl.WldCalm(impl.WldNew(basePlan()), 1))
		if c.how(&w); impl.WldBack(w) != c.ok || plainBack(w) != c.ok {
			t.Errorf("%s: back is %v, and by the document %v", c.name, impl.WldBack(w), plainBack(w))
		}
	}
	alone := impl.WldNew(layPlan(1, spread(2, 1), nil, 0))
	if !impl.WldBack(alone) || impl.WldBack(impl.WldStep(alone, impl.WldEvent{Kind: impl.WldFalls})) {
		t.Error("one node alone knows all others, as long as it is up")
	}
	if impl.WldBack(impl.WldWorld{}) || impl.WldBack(impl.WldNew(basePlan())) {
		t.Error("nothing, and a world at its beginning, are back")
	}
}

func TestP6BackDrawn(t *testing.T) {
	t.Parallel()
	d, back := &draw{x: 61}, 0
	for range 3000 {
		w := drawWorld(d, livelyPlan(d))
		if d.below(2) == 0 {
			w = copyWorld(impl.WldCalm(w, 1))
		}
		if d.below(3) == 0 {
			bendWorld(d, &w)
		}
		if impl.WldBack(w) != plainBack(w) {
			t.Fatalf("%v: back is %v", w, impl.WldBack(w))
		}
		if plainBack(w) {
			back++
		}
	}
	if back < 300 {
		t.Error("too few are back:", back)
	}
}

func TestP18FirstPartAndRest(t *testing.T) {
	t.Parallel()
	d := &draw{x: 18}
	for k, p := range livelyPlans(d, 90) {
		w := impl.WldNew(p)
		if k%3 == 0 {
			w = drawWorld(d, p)
		}
		events := drawEvents(d, w, d.below(120))
		all := checkRun(t, w, events)
		for range 4 {
			cut := d.below(len(events) + 1)
			if rest := impl.WldRun(impl.WldRun(w, events[:cut]), events[cut:]); !sameWorld(rest, all) {
				t.Fatalf("cut at %d of %d: %v, not %v", cut, len(events), rest, all)
			}
		}
		step := w
		for _, e := range events {
			step = impl.WldStep(step, e)
		}
		if !sameWorld(step, all) {
			t.Fatalf("step by step %v, not %v", step, all)
		}
	}
}

func TestP18NoEventAndTheMost(t *testing.T) {
	t.Parallel()
	d := &draw{x: 181}
	for _, p := range livelyPlans(d, 12) {
		w := drawWorld(d, p)
		for _, none := range [][]impl.WldEvent{nil, {}} {
			if after := impl.WldRun(w, none); !sameWorld(after, w) || noWorld(after) {
				t.Fatalf("no event leaves %v, not %v", after, w)
			}
		}
		w = impl.WldNew(p)
		events := drawEvents(d, w, 1001)
		for _, many := range []int{499, 500} {
			if after := checkRun(t, w, events[:many]); noWorld(after) {
				t.Fatal(many, "events leave nothing")
			}
		}
		if halves := impl.WldRun(impl.WldRun(w, events[:250]), events[250:500]); !sameWorld(halves, impl.WldRun(w, events[:500])) {
			t.Fatal("two halves are not the whole:", halves)
		}
		for _, many := range []int{501, 502, 1000, 1001} {
			if after := impl.WldRun(w, events[:many]); !noWorld(after) {
				t.Fatal(many, "events leave", after)
			}
		}
		// What does nothing counts too.
		if after := impl.WldRun(w, make([]impl.WldEvent, 501)); !noWorld(after) {
			t.Fatal("501 events of no kind leave", after)
		}
		if after := impl.WldRun(w, make([]impl.WldEvent, 500)); !sameWorld(after, w) {
			t.Fatal("500 events of no kind leave", after)
		}
	}
}

func TestP19CalmBehindCalm(t *testing.T) {
	t.Parallel()
	d := &draw{x: 19}
	for k, p := range livelyPlans(d, 60) {
		w := drawWorld(d, p)
		if k%2 == 0 {
			w = through(t, d, p, d.below(60), func(was impl.WldWorld, e impl.WldEvent, is impl.WldWorld) {})
		}
		for _, n := range []int{1, 2, 1 + d.below(18), 19} {
			more := impl.WldCalm(impl.WldCalm(w, n), 1)
			if once := impl.WldCalm(w, n+1); !sameWorld(more, once) || noWorld(once) {
				t.Fatalf("%d calm rounds and one: %v, not %v", n, more, once)
			}
		}
		checkCalm(t, w, 1+d.below(4))
	}
}

func TestP19RoundsAtTheirEdges(t *testing.T) {
	t.Parallel()
	d, calm := &draw{x: 191}, 0
	// Times some numbers of slots these would not be below 0 any more.
	below := append([]int{-1, 0, -2, -1 << 62, -1 << 61, -3 << 61, -5 << 60}, farInts[:3]...)
	for _, p := range livelyPlans(d, 40) {
		w := drawWorld(d, p)
		for _, n := range below {
			after := checkCalm(t, w, n)
			if after.Now != w.Now || !sameLists(after.Log, w.Log) || !slices.EqualFunc(after.Seen, w.Seen, sameSights) {
				t.Fatalf("%d rounds take time: %v, and then %v", n, w, after)
			}
		}
		for _, n := range []int{0, 1, 19, 20} {
			after := impl.WldCalm(w, n)
			if after.Now != min(20000, w.Now+max(0, n)*len(p.Slots)) {
				t.Fatalf("%d rounds behind %d: %d", n, w.Now, after.Now)
			}
			for at, node := range after.Nodes {
				if was := w.Nodes[at]; !node.Up && (was.Up || was.Boot < 60000) || was.Up && node.Boot != was.Boot || !was.Up && was.Boot < 60000 && node.Boot != was.Boot+1 {
					t.Fatalf("a calm of %d: %v is %v", n, was, node)
				}
			}
			calm++
		}
		checkCalm(t, w, 20)
		for _, n := range append([]int{21, 22, 255}, farInts[3:]...) {
			if after := impl.WldCalm(w, n); !noWorld(after) {
				t.Fatalf("%d rounds leave %v", n, after)
			}
		}
	}
	if calm == 0 {
		t.Error("no calm")
	}
}

// A calm round may begin in the middle of one, and may end with time.
func TestP19FromAnySlot(t *testing.T) {
	t.Parallel()
	d := &draw{x: 192}
	for _, p := range livelyPlans(d, 10) {
		for now := range p.Slots {
			w := copyWorld(impl.WldNew(p))
			w.Now = now
			if after := checkCalm(t, w, 1); !impl.WldBack(after) || after.Now != now+len(p.Slots) {
				t.Fatalf("from the slot %d on: %v", now, after)
			}
			w.Now = 20000 - now
			if after := checkCalm(t, w, 2); after.Now != min(20000, 20000-now+2*len(p.Slots)) {
				t.Fatalf("%d slots ahead of the end: %d", now, after.Now)
			}
		}
	}
}

func TestRunMemory(t *testing.T) {
	t.Parallel()
	d := &draw{x: 193}
	for k, p := range livelyPlans(d, 50) {
		w := smaller(through(t, d, p, 20, func(was impl.WldWorld, e impl.WldEvent, is impl.WldWorld) {}))
		if k%2 == 0 {
			w = smaller(drawWorld(d, p))
		}
		made := drawMade(d, w)
		events := roomy(drawEvents(d, w, 6), impl.WldEvent{Kind: -7}, new([]any))
		kept := slices.Clone(events[:cap(events)])
		checkWorldMemory(t, "WldRun", w, made, func(w impl.WldWorld, b []byte) impl.WldWorld {
			events[0] = impl.WldEvent{Kind: 1, N: impl.WldMade, Bytes: b}
			kept[0].Kind, kept[0].N, kept[0].At, kept[0].V, kept[0].Bytes = 1, impl.WldMade, 0, 0, b
			return impl.WldRun(w, events)
		})
		for i, e := range events[:cap(events)] {
			if was := kept[i]; e.Kind != was.Kind || e.At != was.At || e.N != was.N || e.V != was.V || !same(e.Bytes, was.Bytes) {
				t.Fatalf("the event %v becomes %v", was, e)
			}
		}
		checkWorldMemory(t, "WldRun of nothing", w, made, func(w impl.WldWorld, b []byte) impl.WldWorld { return impl.WldRun(w, nil) })
		for _, rounds := range []int{-1, 0, 1, 21} {
			checkWorldMemory(t, "WldCalm", w, made, func(w impl.WldWorld, b []byte) impl.WldWorld { return impl.WldCalm(w, rounds) })
		}
	}
}
