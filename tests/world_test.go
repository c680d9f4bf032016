package tests

import (
	"bytes"
	"reflect"
	"runtime"
	"slices"
	"sync"
	"testing"

	"loop.example/casemate/impl"
)

func sameWorld(a impl.WldWorld, b impl.WldWorld) bool {
	return a.Now == b.Now && samePlan(a.Plan, b.Plan) && slices.EqualFunc(a.Nodes, b.Nodes, sameNode) &&
		sameLists(a.Log, b.Log) && slices.EqualFunc(a.Seen, b.Seen, sameSights)
}

func copyWorld(w impl.WldWorld) impl.WldWorld {
	w.Plan, w.Log = copyPlan(w.Plan), copyLists(w.Log)
	w.Nodes, w.Seen = slices.Clone(w.Nodes), slices.Clone(w.Seen)
	for k := range w.Nodes {
		w.Nodes[k] = copyNode(w.Nodes[k])
	}
	for k := range w.Seen {
		w.Seen[k] = copySights(w.Seen[k])
	}
	return w
}

// noWorld says whether a world is nothing.
func noWorld(w impl.WldWorld) bool {
	return sameWorld(w, impl.WldWorld{})
}

// plainWorldOk says whether a world is ok, straight along the document.
func plainWorldOk(w impl.WldWorld) bool {
	if code, _ := plainPlan(w.Plan); code != 0 || len(w.Nodes) != w.Plan.Nodes || w.Now < 0 || w.Now > 20000 {
		return false
	}
	for at, n := range w.Nodes {
		if !plainNodeOk(w.Plan, n, at) {
			return false
		}
	}
	if len(w.Log) > 12 || len(w.Seen) != len(w.Plan.Cells) {
		return false
	}
	for _, b := range w.Log {
		if len(b) != 24 {
			return false
		}
	}
	for _, list := range w.Seen {
		if len(list) > 120 {
			return false
		}
		for _, s := range list {
			if !plainSightOk(s) {
				return false
			}
		}
	}
	return true
}

// plainRight says whether bytes are a frame that opens, with a body in it, straight along the document.
func plainRight(p impl.PlnPlan, b []byte) bool {
	if code, _ := plainPlan(p); code != 0 || len(b) != 24 || !plainHeadOk(plainHeadOf(b)) {
		return false
	}
	_, _, ok := plainOpened(p, plainHeadOf(b), b)
	return ok
}

// plainWorld is a world at its beginning, straight along the document.
func plainWorld(p impl.PlnPlan) impl.WldWorld {
	if code, _ := plainPlan(p); code != 0 {
		return impl.WldWorld{}
	}
	w := impl.WldWorld{Plan: p, Seen: make([][]impl.CelSight, len(p.Cells))}
	for at := range p.Nodes {
		w.Nodes = append(w.Nodes, plainRise(p, plainBegin(p, 0), at))
	}
	return w
}

// plainLies is what lies on the bus, straight along the document.
func plainLies(w impl.WldWorld, e impl.WldEvent, said []byte) []byte {
	switch e.N {
	case 0:
		return said
	case 2:
		bent := bytes.Clone(said)
		if e.At >= 0 && e.At < len(bent) && e.V >= 1 && e.V <= 255 {
			bent[e.At] ^= byte(e.V)
			if plainRight(w.Plan, bent) {
				return nil
			}
		}
		return bent
	case 3:
		if e.At >= 0 && e.At < len(w.Log) {
			return w.Log[len(w.Log)-1-e.At]
		}
	case 4:
		if !plainRight(w.Plan, e.Bytes) {
			return e.Bytes
		}
	}
	return nil
}

// plainSlot lets a slot pass, straight along the document; the nodes do all one behind the other.
func plainSlot(w *impl.WldWorld, e impl.WldEvent) {
	p, slot := w.Plan, w.Now%len(w.Plan.Slots)
	for at := range w.Nodes {
		after, seen := plainWindow(p, w.Nodes[at], at, slot)
		w.Nodes[at] = after
		for _, s := range seen {
			if cell := p.Turns[at][slot]; len(w.Seen[cell]) < 120 {
				w.Seen[cell] = append(w.Seen[cell], s)
			}
		}
	}
	node := p.Slots[slot].Node
	var said []byte
	w.Nodes[node], _ = plainMoves(p, w.Nodes[node], node, slot)
	w.Nodes[node], said, _ = plainSays(p, w.Nodes[node], node, slot)
	if lies := plainLies(*w, e, said); len(lies) > 0 {
		for at := range w.Nodes {
			if at != node {
				w.Nodes[at], _ = plainHears(p, w.Nodes[at], at, slot, lies)
			}
		}
	}
	if len(said) > 0 {
		w.Log = append(w.Log, said)
		w.Log = w.Log[max(0, len(w.Log)-12):]
	}
	w.Now++
}

// plainEvent lets one thing happen, straight along the document.
func plainEvent(w impl.WldWorld, e impl.WldEvent) impl.WldWorld {
	if !plainWorldOk(w) {
		return impl.WldWorld{}
	}
	w = copyWorld(w)
	there := e.At >= 0 && e.At < len(w.Nodes)
	switch {
	case e.Kind == 1 && w.Now < 20000:
		plainSlot(&w, e)
	case e.Kind == 2 && there:
		w.Nodes[e.At] = plainFall(w.Plan, w.Nodes[e.At], e.At)
	case e.Kind == 3 && there:
		w.Nodes[e.At] = plainRise(w.Plan, w.Nodes[e.At], e.At)
	case e.Kind == 4 && e.At >= 0 && e.At < len(w.Seen):
		node := w.Plan.Cells[e.At].Node
		w.Nodes[node] = plainNodeInput(w.Plan, w.Nodes[node], node, e.At, e.N)
	}
	return w
}

// checkEvent calls WldStep, and holds it against the document; the answer.
func checkEvent(t *testing.T, w impl.WldWorld, e impl.WldEvent) impl.WldWorld {
	t.Helper()
	after := impl.WldStep(w, e)
	if want := plainEvent(w, e); !sameWorld(after, want) {
		t.Fatalf("%v in %v:\nis  %v\nnot %v", e, w, after, want)
	}
	return after
}

// livelyProgram goes round: it counts, or reads, sends by each of its ways, takes from each of them, tells, and yields.
func livelyProgram(d *draw, ways []impl.PlnWay, cell int) []impl.VmOrder {
	code := []impl.VmOrder{{Op: 1, A: 1, B: 1}, {Op: 3, A: 2, B: 1}}
	if d.below(2) == 0 {
		code = append(code, impl.VmOrder{Op: 11, A: 2, B: 3})
	}
	code = append(code, impl.VmOrder{Op: 1, A: 0, B: d.below(7)}, impl.VmOrder{Op: 7, A: 0, B: 2}, impl.VmOrder{Op: 1, A: 3, B: d.below(3)})
	for k, w := range ways {
		if w.From == cell && len(code) < 17 {
			code = append(code, impl.VmOrder{Op: 1, A: 0, B: d.below(7)}, impl.VmOrder{Op: 9, A: k, B: 0, C: 1 + 2*d.below(2)})
		}
		if w.To == cell && len(code) < 17 {
			code = append(code, impl.VmOrder{Op: 10, A: k, B: 3, C: d.below(2)})
		}
	}
	if d.below(3) == 0 {
		code = append(code, impl.VmOrder{Op: 12, A: d.below(4)})
	}
	if d.below(2) == 0 {
		code = append(code, impl.VmOrder{Op: 13})
	}
	code = append(code, impl.VmOrder{Op: 1, A: 3}, impl.VmOrder{Op: 8, A: d.below(3), B: 3})
	if d.below(4) == 0 {
		// Now and then it falls, or stops.
		at := d.below(len(code))
		code[at] = []impl.VmOrder{{Op: 7, A: 2, B: 2}, {Op: 14}, {Op: 6, A: 1, B: 2}}[d.below(3)]
	}
	return code
}

// livelyPlan is a plan of whose cells most go round.
func livelyPlan(d *draw) impl.PlnPlan {
	p := drawPlan(d)
	for k := range p.Cells {
		if d.below(5) > 0 {
			p.Cells[k].Code = livelyProgram(d, p.Ways, k)
		}
	}
	for k := range p.Ways {
		if w := &p.Ways[k]; w.Guarded && d.below(2) == 0 {
			w.Guard = []impl.GrdRule{{Min: d.below(2), Max: 8, At: -1, High: 255, Zero: d.below(4) - 1, Cut: 1 + d.below(8)}}
		}
	}
	return p
}

// livelyPlans are plans with as many nodes as may be, more of those with several.
func livelyPlans(d *draw, many int) []impl.PlnPlan {
	plans := []impl.PlnPlan{examplePlan(), basePlan(), busPlan(), mostPlan()}
	for len(plans) < many {
		if p := livelyPlan(d); p.Nodes > 1 && len(p.Ways) > 0 || d.below(4) == 0 {
			plans = append(plans, p)
		}
	}
	return plans
}

// drawMade are bytes that a stranger may make in a slot: none, some, a frame that was said, one that is about right, one that is right.
func drawMade(d *draw, w impl.WldWorld) []byte {
	slot := max(0, w.Now) % len(w.Plan.Slots)
	at := d.below(len(w.Nodes))
	switch d.below(8) {
	case 0:
		return d.bytes([]int{0, 1, 23, 24, 25, 48}[d.below(6)])
	case 1, 2:
		if len(w.Log) > 0 {
			return bytes.Clone(w.Log[d.below(len(w.Log))])
		}
	}
	return drawFrame(d, w.Plan, w.Nodes[at], slot)
}

// drawTime is a slot that passes, in any of the ways; most of them pass as they are.
func drawTime(d *draw, w impl.WldWorld) impl.WldEvent {
	e := impl.WldEvent{Kind: impl.WldSlot, At: d.below(13), V: d.below(256)}
	switch d.below(16) {
	case 0:
		e.N = impl.WldLost
	case 1, 2:
		e.N, e.At = impl.WldBent, d.below(24)
		if d.below(3) == 0 {
			e.At, e.V = []int{-1, 0, 23, 24, 25}[d.below(5)], []int{-1, 0, 1, 255, 256, 257}[d.below(6)]
		}
	case 3, 4:
		e.N = impl.WldEarlier
		if d.below(3) == 0 {
			e.At = []int{-1, 0, len(w.Log) - 1, len(w.Log), 12}[d.below(5)]
		}
	case 5, 6:
		e.N, e.Bytes = impl.WldMade, drawMade(d, w)
	case 7:
		e.N = []int{-1, 5, 6, 255, 256}[d.below(5)]
	}
	return e
}

// drawEvent is something that may happen in a world whose plan is ok.
func drawEvent(d *draw, w impl.WldWorld) impl.WldEvent {
	near := []int{d.below(len(w.Nodes) + 1), d.below(len(w.Plan.Cells) + 1), d.below(len(w.Nodes)), -1}
	e := impl.WldEvent{At: near[d.below(4)], N: d.below(256), V: d.below(5), Bytes: d.bytes(d.below(3))}
	switch kind := d.below(40); {
	case kind == 0:
		e.Kind = impl.WldFalls
	case kind <= 3:
		e.Kind = impl.WldRises
	case kind <= 9:
		e.Kind, e.At = impl.WldInput, d.below(len(w.Plan.Cells)+1)
		if d.below(8) == 0 {
			e.At, e.N = near[d.below(4)], []int{-1, 0, 255, 256}[d.below(4)]
		}
	case kind == 10:
		e.Kind = append([]int{-1, 0, 5, 6, 255}, farInts...)[d.below(5+len(farInts))]
	default:
		return drawTime(d, w)
	}
	return e
}

// through runs a world from its beginning on, through so many things that happen, and tells each step.
func through(t *testing.T, d *draw, p impl.PlnPlan, many int, each func(was impl.WldWorld, e impl.WldEvent, is impl.WldWorld)) impl.WldWorld {
	t.Helper()
	w := impl.WldNew(p)
	for range many {
		e := drawEvent(d, w)
		after := impl.WldStep(w, e)
		each(w, e, after)
		w = after
	}
	return w
}

// drawSights is what a cell may have seen: little, or about as much as there is room for.
func drawSights(d *draw) []impl.CelSight {
	many := []int{0, 0, 1, 3, 7, 118, 119, 120}[d.below(8)]
	out := make([]impl.CelSight, many)
	for k := range out {
		out[k] = impl.CelSight{Kind: 1 + d.below(10), Bytes: d.bytes(d.below(9))}
		if out[k].Kind <= 4 {
			out[k].Way = d.below(10)
		}
	}
	return out
}

// joinNodes lets nodes that are up know each other more often than not, so that something may come.
func joinNodes(d *draw, w impl.WldWorld) {
	for k := range w.Plan.Ways {
		from, to := plainEnds(w.Plan, k)
		a, b := &w.Nodes[from], &w.Nodes[to]
		if from == to || !a.Up || !b.Up || d.below(4) == 0 {
			continue
		}
		a.Heard.Boots[to] = b.Boot
		for other := range w.Plan.Ways {
			if f, e := plainEnds(w.Plan, other); f == from && e == to {
				a.Outs[other].Peer = b.Boot
			}
		}
		o := a.Outs[k]
		b.Ins[k] = impl.InIn{Boot: a.Boot, Epoch: o.Epoch, Seq: max(0, o.Seq-d.below(2))}
	}
}

// drawWorld is a world that is ok, and has whatever it may have.
func drawWorld(d *draw, p impl.PlnPlan) impl.WldWorld {
	w := impl.WldWorld{Plan: p, Now: []int{0, 1, 19998, 19999, 20000, d.below(20001), d.below(20001), d.below(20001)}[d.below(8)]}
	for at := range p.Nodes {
		w.Nodes = append(w.Nodes, drawNode(d, p, at))
	}
	joinNodes(d, w)
	for range []int{0, 1, 11, 12, d.below(13)}[d.below(5)] {
		b := d.bytes(24)
		if at := d.below(p.Nodes); d.below(3) > 0 {
			b = drawFrame(d, p, w.Nodes[at], w.Now%len(p.Slots))
		}
		w.Log = append(w.Log, append(b, make([]byte, 24)...)[:24])
	}
	for range p.Cells {
		w.Seen = append(w.Seen, drawSights(d))
	}
	return w
}

// bendWorld changes something in a world.
func bendWorld(d *draw, w *impl.WldWorld) {
	cell, at, entry := d.below(len(w.Seen)+1), d.below(len(w.Nodes)+1), d.below(len(w.Log)+1)
	switch kind := d.below(10); {
	case kind == 0:
		w.Now = append([]int{-1, 0, 20000, 20001}, farInts...)[d.below(4+len(farInts))]
	case kind == 1:
		w.Nodes = resized(d, w.Nodes)
	case kind == 2:
		w.Seen = resized(d, w.Seen)
	case kind == 3 && len(w.Log) > 0:
		w.Log = slices.Repeat(w.Log, 13)[:12+d.below(2)]
	case kind == 4 && entry < len(w.Log):
		w.Log[entry] = d.bytes([]int{0, 23, 24, 25}[d.below(4)])
	case kind == 5 && cell < len(w.Seen):
		w.Seen[cell] = slices.Repeat([]impl.CelSight{{Kind: 6}}, 119+d.below(4))
	case kind == 6 && cell < len(w.Seen) && len(w.Seen[cell]) > 0:
		s := &w.Seen[cell][d.below(len(w.Seen[cell]))]
		*s = impl.CelSight{Kind: d.below(13) - 1, Way: d.below(12) - 1, Bytes: d.bytes(7 + d.below(3))}
	case kind == 7:
		bend(d, &w.Plan)
	case at < len(w.Nodes):
		bendNode(d, &w.Nodes[at])
	}
}

func TestWorldValues(t *testing.T) {
	got := []int{impl.WldSlot, impl.WldFalls, impl.WldRises, impl.WldInput, impl.WldPass, impl.WldLost, impl.WldBent, impl.WldEarlier, impl.WldMade, impl.WldMaxNow, impl.WldMaxLog}
	if !slices.Equal(got, []int{1, 2, 3, 4, 0, 1, 2, 3, 4, 20000, 12}) {
		t.Error(got)
	}
}

func TestP9AllNodesUp(t *testing.T) {
	t.Parallel()
	d := &draw{x: 9}
	for _, p := range append(livelyPlans(d, 200), nodePlans(d, 200)...) {
		w := impl.WldNew(p)
		if !sameWorld(w, plainWorld(p)) || !impl.WldOk(w) {
			t.Fatalf("WldNew of %v: %v", p, w)
		}
		for _, n := range w.Nodes {
			if !n.Up || n.Boot != 1 {
				t.Fatalf("WldNew of %v: %v", p, w)
			}
		}
	}
}

// nothingHappens says that a world is not ok, and that all functions answer nothing of it.
func nothingHappens(t *testing.T, name string, w impl.WldWorld) {
	t.Helper()
	if impl.WldOk(w) || impl.WldBack(w) {
		t.Fatalf("%s: ok is %v, back is %v, of %v", name, impl.WldOk(w), impl.WldBack(w), w)
	}
	events := []impl.WldEvent{{}, {Kind: 1}, {Kind: 1, N: 1}, {Kind: 1, N: 2, V: 1}, {Kind: 1, N: 3}, {Kind: 1, N: 4, Bytes: []byte{1}}, {Kind: 2}, {Kind: 3}, {Kind: 4, N: 5}, {Kind: 9}}
	for _, e := range events {
		if after := impl.WldStep(w, e); !noWorld(after) {
			t.Fatalf("%s: %v leaves %v", name, e, after)
		}
	}
	for _, rounds := range []int{-1, 0, 1, 20, 21} {
		if after := impl.WldCalm(w, rounds); !noWorld(after) {
			t.Fatalf("%s: %d calm rounds leave %v", name, rounds, after)
		}
	}
	if one, other := impl.WldRun(w, nil), impl.WldRun(w, events); !noWorld(one) || !noWorld(other) {
		t.Fatalf("%s: a run leaves %v and %v", name, one, other)
	}
}

func TestP9WrongPlansStartNoNode(t *testing.T) {
	t.Parallel()
	nothingHappens(t, "nothing", impl.WldWorld{})
	for k, broken := range breaks() {
		p := basePlan()
		w := impl.WldNew(p)
		broken(&p)
		if none := impl.WldNew(p); !noWorld(none) {
			t.Fatal("a plan with the code", k+1, "starts", none)
		}
		w.Plan = p
		nothingHappens(t, "a world of a wrong plan", w)
	}
	d, wrong := &draw{x: 91}, 0
	for range 3000 {
		p := copyPlan(livelyPlan(d))
		bend(d, &p)
		w := impl.WldNew(p)
		if !sameWorld(w, plainWorld(p)) {
			t.Fatalf("WldNew of %v: %v", p, w)
		}
		if code, _ := plainPlan(p); code != 0 {
			wrong++
		}
	}
	if wrong < 1000 {
		t.Error("too few wrong plans:", wrong)
	}
}

// worldChange is one change of a world by hand, and whether it is ok behind it.
type worldChange struct {
	name string
	ok   bool
	how  func(w *impl.WldWorld)
}

func TestWorldOkByHand(t *testing.T) {
	frames := func(many int, size int) [][]byte { return slices.Repeat([][]byte{make([]byte, size)}, many) }
	quiet := func(many int) []impl.CelSight { return slices.Repeat([]impl.CelSight{{Kind: 6}}, many) }
	for _, c := range []worldChange{
		{"as it is", true, func(w *impl.WldWorld) {}},
		{"no time", true, func(w *impl.WldWorld) { w.Now = 0 }},
		{"all time", true, func(w *impl.WldWorld) { w.Now = 20000 }},
		{"ahead of all time", false, func(w *impl.WldWorld) { w.Now = -1 }},
		{"past all time", false, func(w *impl.WldWorld) { w.Now = 20001 }},
		{"an empty log", true, func(w *impl.WldWorld) { w.Log = nil }},
		{"a full log", true, func(w *impl.WldWorld) { w.Log = frames(12, 24) }},
		{"a log too long", false, func(w *impl.WldWorld) { w.Log = frames(13, 24) }},
		{"a frame too short", false, func(w *impl.WldWorld) { w.Log = append(frames(11, 24), make([]byte, 23)) }},
		{"a frame too long", false, func(w *impl.WldWorld) { w.Log = append(frames(1, 25), frames(2, 24)...) }},
		{"no frame", false, func(w *impl.WldWorld) { w.Log = [][]byte{nil} }},
		{"a cell less that sees", false, func(w *impl.WldWorld) { w.Seen = w.Seen[:1] }},
		{"a cell more that sees", false, func(w *impl.WldWorld) { w.Seen = append(w.Seen, nil) }},
		{"nobody sees", false, func(w *impl.WldWorld) { w.Seen = nil }},
		{"all is seen", true, func(w *impl.WldWorld) { w.Seen[1] = quiet(120) }},
		{"too much is seen", false, func(w *impl.WldWorld) { w.Seen[1] = quiet(121) }},
		{"no sight", false, func(w *impl.WldWorld) { w.Seen[0] = append(quiet(3), impl.CelSight{}) }},
		{"no sight, ahead", false, func(w *impl.WldWorld) { w.Seen[1] = append([]impl.CelSight{{Kind: 11}}, quiet(3)...) }},
		{"a sight with a way that it has not", false, func(w *impl.WldWorld) { w.Seen[1] = []impl.CelSight{{Kind: 6, Way: 1}} }},
		{"a sight of a way that there isn't", true, func(w *impl.WldWorld) { w.Seen[1] = []impl.CelSight{{Kind: 1, Way: 9}} }},
		{"a sight of no way", false, func(w *impl.WldWorld) { w.Seen[1] = []impl.CelSight{{Kind: 1, Way: 10}} }},
		{"a sight with no message", false, func(w *impl.WldWorld) { w.Seen[1] = []impl.CelSight{{Kind: 7, Bytes: make([]byte, 9)}} }},
		{"a node less", false, func(w *impl.WldWorld) { w.Nodes = w.Nodes[:1] }},
		{"a node more", false, func(w *impl.WldWorld) { w.Nodes = append(w.Nodes, w.Nodes[1]) }},
		{"no nodes", false, func(w *impl.WldWorld) { w.Nodes = nil }},
		{"the first node wrong", false, func(w *impl.WldWorld) { w.Nodes[0].Boot = 60001 }},
		{"the last node wrong", false, func(w *impl.WldWorld) { w.Nodes[1].Hello = -1 }},
		{"nodes that have changed places", false, func(w *impl.WldWorld) { w.Nodes[0], w.Nodes[1] = w.Nodes[1], w.Nodes[0] }},
		{"all nodes down", true, func(w *impl.WldWorld) {
			w.Nodes[0], w.Nodes[1] = plainBegin(w.Plan, 0), plainBegin(w.Plan, 60000)
		}},
		{"a wrong plan", false, func(w *impl.WldWorld) { w.Plan.Secret = -1 }},
		{"another plan", false, func(w *impl.WldWorld) { w.Plan = basePlan() }},
		{"a life that nobody knows", true, func(w *impl.WldWorld) { w.Nodes[0].Heard.Boots[1] = 60000 }},
	} {
		w := copyWorld(impl.WldCalm(impl.WldNew(examplePlan()), 2))
		c.how(&w)
		if impl.WldOk(w) != c.ok || plainWorldOk(w) != c.ok {
			t.Errorf("%s: ok is %v, and by the document %v, not %v", c.name, impl.WldOk(w), plainWorldOk(w), c.ok)
		}
		if !c.ok {
			nothingHappens(t, c.name, w)
		}
	}
}

func TestWorldOkDrawn(t *testing.T) {
	t.Parallel()
	d, fine, wrong := &draw{x: 171}, 0, 0
	for range 6000 {
		w := drawWorld(d, livelyPlan(d))
		if !plainWorldOk(w) || !impl.WldOk(w) {
			t.Fatalf("%v is not ok", w)
		}
		bent := copyWorld(w)
		for range 1 + d.below(2) {
			bendWorld(d, &bent)
		}
		want := plainWorldOk(bent)
		if impl.WldOk(bent) != want {
			t.Fatalf("%v: ok is not %v", bent, want)
		}
		if want {
			fine++
			continue
		}
		wrong++
		if wrong%10 == 0 {
			nothingHappens(t, "a bent world", bent)
		}
	}
	if fine < 800 || wrong < 2000 {
		t.Error("too few of a sort:", fine, wrong)
	}
}

// Worlds of any sort stay ones, whatever happens, and become what the document says.
func TestP8DrawnWorlds(t *testing.T) {
	t.Parallel()
	d := &draw{x: 8}
	for range 1500 {
		w := drawWorld(d, livelyPlan(d))
		for range 12 {
			e := drawEvent(d, w)
			after := checkEvent(t, w, e)
			checkStillOne(t, w, e, after)
			w = after
		}
	}
}

// checkStillOne holds a step against the promise that a world stays one.
func checkStillOne(t *testing.T, was impl.WldWorld, e impl.WldEvent, is impl.WldWorld) {
	t.Helper()
	if !impl.WldOk(is) || !samePlan(is.Plan, was.Plan) || len(is.Seen) != len(was.Seen) {
		t.Fatalf("%v leaves no world of the same plan: %v, and then %v", e, was, is)
	}
	for k, list := range was.Seen {
		if len(is.Seen[k]) < len(list) || !sameSights(is.Seen[k][:len(list)], list) {
			t.Fatalf("behind %v the cell %d has seen %v, and not %v", e, k, is.Seen[k], list)
		}
	}
}

func TestP8WholeRuns(t *testing.T) {
	t.Parallel()
	d := &draw{x: 81}
	kinds, frames := make([]int, 11), 0
	for _, p := range livelyPlans(d, 60) {
		w := through(t, d, p, 150, func(was impl.WldWorld, e impl.WldEvent, is impl.WldWorld) {
			if want := plainEvent(was, e); !sameWorld(is, want) {
				t.Fatalf("%v in %v:\nis  %v\nnot %v", e, was, is, want)
			}
			checkStillOne(t, was, e, is)
		})
		for _, list := range w.Seen {
			for _, s := range list {
				kinds[s.Kind]++
			}
		}
		frames += len(w.Log)
	}
	for kind := 1; kind <= 10; kind++ {
		if kinds[kind] < 20 {
			t.Errorf("the kind %d is seen %d times", kind, kinds[kind])
		}
	}
	if frames == 0 {
		t.Error("nothing was said")
	}
}

// came says whether messages are a part of others, in order.
func came(got [][]byte, sent [][]byte) bool {
	for _, m := range sent {
		if len(got) > 0 && same(got[0], m) {
			got = got[1:]
		}
	}
	return len(got) == 0
}

// ofWay are the bytes of a cell's sights of a kind, by a way.
func ofWay(list []impl.CelSight, kind int, way int) [][]byte {
	var out [][]byte
	for _, s := range list {
		if s.Kind == kind && s.Way == way {
			out = append(out, s.Bytes)
		}
	}
	return out
}

func TestP2WhatComesWasSent(t *testing.T) {
	t.Parallel()
	d, far, guarded := &draw{x: 2}, 0, 0
	for _, p := range livelyPlans(d, 260) {
		last := impl.WldWorld{}
		through(t, d, p, 220, func(was impl.WldWorld, e impl.WldEvent, is impl.WldWorld) {
			for k, w := range p.Ways {
				if len(is.Seen[w.From]) >= 120 || len(is.Seen[w.To]) == len(was.Seen[w.To]) {
					continue
				}
				sent, got := ofWay(is.Seen[w.From], impl.SawSent, k), ofWay(is.Seen[w.To], impl.SawGot, k)
				if w.Guarded {
					var let [][]byte
					for _, m := range sent {
						if some, fine := plainDo(w.Guard, m); fine {
							let = append(let, some)
						}
					}
					sent = let
				}
				if !came(got, sent) {
					t.Fatalf("by the way %d of %v come %v, of %v", k, p, got, sent)
				}
			}
			last = is
		})
		for k, w := range p.Ways {
			if got := ofWay(last.Seen[w.To], impl.SawGot, k); !impl.PlnLocal(p, k) {
				far += len(got)
				if w.Guarded {
					guarded += len(got)
				}
			}
		}
	}
	if far < 300 || guarded < 50 {
		t.Error("too few messages come from other nodes, or through guards:", far, guarded)
	}
}

// A message that has come is behind all that comes by that way later, by hand: each slot is lost, said again, or passes.
func TestP2NoMessageTwice(t *testing.T) {
	t.Parallel()
	d := &draw{x: 22}
	p := countPlan()
	for range 250 {
		w := impl.WldCalm(impl.WldNew(p), 1)
		for range 75 {
			e := impl.WldEvent{Kind: impl.WldSlot, N: []int{0, 0, 1, 3, 3, 2}[d.below(6)], At: d.below(6), V: 1}
			if d.below(30) == 0 {
				e = impl.WldEvent{Kind: impl.WldFalls, At: 1}
				w = impl.WldStep(w, e)
				e.Kind = impl.WldRises
			}
			w = impl.WldStep(w, e)
		}
		ahead := 0
		for _, s := range w.Seen[1] {
			if s.Kind == impl.SawGot {
				if int(s.Bytes[0]) <= ahead {
					t.Fatalf("%v comes behind %d", s.Bytes, ahead)
				}
				ahead = int(s.Bytes[0])
			}
		}
		if ahead == 0 {
			t.Fatal("nothing came")
		}
	}
}

// countPlan is a plan of two nodes: the cell 0 sends 1, 2, 3 .., a byte each, and the cell 1 takes.
func countPlan() impl.PlnPlan {
	p, _ := impl.PlnParse([]string{"nodes 2", "secret 5", "fuel 8", "cell 0 1", "do set 1 1", "do add 2 1", "do set 0 0", "do store 0 2", "do send 0 0 1", "do set 3 0", "do yield", "do jump 0 3",
		"cell 1 1", "do take 0 0 1", "do yield", "do jump 0 3", "way 0 1 4", "slot 0 hello", "slot 1 hello", "slot 0 0", "turn - - 0", "turn 1 1 -"})
	return p
}

// otherPrograms is the plan with other programs in the cells that are meant.
func otherPrograms(d *draw, p impl.PlnPlan, meant func(cell int) bool) impl.PlnPlan {
	q := copyPlan(p)
	for k := range q.Cells {
		if meant(k) {
			q.Cells[k].Code = livelyProgram(d, q.Ways, k)
			if d.below(3) == 0 {
				q.Cells[k].Code = drawProgram(d, q.Ways, k)
			}
		}
	}
	return q
}

// otherInput is the same event, but that cells that are meant are given another byte.
func otherInput(d *draw, e impl.WldEvent, meant func(cell int) bool) impl.WldEvent {
	if e.Kind == impl.WldInput && meant(e.At) {
		e.N = d.below(256)
	}
	return e
}

func TestP3WhatACellSees(t *testing.T) {
	t.Parallel()
	d, compared := &draw{x: 3}, 0
	for _, p := range livelyPlans(d, 220) {
		cell := d.below(len(p.Cells))
		reach := impl.PlnReach(p, cell)
		others := func(k int) bool { return k >= 0 && k < len(reach) && !reach[k] }
		q := otherPrograms(d, p, others)
		twin := impl.WldNew(q)
		through(t, d, p, 120, func(was impl.WldWorld, e impl.WldEvent, is impl.WldWorld) {
			twin = impl.WldStep(twin, otherInput(d, e, others))
			for k := range reach {
				if reach[k] && !sameSights(is.Seen[k], twin.Seen[k]) {
					t.Fatalf("the cell %d sees %v in %v, but %v in %v", k, is.Seen[k], p, twin.Seen[k], q)
				}
				if !reach[k] {
					compared++
				}
			}
		})
	}
	if compared < 20000 {
		t.Error("too few cells are others:", compared)
	}
}

func TestP4TheBusShowsNoCell(t *testing.T) {
	t.Parallel()
	d := &draw{x: 4}
	all := func(k int) bool { return true }
	words, unlike := 0, 0
	for _, p := range livelyPlans(d, 220) {
		q := otherPrograms(d, p, all)
		twin := impl.WldNew(q)
		last := through(t, d, p, 120, func(was impl.WldWorld, e impl.WldEvent, is impl.WldWorld) {
			twin = impl.WldStep(twin, otherInput(d, e, all))
			if len(is.Log) != len(twin.Log) {
				t.Fatalf("%d frames, and %d", len(is.Log), len(twin.Log))
			}
			for k, b := range is.Log {
				if len(b) != len(twin.Log[k]) || !same(b[:11], twin.Log[k][:11]) {
					t.Fatalf("the frame %d of %v: %v and %v", k, p, b, twin.Log[k])
				}
				if b[0] == impl.FrmWord {
					words++
				}
				if !same(b, twin.Log[k]) {
					unlike++
				}
			}
			for at, n := range is.Nodes {
				m := twin.Nodes[at]
				if n.Up != m.Up || n.Boot != m.Boot || n.Hello != m.Hello || !slices.Equal(n.Outs, m.Outs) || !slices.Equal(n.Ins, m.Ins) || !sameBook(n.Heard, m.Heard) {
					t.Fatalf("behind %v the node %d of %v: %v and %v", e, at, p, n, m)
				}
			}
		})
		if len(last.Log) == 0 {
			t.Fatal("nothing was said")
		}
	}
	if words < 10000 || unlike < 1000 {
		t.Error("too few of a sort:", words, unlike)
	}
}

// checkSilence holds what strangers do in a slot against what it is if that is lost.
func checkSilence(t *testing.T, w impl.WldWorld, lost impl.WldWorld, e impl.WldEvent) {
	t.Helper()
	if after := impl.WldStep(w, e); !sameWorld(after, lost) {
		t.Fatalf("%v in %v leaves %v, not %v", e, w, after, lost)
	}
}

func TestP5NoMoreThanSilence(t *testing.T) {
	t.Parallel()
	d, right := &draw{x: 5}, 0
	try := func(w impl.WldWorld) {
		lost := impl.WldStep(w, impl.WldEvent{Kind: 1, N: impl.WldLost})
		for range 6 {
			b := drawMade(d, w)
			if plainRight(w.Plan, b) {
				right++
			}
			checkSilence(t, w, lost, impl.WldEvent{Kind: 1, N: impl.WldMade, Bytes: b, At: d.below(24), V: d.below(256)})
			checkSilence(t, w, lost, impl.WldEvent{Kind: 1, N: impl.WldBent, At: d.below(24), V: 1 + d.below(255)})
		}
	}
	for range 400 {
		try(drawWorld(d, livelyPlan(d)))
	}
	for _, p := range livelyPlans(d, 40) {
		through(t, d, p, 40, func(was impl.WldWorld, e impl.WldEvent, is impl.WldWorld) { try(is) })
	}
	if right < 3000 {
		t.Error("too few bytes that are made are right:", right)
	}
}

// pairPlan is a plan of two nodes without programs: the way 0 leads from the first one to the second one.
func pairPlan(secret int) impl.PlnPlan {
	return impl.PlnPlan{
		Nodes: 2, Secret: secret, Fuel: 1, Cells: []impl.PlnCell{{}, {Node: 1}},
		Ways:  []impl.PlnWay{{From: 0, To: 1, Depth: 2}},
		Slots: slotsOf([2]int{0, -1}, [2]int{1, -1}, [2]int{0, 0}), Turns: [][]int{{0, -1, -1}, {1, -1, -1}},
	}
}

// pairWorld is a world of that plan in which the nodes know each other, and a message waits; the slot of the way is next.
func pairWorld(secret int, seq int, m []byte) impl.WldWorld {
	w := copyWorld(impl.WldRun(impl.WldNew(pairPlan(secret)), []impl.WldEvent{{Kind: 1}, {Kind: 1}}))
	w.Nodes[0].Outs[0].Seq, w.Nodes[0].Out[0].Items = seq, [][]byte{m}
	return w
}

// What a pair of nodes does with a word that is made: all of it is right but one thing, or all of it is.
func TestP5MadeByHand(t *testing.T) {
	p, w := pairPlan(9), pairWorld(9, 3, []byte{5, 6})
	lost := checkEvent(t, w, impl.WldEvent{Kind: 1, N: impl.WldLost})
	h := impl.FrmHead{Kind: 2, To: 1, Boot: 1, Peer: 1, Seq: 3}
	word := plainSaid(p, h, []byte{5, 6}, true)
	if pass := checkEvent(t, w, impl.WldEvent{Kind: 1}); !sameLists(pass.Nodes[1].In[0].Items, [][]byte{{5, 6}}) || !same(pass.Log[2], word) {
		t.Fatal("the word that is said does not come:", pass)
	}
	later := h
	later.Seq = 9
	made := [][]byte{nil, {}, {1}, word[:23], append(bytes.Clone(word), 0), make([]byte, 24), slices.Repeat([]byte{255}, 24), word,
		plainSaid(p, later, []byte{7}, true), plainSaid(p, later, nil, false), plainFrame(plainFrameKey(p, later)+1, later, plainBody([]byte{7}, true)),
		plainFrame(plainFrameKey(p, later), later, slices.Repeat([]byte{1}, 9)), w.Log[0], w.Log[1]}
	for _, b := range made {
		checkSilence(t, w, lost, impl.WldEvent{Kind: 1, N: impl.WldMade, Bytes: b})
	}
	// In a slot for a hello, too: one that is right, and would be heard.
	hello := impl.FrmHead{Kind: 1, To: 255, Way: 255, Boot: 2, Seq: 7}
	w.Now = 3
	lost = checkEvent(t, w, impl.WldEvent{Kind: 1, N: impl.WldLost})
	for _, b := range [][]byte{plainSaid(p, hello, nil, false), plainSaid(p, hello, []byte{1}, true), plainFrame(1, hello, plainBody(nil, false)), w.Log[0]} {
		checkSilence(t, w, lost, impl.WldEvent{Kind: 1, N: impl.WldMade, Bytes: b})
	}
}

func TestP5BentByHand(t *testing.T) {
	w := pairWorld(9, 3, []byte{5, 6})
	lost, pass := checkEvent(t, w, impl.WldEvent{Kind: 1, N: impl.WldLost}), checkEvent(t, w, impl.WldEvent{Kind: 1})
	for at := range 24 {
		for v := 1; v <= 255; v++ {
			checkSilence(t, w, lost, impl.WldEvent{Kind: 1, N: impl.WldBent, At: at, V: v})
		}
	}
	// Where no byte is turned, what was said lies there.
	for _, at := range append([]int{-1, 0, 23, 24, 25, 255, 256}, farInts...) {
		for _, v := range append([]int{-255, -1, 0, 1, 255, 256, 257, 511}, farInts...) {
			want := pass
			if at >= 0 && at < 24 && v >= 1 && v <= 255 {
				want = lost
			}
			if after := checkEvent(t, w, impl.WldEvent{Kind: 1, N: impl.WldBent, At: at, V: v}); !sameWorld(after, want) {
				t.Errorf("the byte %d turned by %d: %v", at, v, after)
			}
		}
	}
	// Nothing was said: there is no byte to turn.
	w.Nodes[0].Outs[0].Epoch = 200
	lost = checkEvent(t, w, impl.WldEvent{Kind: 1, N: impl.WldLost})
	for _, at := range []int{-1, 0, 23, 24} {
		checkSilence(t, w, lost, impl.WldEvent{Kind: 1, N: impl.WldBent, At: at, V: 1})
	}
}

// A frame of this secret is right too when its number is bent from 2 to 12: a node would take it for what was said later. What is
// bent and right does not lie on the bus. (Such secrets are rare; this one was looked for, apart from the program.)
func TestP5BentAndRight(t *testing.T) {
	m := []byte{1, 2, 3, 4, 5, 6, 7, 8}
	for _, seq := range []int{2, 12} {
		w := pairWorld(710557722, seq, m)
		said := checkEvent(t, w, impl.WldEvent{Kind: 1}).Log[2]
		bent := bytes.Clone(said)
		if bent[10] ^= 14; !plainRight(w.Plan, said) || !plainRight(w.Plan, bent) || !impl.WldRight(w.Plan, bent) {
			t.Fatalf("%v bent is %v, and not right", said, bent)
		}
		if _, code := impl.NodHears(w.Plan, w.Nodes[1], 1, 2, bent); code != impl.BusBrought {
			t.Fatal("the bent frame is not taken, but", code)
		}
		lost := checkEvent(t, w, impl.WldEvent{Kind: 1, N: impl.WldLost})
		checkSilence(t, w, lost, impl.WldEvent{Kind: 1, N: impl.WldBent, At: 10, V: 14})
		checkSilence(t, w, lost, impl.WldEvent{Kind: 1, N: impl.WldMade, Bytes: bent})
	}
}

func TestP10WhoFallsTakesNobodyAlong(t *testing.T) {
	t.Parallel()
	d, changed := &draw{x: 10}, 0
	try := func(w impl.WldWorld) {
		for at := -1; at <= len(w.Nodes); at++ {
			for _, kind := range []int{impl.WldFalls, impl.WldRises} {
				after := checkEvent(t, w, impl.WldEvent{Kind: kind, At: at, N: d.below(5), V: 1})
				rest := copyWorld(after)
				if at >= 0 && at < len(w.Nodes) {
					rest.Nodes[at] = w.Nodes[at]
				}
				if !sameWorld(rest, w) {
					t.Fatalf("the kind %d at %d of %v leaves %v", kind, at, w, after)
				}
				if !sameWorld(after, w) {
					changed++
				}
			}
		}
		for _, at := range farInts {
			for _, kind := range []int{impl.WldFalls, impl.WldRises, impl.WldInput} {
				if after := impl.WldStep(w, impl.WldEvent{Kind: kind, At: at, N: 1}); !sameWorld(after, w) {
					t.Fatalf("the kind %d at %d leaves %v", kind, at, after)
				}
			}
		}
	}
	for range 250 {
		try(drawWorld(d, livelyPlan(d)))
	}
	for _, p := range livelyPlans(d, 15) {
		through(t, d, p, 40, func(was impl.WldWorld, e impl.WldEvent, is impl.WldWorld) { try(is) })
	}
	if changed < 1000 {
		t.Error("too few nodes fall or rise:", changed)
	}
}

// A node that has lived as often as may be rises no more; one life less, and it does.
func TestP10TheLastLife(t *testing.T) {
	w := impl.WldNew(pairPlan(9))
	for _, c := range []struct {
		boot int
		up   bool
		then int
	}{{0, true, 1}, {59999, true, 60000}, {60000, false, 60000}} {
		w.Nodes[1] = plainBegin(w.Plan, c.boot)
		after := checkEvent(t, w, impl.WldEvent{Kind: impl.WldRises, At: 1})
		if after.Nodes[1].Up != c.up || after.Nodes[1].Boot != c.then {
			t.Error("behind", c.boot, "lives:", after.Nodes[1])
		}
		calm := impl.WldCalm(w, 1)
		if impl.WldBack(calm) != c.up || calm.Nodes[1].Up != c.up {
			t.Error("behind", c.boot, "lives and a calm:", calm.Nodes[1])
		}
	}
}

func TestP11NothingComesButByAWay(t *testing.T) {
	t.Parallel()
	d, many := &draw{x: 11}, 0
	for _, p := range livelyPlans(d, 150) {
		w := through(t, d, p, 120, func(was impl.WldWorld, e impl.WldEvent, is impl.WldWorld) {})
		for cell, list := range w.Seen {
			for _, s := range list {
				if s.Kind > impl.SawNone {
					continue
				}
				many++
				if s.Way >= len(p.Ways) {
					t.Fatalf("the cell %d sees %v of a way that there isn't", cell, s)
				}
				end := p.Ways[s.Way].From
				if s.Kind == impl.SawGot || s.Kind == impl.SawNone {
					end = p.Ways[s.Way].To
				}
				if cell != end {
					t.Fatalf("the cell %d sees %v, which is for the cell %d", cell, s, end)
				}
			}
		}
	}
	if many < 10000 {
		t.Error("too few sights of ways:", many)
	}
}

func TestP12TheSecretMakesNoDifference(t *testing.T) {
	t.Parallel()
	d, got := &draw{x: 12}, 0
	for _, p := range livelyPlans(d, 180) {
		q := copyPlan(p)
		if q.Secret = []int{0, 1, 4294967295, d.below(4294967296)}[d.below(4)]; q.Secret == p.Secret {
			q.Secret = 12
		}
		w, twin := impl.WldNew(p), impl.WldNew(q)
		for range 120 {
			e := drawEvent(d, w)
			if e.N == impl.WldMade {
				continue
			}
			w, twin = impl.WldStep(w, e), impl.WldStep(twin, e)
			if !slices.EqualFunc(w.Seen, twin.Seen, sameSights) {
				t.Fatalf("behind %v the secrets %d and %d show %v and %v", e, p.Secret, q.Secret, w.Seen, twin.Seen)
			}
		}
		for k, way := range p.Ways {
			got += len(ofWay(w.Seen[way.To], impl.SawGot, k))
		}
		if len(w.Log) > 0 && same(w.Log[0], twin.Log[0]) {
			t.Fatalf("the secrets %d and %d put the same on the bus", p.Secret, q.Secret)
		}
	}
	if got < 500 {
		t.Error("too few messages come:", got)
	}
}

// logged is the frame that a step has put on the bus; nothing, if Log is as it was.
func logged(t *testing.T, was impl.WldWorld, is impl.WldWorld) []byte {
	t.Helper()
	if sameLists(was.Log, is.Log) {
		return nil
	}
	last := len(is.Log) - 1
	rest := is.Log[:last]
	if !sameLists(rest, was.Log[len(was.Log)-len(rest):]) || len(is.Log) != min(len(was.Log)+1, 12) {
		t.Fatalf("Log was %v, and is %v", was.Log, is.Log)
	}
	return is.Log[last]
}

func TestP13NoNumberTwice(t *testing.T) {
	t.Parallel()
	d, all := &draw{x: 13}, 0
	for _, p := range livelyPlans(d, 120) {
		numbers := map[impl.FrmHead]int{}
		through(t, d, p, 300, func(was impl.WldWorld, e impl.WldEvent, is impl.WldWorld) {
			if b := logged(t, was, is); b != nil {
				h := plainHeadOf(b)
				h.To, h.Peer = 0, 0
				if numbers[h]++; numbers[h] > 1 {
					t.Fatalf("the number of %v is used twice", plainHeadOf(b))
				}
			}
		})
		all += len(numbers)
	}
	if all < 15000 {
		t.Error("too few frames:", all)
	}
}

// ownHead is the head of the frame that the slot's node owes to the bus, straight along the document; no head, if none.
func ownHead(w impl.WldWorld) impl.FrmHead {
	s := w.Plan.Slots[w.Now%len(w.Plan.Slots)]
	n := w.Nodes[s.Node]
	if !n.Up || w.Now == 20000 {
		return impl.FrmHead{}
	}
	if s.Way == -1 {
		if n.Hello == 60000 {
			return impl.FrmHead{}
		}
		return impl.FrmHead{Kind: 1, From: s.Node, To: 255, Way: 255, Boot: n.Boot, Seq: n.Hello}
	}
	_, to := plainEnds(w.Plan, s.Way)
	if o := n.Outs[s.Way]; to != s.Node && o.Epoch < 200 {
		return impl.FrmHead{Kind: 2, From: s.Node, To: to, Way: s.Way, Boot: n.Boot, Peer: o.Peer, Epoch: o.Epoch, Seq: o.Seq}
	}
	return impl.FrmHead{}
}

func TestP14EachSlotIsItsOwners(t *testing.T) {
	t.Parallel()
	d, said, none := &draw{x: 14}, 0, 0
	check := func(was impl.WldWorld, e impl.WldEvent, is impl.WldWorld) {
		want := impl.FrmHead{}
		if e.Kind == impl.WldSlot {
			want = ownHead(was)
		}
		b := logged(t, was, is)
		switch {
		case want.Kind == 0 && b == nil:
			none++
		case len(b) != 24 || plainHeadOf(b) != want || !impl.WldRight(is.Plan, b):
			t.Fatalf("behind %v in %v there is %v on the bus, not %v", e, was, b, want)
		default:
			said++
		}
	}
	for _, p := range livelyPlans(d, 60) {
		through(t, d, p, 200, check)
	}
	for range 1500 {
		w := drawWorld(d, livelyPlan(d))
		e := drawTime(d, w)
		check(w, e, impl.WldStep(w, e))
	}
	if said < 5000 || none < 2000 {
		t.Error("too few of a sort:", said, none)
	}
}

// The slot's node says nothing when it has no number left, or has fallen; what passes, or is lost, or is made then does nothing.
func TestP14NothingToSay(t *testing.T) {
	for name, how := range map[string]func(w *impl.WldWorld){
		"no hello left":  func(w *impl.WldWorld) { w.Now, w.Nodes[0].Hello = 3, 60000 },
		"no number left": func(w *impl.WldWorld) { w.Nodes[0].Outs[0] = impl.OutOut{Boot: 1, Peer: 1, Epoch: 200, Seq: 15} },
		"fallen":         func(w *impl.WldWorld) { w.Nodes[0] = plainBegin(w.Plan, 60000) },
		"another slot":   func(w *impl.WldWorld) { w.Now, w.Nodes[1] = 4, plainBegin(w.Plan, 1) },
	} {
		w := pairWorld(9, 3, []byte{5})
		how(&w)
		for n := -1; n <= 5; n++ {
			after := checkEvent(t, w, impl.WldEvent{Kind: 1, N: n, At: 2, V: 1, Bytes: w.Log[0]})
			if after.Now != w.Now+1 || !sameLists(after.Log, w.Log) || !slices.EqualFunc(after.Nodes, w.Nodes, sameNode) {
				t.Errorf("%s, by %d: %v", name, n, after)
			}
		}
	}
	// One number less, and it says it.
	for slot, how := range map[int]func(n *impl.NodNode){
		3: func(n *impl.NodNode) { n.Hello = 59999 },
		2: func(n *impl.NodNode) { n.Outs[0] = impl.OutOut{Boot: 1, Peer: 1, Epoch: 199, Seq: 15} },
	} {
		w := pairWorld(9, 3, []byte{5})
		w.Now = slot
		how(&w.Nodes[0])
		w = checkEvent(t, w, impl.WldEvent{Kind: 1})
		if len(w.Log) != 3 {
			t.Error("the last number is not said in the slot", slot)
		}
	}
}

// alonePlan is a lively plan of which a cell is not Again, and neither sends nor takes nor reads; which cell that is.
func alonePlan(d *draw) (impl.PlnPlan, int) {
	p := livelyPlan(d)
	cell := d.below(len(p.Cells))
	c := &p.Cells[cell]
	c.Again, c.Code = false, nil
	for range 1 + d.below(22) {
		o := drawnOrders[d.below(len(drawnOrders))]
		if o.Op >= 9 && o.Op <= 11 || o.Op == 14 || d.below(2) == 0 {
			o = []impl.VmOrder{{Op: 12, A: d.below(4)}, {Op: 1, A: d.below(4), B: d.below(9)}, {Op: 3, A: d.below(4), B: d.below(4)}, {Op: 13}}[d.below(4)]
		}
		c.Code = append(c.Code, o)
	}
	if d.below(4) > 0 {
		// Most go round.
		c.Code = append(c.Code, impl.VmOrder{Op: 1, A: 3}, impl.VmOrder{Op: 8, B: 3})
	}
	for k := range c.Code {
		o := &c.Code[k]
		if (o.Op == 6 || o.Op == 7) && d.below(4) > 0 {
			// Few of them fall soon.
			*o = impl.VmOrder{Op: 2, A: o.A, B: o.B}
		}
		if o.Op == 8 && o.A > 0 {
			o.A = d.below(len(c.Code) + 1)
		}
	}
	return p, cell
}

// aloneTurn is a turn of a machine by itself; what it tells.
func aloneTurn(s impl.VmState, code []impl.VmOrder, fuel int) (impl.VmState, [][]byte) {
	var told [][]byte
	for range fuel {
		after, a := impl.VmStep(s, code)
		s = after
		if a.Kind == impl.VmTells {
			told = append(told, a.Bytes)
		}
		if a.Kind == impl.VmYields {
			break
		}
	}
	return s, told
}

func TestP15AsIfItWereAlone(t *testing.T) {
	t.Parallel()
	d, tells := &draw{x: 15}, 0
	for range 250 {
		p, cell := alonePlan(d)
		node, state, told := p.Cells[cell].Node, impl.VmNew(), [][]byte(nil)
		through(t, d, p, 100, func(was impl.WldWorld, e impl.WldEvent, is impl.WldWorld) {
			switch {
			case !is.Nodes[node].Up:
				// In its next life it begins where it began.
				state = impl.VmNew()
			case e.Kind == impl.WldSlot && p.Turns[node][was.Now%len(p.Slots)] == cell:
				var more [][]byte
				state, more = aloneTurn(state, p.Cells[cell].Code, p.Fuel)
				told = append(told, more...)
			}
			if !sameState(state, is.Nodes[node].Cells[cell].State) {
				t.Fatalf("the cell %d of %v is %v, and alone it is %v", cell, p, is.Nodes[node].Cells[cell].State, state)
			}
			tale := ofWay(is.Seen[cell], impl.SawTold, 0)
			if len(tale) > len(told) || !sameLists(tale, told[:len(tale)]) || len(tale) < len(told) && len(is.Seen[cell]) < 120 {
				t.Fatalf("the cell %d of %v tells %v, and alone %v", cell, p, tale, told)
			}
		})
		tells += len(told)
	}
	if tells < 1500 {
		t.Error("too little is told:", tells)
	}
}

func TestP16WhatIsLostIsLostForWhoHears(t *testing.T) {
	t.Parallel()
	d, unlike := &draw{x: 16}, 0
	try := func(w impl.WldWorld) {
		pass, lost := checkEvent(t, w, impl.WldEvent{Kind: 1}), checkEvent(t, w, impl.WldEvent{Kind: 1, N: impl.WldLost})
		node := w.Plan.Slots[w.Now%len(w.Plan.Slots)].Node
		if pass.Now != lost.Now || !sameLists(pass.Log, lost.Log) || !slices.EqualFunc(pass.Seen, lost.Seen, sameSights) || !sameNode(pass.Nodes[node], lost.Nodes[node]) {
			t.Fatalf("%v passes as %v, and is lost as %v", w, pass, lost)
		}
		if !sameWorld(pass, lost) {
			unlike++
		}
	}
	for range 400 {
		try(drawWorld(d, livelyPlan(d)))
	}
	for _, p := range livelyPlans(d, 20) {
		through(t, d, p, 60, func(was impl.WldWorld, e impl.WldEvent, is impl.WldWorld) { try(is) })
	}
	if unlike < 300 {
		t.Error("too few slots in which something is heard:", unlike)
	}
}

func TestP17TimeGoesOnBySlotsAlone(t *testing.T) {
	t.Parallel()
	d := &draw{x: 17}
	kinds := append([]int{-1, 0, 1, 2, 3, 4, 5, 6, 255, 256}, farInts...)
	try := func(w impl.WldWorld) {
		for _, kind := range kinds {
			e := drawTime(d, w)
			e.Kind, e.At = kind, d.below(len(w.Nodes))
			after := impl.WldStep(w, e)
			switch {
			case kind == impl.WldSlot && w.Now < 20000:
				if after.Now != w.Now+1 {
					t.Fatalf("behind the slot %d it is %d", w.Now, after.Now)
				}
			case after.Now != w.Now || !sameLists(after.Log, w.Log) || !slices.EqualFunc(after.Seen, w.Seen, sameSights):
				t.Fatalf("%v in %v leaves %v", e, w, after)
			case kind < impl.WldFalls || kind > impl.WldInput:
				if !sameWorld(after, w) {
					t.Fatalf("%v in %v leaves %v", e, w, after)
				}
			}
		}
	}
	for range 400 {
		try(drawWorld(d, livelyPlan(d)))
	}
	for _, p := range livelyPlans(d, 10) {
		through(t, d, p, 40, func(was impl.WldWorld, e impl.WldEvent, is impl.WldWorld) { try(is) })
	}
}

func TestP17TheLastSlot(t *testing.T) {
	w := pairWorld(9, 3, []byte{5})
	// 19998 is the first slot of a round, 20000 would be the third one.
	w.Now = 19997
	for want := 19998; want <= 20000; want++ {
		if w = checkEvent(t, w, impl.WldEvent{Kind: 1}); w.Now != want {
			t.Fatal(w.Now, "and not", want)
		}
	}
	if len(w.Log) != 5 || len(w.Nodes[1].In[0].Items) != 1 {
		t.Error("up to the last slot:", w)
	}
	for n := -1; n <= 5; n++ {
		if after := checkEvent(t, w, impl.WldEvent{Kind: 1, N: n, V: 1, Bytes: w.Log[0]}); !sameWorld(after, w) {
			t.Errorf("behind the last slot, by %d: %v", n, after)
		}
	}
	if after := checkEvent(t, w, impl.WldEvent{Kind: impl.WldFalls, At: 1}); after.Nodes[1].Up || after.Now != 20000 {
		t.Error("behind the last slot nothing falls:", after)
	}
}

// What was said long ago may be said again: a hello of this life that the other node has not heard yet.
func TestWorldEarlierByHand(t *testing.T) {
	for _, many := range []int{0, 1, 11, 12} {
		w := impl.WldNew(pairPlan(9))
		w.Nodes[0].Hello, w.Now = 30, 3
		for k := range many {
			// The hello with the number k + 1 is the k-th one of Log.
			w.Log = append(w.Log, plainSaid(w.Plan, impl.FrmHead{Kind: 1, To: 255, Way: 255, Boot: 1, Seq: k + 1}, nil, false))
		}
		for _, at := range append([]int{-2, -1, 0, 1, 5, 10, 11, 12, 13, 24}, farInts...) {
			after := checkEvent(t, w, impl.WldEvent{Kind: 1, N: impl.WldEarlier, At: at})
			boot, seq := 0, 0
			if at >= 0 && at < many {
				boot, seq = 1, many-at
			}
			if heard := after.Nodes[1].Heard; heard.Boots[0] != boot || heard.Seqs[0] != seq {
				t.Errorf("of %d the %d-th from the end: %v is heard, not %d", many, at, heard, seq)
			}
			last := after.Log[len(after.Log)-1]
			if len(after.Log) != min(12, many+1) || plainHeadOf(last).Seq != 30 || many == 12 && plainHeadOf(after.Log[0]).Seq != 2 {
				t.Errorf("of %d: Log is %v", many, after.Log)
			}
		}
	}
}

// An earlier frame lies there also if the slot's node is down, and does what it says; the slot's node does not hear.
func TestWorldEarlierOfOneThatFell(t *testing.T) {
	w := pairWorld(9, 3, []byte{5})
	w.Now, w.Nodes[0], w.Nodes[1].Heard = 3, plainBegin(w.Plan, 1), impl.HrdBook{Boots: make([]int, 2), Seqs: make([]int, 2)}
	w.Nodes[1].Outs = plainWorld(w.Plan).Nodes[1].Outs
	after := checkEvent(t, w, impl.WldEvent{Kind: 1, N: impl.WldEarlier, At: 1})
	if after.Nodes[1].Heard.Boots[0] != 1 || len(after.Log) != 2 || after.Nodes[0].Up {
		t.Error(after)
	}
	// No node hears in its own slot, not even another node's frame.
	w.Now = 4
	after = checkEvent(t, w, impl.WldEvent{Kind: 1, N: impl.WldEarlier, At: 1})
	if after.Nodes[1].Heard.Boots[0] != 0 || len(after.Log) != 3 {
		t.Error(after)
	}
}

func TestWorldSeenIsFull(t *testing.T) {
	p := handPlan(6, false, "tell 0", "read 1 2", "tell 1", "stop")
	sees := []impl.CelSight{saw(7, 0, 0), saw(6, 0), saw(7, 0, 0), saw(9, 0)}
	for _, many := range []int{0, 1, 115, 116, 117, 118, 119, 120} {
		w := copyWorld(impl.WldNew(p))
		w.Seen[0] = slices.Repeat([]impl.CelSight{saw(8, 0)}, many)
		w.Seen[1] = slices.Repeat([]impl.CelSight{saw(8, 0)}, 120)
		after := checkEvent(t, w, impl.WldEvent{Kind: 1})
		want := append(slices.Clone(w.Seen[0]), sees[:min(4, 120-many)]...)
		if !sameSights(after.Seen[0], want) || !sameSights(after.Seen[1], w.Seen[1]) || len(after.Seen[2]) != 0 {
			t.Errorf("behind %d sights: %v", many, after.Seen)
		}
		if after.Nodes[0].Cells[0].State.Halt != impl.VmStopped {
			t.Error("a cell that has seen all stops doing:", after.Nodes[0].Cells[0])
		}
	}
}

// The turns come ahead of what the slot is for: what a cell sends in its turn is said in the same slot, and got in the next one.
func TestWorldOrderInASlot(t *testing.T) {
	p, _ := impl.PlnParse([]string{"nodes 3", "secret 1", "fuel 9", "cell 0 1", "do set 1 2", "do send 0 1 1", "do send 1 2 1", "do yield", "cell 1 1", "do take 0 0 1", "do yield", "do jump 0 3",
		"cell 0 1", "do take 1 0 1", "do yield", "do jump 0 3", "cell 2 0", "way 0 1 1", "way 0 2 1", "slot 0 hello", "slot 1 hello", "slot 2 hello", "slot 0 0", "slot 0 1", "turn 2 2 2 0 2", "turn 1 1 1 1 1", "turn 3 3 3 - -"})
	w := impl.WldNew(p)
	for range 4 {
		w = checkEvent(t, w, impl.WldEvent{Kind: 1})
	}
	if len(w.Nodes[0].Out[0].Items) != 0 || !sameLists(w.Nodes[1].In[0].Items, [][]byte{{0, 0}}) || len(w.Nodes[0].Out[1].Items) != 1 {
		t.Error("behind the turn:", w.Nodes)
	}
	w = checkEvent(t, w, impl.WldEvent{Kind: 1})
	// On the node of the way 1 the turn of its last cell is ahead of the move.
	if len(w.Nodes[0].In[1].Items) != 1 || len(ofWay(w.Seen[2], impl.SawGot, 1)) != 0 || !sameLists(ofWay(w.Seen[1], impl.SawGot, 0), [][]byte{{0, 0}}) {
		t.Error("behind the move:", w.Nodes, w.Seen)
	}
	w = checkEvent(t, w, impl.WldEvent{Kind: 1})
	if !sameLists(ofWay(w.Seen[2], impl.SawGot, 1), [][]byte{{0}}) {
		t.Error("behind the next turn:", w.Seen)
	}
}

func TestWorldInputByHand(t *testing.T) {
	w := impl.WldNew(examplePlan())
	for _, c := range []struct{ at, n, waits int }{{0, 0, 1}, {0, 255, 1}, {1, 7, 1}, {0, -1, 0}, {0, 256, 0}, {-1, 7, 0}, {2, 7, 0}, {3, 7, 0}} {
		after := checkEvent(t, w, impl.WldEvent{Kind: impl.WldInput, At: c.at, N: c.n, V: 9, Bytes: []byte{1}})
		waits := 0
		for at, n := range after.Nodes {
			for cell, held := range n.Cells {
				if waits += len(held.In); len(held.In) > 0 && (cell != c.at || at != w.Plan.Cells[cell].Node || held.In[0] != byte(c.n)) {
					t.Errorf("%v: %v waits for %d at %d", c, held.In, cell, at)
				}
			}
		}
		if waits != c.waits {
			t.Errorf("%v: %d bytes wait", c, waits)
		}
	}
}

func TestWorldRight(t *testing.T) {
	t.Parallel()
	d, right, wrong := &draw{x: 172}, 0, 0
	for range 3000 {
		w := drawWorld(d, livelyPlan(d))
		for range 3 {
			b := drawMade(d, w)
			want := plainRight(w.Plan, b)
			if impl.WldRight(w.Plan, b) != want {
				t.Fatalf("%v under %d: right is not %v", b, w.Plan.Secret, want)
			}
			if want {
				right++
			} else {
				wrong++
			}
		}
	}
	if right < 2000 || wrong < 2000 {
		t.Error("too few of a sort:", right, wrong)
	}
}

func TestWorldRightByHand(t *testing.T) {
	p := pairPlan(9)
	heads := []impl.FrmHead{{Kind: 1, To: 255, Way: 255, Boot: 1}, {Kind: 1, From: 3, To: 255, Way: 255, Boot: 65535, Seq: 65535},
		{Kind: 2, To: 1, Boot: 1}, {Kind: 2, From: 3, To: 2, Way: 9, Boot: 65535, Peer: 65535, Epoch: 255, Seq: 65535}}
	for _, h := range heads {
		for _, body := range [][]byte{plainBody(nil, false), plainBody(nil, true), plainBody([]byte{1}, true), plainBody(upward(8), true)} {
			b := plainFrame(plainFrameKey(p, h), h, body)
			if !impl.WldRight(p, b) {
				t.Errorf("%v is not right", b)
			}
			q := pairPlan(10)
			if impl.WldRight(q, b) || impl.WldRight(impl.PlnPlan{}, b) {
				t.Errorf("%v is right under another secret, or none", b)
			}
			for at := range b {
				if b[at]++; impl.WldRight(p, b) {
					t.Errorf("%v with another byte at %d is right", b, at)
				}
				b[at]--
			}
			for size := range 48 {
				if size != 24 && impl.WldRight(p, append(bytes.Clone(b), b...)[:size]) {
					t.Errorf("%d bytes are right", size)
				}
			}
			q = copyPlan(p)
			if q.Fuel = 17; impl.WldRight(q, b) {
				t.Error("of a wrong plan something is right")
			}
		}
		for _, body := range wrongBodies() {
			if b := plainFrame(plainFrameKey(p, h), h, body); impl.WldRight(p, b) {
				t.Errorf("%v without a body is right", b)
			}
		}
	}
	h := impl.FrmHead{Kind: 2, Boot: 1}
	if b := plainFrame(plainFrameKey(p, h), h, plainBody(nil, false)); impl.WldRight(p, b) {
		t.Error("a word from a node to itself is right")
	}
}

// roomyWorld is a copy of a world, and all memory that its lists lie in.
func roomyWorld(w impl.WldWorld) (impl.WldWorld, []any) {
	plan, all := roomyPlan(w.Plan)
	w = copyWorld(w)
	w.Plan = plan
	for k := range w.Nodes {
		n, more := roomyNode(w.Nodes[k])
		w.Nodes[k], all = n, append(all, more...)
	}
	for k := range w.Log {
		w.Log[k] = roomy(w.Log[k], 0xA5, &all)
	}
	for k, list := range w.Seen {
		for i := range list {
			list[i].Bytes = roomy(list[i].Bytes, 0xA5, &all)
		}
		w.Seen[k] = roomy(list, impl.CelSight{Kind: -7}, &all)
	}
	w.Nodes, w.Log, w.Seen = roomy(w.Nodes, impl.NodNode{Boot: -7}, &all), roomy(w.Log, []byte{0xA5}, &all), roomy(w.Seen, nil, &all)
	return w, all
}

// scribblePlan finds out whether two lists of a plan share memory, and writes over all of it.
func scribblePlan(t *testing.T, name string, p impl.PlnPlan) {
	t.Helper()
	var codes [][]impl.VmOrder
	var guards [][]impl.GrdRule
	for _, c := range p.Cells {
		codes = append(codes, c.Code)
	}
	for _, w := range p.Ways {
		guards = append(guards, w.Guard)
	}
	checkListsApart(t, name, codes, impl.VmOrder{Op: -5}, slices.Equal[[]impl.VmOrder])
	checkListsApart(t, name, guards, impl.GrdRule{Min: -5}, slices.Equal[[]impl.GrdRule])
	scribbleAll(p)
}

// scribbleWorld writes over all memory of a world, spare room included, and finds out whether two lists share any.
func scribbleWorld(t *testing.T, name string, w impl.WldWorld) {
	t.Helper()
	held, items, ints := slices.Clone(w.Log), [][][]byte{w.Log}, slices.Clone(w.Plan.Turns)
	var cells [][]impl.CelCell
	var boxes [][]impl.BoxBox
	var outs [][]impl.OutOut
	var ins [][]impl.InIn
	for _, n := range w.Nodes {
		for _, c := range n.Cells {
			held, ints = append(held, c.In), append(ints, c.State.Regs, c.State.Mem)
		}
		for _, b := range slices.Concat(n.Out, n.In) {
			held, items = append(held, b.Items...), append(items, b.Items)
		}
		cells, boxes, outs, ins, ints = append(cells, n.Cells), append(boxes, n.Out, n.In), append(outs, n.Outs), append(ins, n.Ins), append(ints, n.Heard.Boots, n.Heard.Seqs)
	}
	for _, list := range w.Seen {
		for _, s := range list {
			held = append(held, s.Bytes)
		}
	}
	checkApart(t, name, held...)
	checkListsApart(t, name, ints, -5, slices.Equal[[]int])
	checkListsApart(t, name, items, []byte{0xEE}, sameLists)
	checkListsApart(t, name, boxes, impl.BoxBox{Depth: -9}, func(a []impl.BoxBox, b []impl.BoxBox) bool { return slices.EqualFunc(a, b, sameBox) })
	checkListsApart(t, name, cells, impl.CelCell{In: []byte{1}}, func(a []impl.CelCell, b []impl.CelCell) bool { return slices.EqualFunc(a, b, sameCell) })
	checkListsApart(t, name, outs, impl.OutOut{Boot: -9}, slices.Equal[[]impl.OutOut])
	checkListsApart(t, name, ins, impl.InIn{Boot: -9}, slices.Equal[[]impl.InIn])
	checkListsApart(t, name, w.Seen, impl.CelSight{Kind: -9}, sameSights)
	scribblePlan(t, name, w.Plan)
	scribble(w.Nodes, impl.NodNode{Boot: -9})
	scribble(w.Log, []byte{1})
	scribble(w.Seen, nil)
}

// checkWorldMemory calls with a world and bytes of which nothing may be written into, writes over the answer, and calls again.
func checkWorldMemory(t *testing.T, name string, w impl.WldWorld, b []byte, call func(w impl.WldWorld, b []byte) impl.WldWorld) {
	t.Helper()
	given, all := roomyWorld(w)
	_, was := roomyWorld(w)
	made := fence(b, 0xA5)
	first := call(given, made.list)
	kept := copyWorld(first)
	scribbleWorld(t, name, first)
	if !reflect.DeepEqual(all, was) || !made.untouched() {
		t.Fatalf("%s: %v or %v was written into, or is shared with the answer", name, w, b)
	}
	if again := call(given, made.list); !sameWorld(again, kept) {
		t.Fatalf("%s: %v, and then %v", name, kept, again)
	}
}

// smaller is a world of whose sights few are left, as all lists are held against each other.
func smaller(w impl.WldWorld) impl.WldWorld {
	w = copyWorld(w)
	for k, list := range w.Seen {
		w.Seen[k] = list[:min(len(list), 5)]
	}
	return w
}

func checkStepMemory(t *testing.T, w impl.WldWorld, e impl.WldEvent) {
	t.Helper()
	checkWorldMemory(t, "WldStep", w, e.Bytes, func(w impl.WldWorld, b []byte) impl.WldWorld {
		e := e
		e.Bytes = b
		return impl.WldStep(w, e)
	})
}

func TestWorldMemory(t *testing.T) {
	t.Parallel()
	d := &draw{x: 173}
	for k := range 200 {
		w := smaller(drawWorld(d, livelyPlan(d)))
		if k%10 == 0 {
			bendWorld(d, &w)
		}
		for _, e := range []impl.WldEvent{{Kind: 1}, {Kind: 1, N: 1}, {Kind: 1, N: 2, At: 20, V: 7}, {Kind: 1, N: 3}, {Kind: 2}, {Kind: 3}, {Kind: 4, N: 65}, {Kind: 9}} {
			checkStepMemory(t, w, e)
		}
		if code, _ := plainPlan(w.Plan); code != 0 || len(w.Nodes) == 0 || len(w.Nodes) > w.Plan.Nodes {
			continue
		}
		made := fence(d.bytes(24), 0xA5)
		checkStepMemory(t, w, impl.WldEvent{Kind: 1, N: 4, Bytes: made.list})
		checkStepMemory(t, w, impl.WldEvent{Kind: 1, N: 4, Bytes: plainSaid(w.Plan, impl.FrmHead{Kind: 1, To: 255, Way: 255, Boot: 3}, nil, false)})
		checkWorldMemory(t, "WldNew", w, nil, func(w impl.WldWorld, b []byte) impl.WldWorld { return impl.WldNew(w.Plan) })
		checkWorldMemory(t, "WldOk and WldRight", w, plainSaid(w.Plan, impl.FrmHead{Kind: 1, To: 255, Way: 255, Boot: 3}, nil, false), func(w impl.WldWorld, b []byte) impl.WldWorld {
			var out impl.WldWorld
			if impl.WldOk(w) && impl.WldRight(w.Plan, b) && impl.WldBack(w) {
				out.Now = 1
			}
			return out
		})
	}
	for _, p := range livelyPlans(d, 25) {
		w := smaller(through(t, d, p, 50, func(was impl.WldWorld, e impl.WldEvent, is impl.WldWorld) {}))
		for range 10 {
			checkStepMemory(t, w, drawEvent(d, w))
		}
	}
}

// One list may stand in several places of a world: just what is meant changes.
func TestWorldOneListTwice(t *testing.T) {
	p := examplePlan()
	w := copyWorld(impl.WldCalm(impl.WldNew(p), 1))
	seen, frame := []impl.CelSight{saw(6, 0)}, w.Log[0]
	w.Seen[0], w.Seen[1], w.Log = seen, seen, [][]byte{frame, frame, frame}
	w.Plan.Turns = [][]int{{0, 0, 0}, {1, 1, 1}}
	w.Plan.Cells[1].Code, w.Plan.Cells[0].Code = nil, nil
	w.Nodes[0].Cells[0], w.Nodes[1].Cells[1] = newCell(), newCell()
	w.Nodes[0].Cells[1], w.Nodes[1].Cells[0] = w.Nodes[0].Cells[0], w.Nodes[1].Cells[1]
	after := checkEvent(t, w, impl.WldEvent{Kind: 1, N: 2, At: 0, V: 255})
	if !sameSights(seen, []impl.CelSight{saw(6, 0)}) || len(after.Seen[0]) != 2 || len(after.Seen[1]) != 2 || !sameLists(after.Log[:3], [][]byte{frame, frame, frame}) {
		t.Error(after)
	}
	scribbleWorld(t, "WldStep", after)
}

// widePlan is a plan of four nodes, each with ways to all others.
func widePlan(d *draw) impl.PlnPlan {
	cells := spread(8, 4)
	p := layPlan(4, cells, joined([2]int{0, 1}, [2]int{0, 2}, [2]int{0, 3}, [2]int{1, 2}, [2]int{2, 3}, [2]int{3, 0}, [2]int{4, 1}, [2]int{1, 4}), 0)
	for k := range p.Cells {
		p.Cells[k].Code = livelyProgram(d, p.Ways, k)
	}
	p.Fuel = 16
	return p
}

// Nodes hear at the same time what they would hear one behind the other.
func TestWorldNodesHearAtOnce(t *testing.T) {
	d := &draw{x: 174}
	for range 12 {
		w := impl.WldNew(widePlan(d))
		for range 60 {
			e := drawEvent(d, w)
			if d.below(3) == 0 {
				e = impl.WldEvent{Kind: 1, N: impl.WldMade, Bytes: drawMade(d, w)}
			}
			w = checkEvent(t, w, e)
		}
	}
}

func TestWorldManyAtOnce(t *testing.T) {
	d := &draw{x: 175}
	w := impl.WldCalm(impl.WldNew(widePlan(d)), 2)
	events := []impl.WldEvent{{Kind: 1}, {Kind: 1, N: 1}, {Kind: 1, N: 2, At: 12, V: 3}, {Kind: 1, N: 3, At: 2}, {Kind: 1, N: 4, Bytes: w.Log[3]}, {Kind: 1, N: 4, Bytes: d.bytes(24)}, {Kind: 2, At: 1}, {Kind: 4, At: 2, N: 9}}
	var wants []impl.WldWorld
	for _, e := range events {
		wants = append(wants, plainEvent(w, e))
	}
	var all sync.WaitGroup
	for range 8 {
		all.Add(1)
		go func() {
			defer all.Done()
			for k, e := range events {
				if after := impl.WldStep(w, e); !sameWorld(after, wants[k]) {
					t.Errorf("%v leaves %v", e, after)
				}
				if after := impl.WldRun(w, events[k:k+1]); !sameWorld(after, wants[k]) {
					t.Errorf("a run of %v leaves %v", e, after)
				}
			}
			if !impl.WldRight(w.Plan, w.Log[3]) || !impl.WldBack(w) {
				t.Error("not right, or not back")
			}
		}()
	}
	all.Wait()
}

func TestWorldNodesAllEnd(t *testing.T) {
	d := &draw{x: 176}
	w := impl.WldNew(widePlan(d))
	before := runtime.NumGoroutine()
	for k := range 300 {
		w = impl.WldStep(w, impl.WldEvent{Kind: 1, N: k % 5, At: k % 12, V: 1, Bytes: d.bytes(24)})
	}
	// Those that have just said that they end may still be counted for a moment.
	for range 1000 {
		if runtime.NumGoroutine() <= before {
			return
		}
		runtime.Gosched()
	}
	t.Errorf("%d goroutines, and then %d", before, runtime.NumGoroutine())
}
