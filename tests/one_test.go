package tests

import (
	"bytes"
	"reflect"
	"runtime"
	"slices"
	"sync"
	"testing"

	"loop.example/casemate/impl"
)

func sameBoxes(a []impl.BoxBox, b []impl.BoxBox) bool {
	return slices.EqualFunc(a, b, sameBox)
}

func sameCells(a []impl.CelCell, b []impl.CelCell) bool {
	return slices.EqualFunc(a, b, sameCell)
}

func sameSeen(a [][]impl.CelSight, b [][]impl.CelSight) bool {
	return slices.EqualFunc(a, b, sameSights)
}

func sameAir(a [][][]byte, b [][][]byte) bool {
	return slices.EqualFunc(a, b, sameLists)
}

// sameOne says whether two machines are the same value, plans and what is under way too.
func sameOne(a impl.OneState, b impl.OneState) bool {
	return a.Now == b.Now && samePlan(a.Plan, b.Plan) && slices.Equal(a.Up, b.Up) && sameCells(a.Cells, b.Cells) &&
		sameBoxes(a.Out, b.Out) && sameBoxes(a.In, b.In) && sameAir(a.Air, b.Air) && sameSeen(a.Seen, b.Seen)
}

func copyOne(a impl.OneState) impl.OneState {
	a.Plan, a.Up = copyPlan(a.Plan), slices.Clone(a.Up)
	a.Cells, a.Air, a.Seen = slices.Clone(a.Cells), slices.Clone(a.Air), slices.Clone(a.Seen)
	a.Out, a.In = copyBoxes(a.Out), copyBoxes(a.In)
	for k := range a.Cells {
		a.Cells[k] = copyCell(a.Cells[k])
	}
	for k := range a.Air {
		a.Air[k] = copyLists(a.Air[k])
	}
	for k := range a.Seen {
		a.Seen[k] = copySights(a.Seen[k])
	}
	return a
}

// noOne says whether a machine is nothing.
func noOne(a impl.OneState) bool {
	return sameOne(a, impl.OneState{})
}

// plainSeenOk says whether the cells of a plan may have seen this, straight along the document.
func plainSeenOk(p impl.PlnPlan, seen [][]impl.CelSight) bool {
	if len(seen) != len(p.Cells) {
		return false
	}
	for _, list := range seen {
		if len(list) > 120 || slices.ContainsFunc(list, func(s impl.CelSight) bool { return !plainSightOk(s) }) {
			return false
		}
	}
	return true
}

// plainOneOk says whether the one machine is ok, straight along the document.
func plainOneOk(a impl.OneState) bool {
	p := a.Plan
	if code, _ := plainPlan(p); code != 0 || len(a.Up) != p.Nodes || len(a.Cells) != len(p.Cells) || len(a.Air) != len(p.Ways) {
		return false
	}
	for k, c := range a.Cells {
		if !plainStateOk(c.State) || len(c.In) > 6 || c.State.Pc > len(p.Cells[k].Code) {
			return false
		}
		if !a.Up[p.Cells[k].Node] && !sameCell(c, newCell()) {
			return false
		}
	}
	for _, list := range a.Air {
		if len(list) > 12 || slices.ContainsFunc(list, func(m []byte) bool { return len(m) > 8 }) {
			return false
		}
	}
	begins := func(way int) bool { from, _ := plainEnds(p, way); return a.Up[from] }
	ends := func(way int) bool { _, to := plainEnds(p, way); return a.Up[to] }
	return plainBoxesOk(p, a.Out, begins) && plainBoxesOk(p, a.In, ends) && a.Now >= 0 && a.Now <= 20000 && plainSeenOk(p, a.Seen)
}

// plainOneOf is what a world is as one machine, straight along the document.
func plainOneOf(w impl.WldWorld) impl.OneState {
	if !plainWorldOk(w) {
		return impl.OneState{}
	}
	a := impl.OneState{Plan: w.Plan, Now: w.Now, Air: make([][][]byte, len(w.Plan.Ways)), Seen: w.Seen}
	for _, n := range w.Nodes {
		a.Up = append(a.Up, n.Up)
	}
	for k, c := range w.Plan.Cells {
		a.Cells = append(a.Cells, w.Nodes[c.Node].Cells[k])
	}
	for k := range w.Plan.Ways {
		from, to := plainEnds(w.Plan, k)
		a.Out, a.In = append(a.Out, w.Nodes[from].Out[k]), append(a.In, w.Nodes[to].In[k])
	}
	return copyOne(a)
}

// plainOneTurn lets a node's cell have its turn: the node is laid out by itself, has it as nodes have, and is laid back.
func plainOneTurn(a impl.OneState, at int, slot int) {
	p := a.Plan
	n := plainRise(p, plainBegin(p, 0), at)
	for k, c := range p.Cells {
		if c.Node == at {
			n.Cells[k] = a.Cells[k]
		}
	}
	for k := range p.Ways {
		if from, _ := plainEnds(p, k); from == at {
			n.Out[k] = a.Out[k]
		}
		if _, to := plainEnds(p, k); to == at {
			n.In[k] = a.In[k]
		}
	}
	n, seen := plainWindow(p, n, at, slot)
	for k, c := range p.Cells {
		if c.Node == at {
			a.Cells[k] = n.Cells[k]
		}
	}
	for k := range p.Ways {
		if from, _ := plainEnds(p, k); from == at {
			a.Out[k] = n.Out[k]
		}
		if _, to := plainEnds(p, k); to == at {
			a.In[k] = n.In[k]
		}
	}
	for _, s := range seen {
		if cell := p.Turns[at][slot]; len(a.Seen[cell]) < 120 {
			a.Seen[cell] = append(a.Seen[cell], s)
		}
	}
}

// plainTurns is a machine that is ok behind the turns of the slot that is next.
func plainTurns(a impl.OneState) impl.OneState {
	a = copyOne(a)
	for at, up := range a.Up {
		if up {
			plainOneTurn(a, at, a.Now%len(a.Plan.Slots))
		}
	}
	return a
}

// plainReaches lets a message come to the end of its way, or be gone.
func plainReaches(a impl.OneState, way int, m []byte) {
	if _, to := plainEnds(a.Plan, way); a.Up[to] {
		plainArrives(a.Plan, &impl.NodNode{In: a.In}, way, m)
	}
}

// plainOneSlot lets a slot pass, straight along the document.
func plainOneSlot(a impl.OneState, e impl.OneEvent) impl.OneState {
	s := a.Plan.Slots[a.Now%len(a.Plan.Slots)]
	a = plainTurns(a)
	a.Now++
	if s.Way == -1 {
		return a
	}
	from, to := plainEnds(a.Plan, s.Way)
	box, air := &a.Out[s.Way], &a.Air[s.Way]
	if len(box.Items) > 0 && a.Up[s.Node] && (e.Took || from == to) {
		m := box.Items[0]
		box.Items = box.Items[1:]
		if from == to {
			plainReaches(a, s.Way, m)
			return a
		}
		if *air = append(*air, m); len(*air) > 12 {
			*air = (*air)[1:]
		}
	}
	if from != to && e.Came >= 0 && e.Came < len(*air) {
		m := (*air)[e.Came]
		*air = (*air)[e.Came+1:]
		plainReaches(a, s.Way, m)
	}
	return a
}

// plainOneFall lets a node fall, straight along the document.
func plainOneFall(a impl.OneState, at int) impl.OneState {
	a.Up[at] = false
	for k, c := range a.Plan.Cells {
		if c.Node == at {
			a.Cells[k] = newCell()
		}
	}
	for k := range a.Plan.Ways {
		if from, _ := plainEnds(a.Plan, k); from == at {
			a.Out[k].Items = nil
		}
		if _, to := plainEnds(a.Plan, k); to == at {
			a.In[k].Items, a.Air[k] = nil, nil
		}
	}
	return a
}

// plainOneStep lets one thing happen, straight along the document.
func plainOneStep(a impl.OneState, e impl.OneEvent) impl.OneState {
	if !plainOneOk(a) {
		return impl.OneState{}
	}
	a = copyOne(a)
	there := e.At >= 0 && e.At < len(a.Up)
	switch {
	case e.Kind == 1 && a.Now < 20000:
		return plainOneSlot(a, e)
	case e.Kind == 2 && there:
		return plainOneFall(a, e.At)
	case e.Kind == 3 && there:
		a.Up[e.At] = true
	case e.Kind == 4 && e.At >= 0 && e.At < len(a.Cells):
		c := &a.Cells[e.At]
		if a.Up[a.Plan.Cells[e.At].Node] && e.N >= 0 && e.N <= 255 && len(c.In) < 6 {
			c.In = append(c.In, byte(e.N))
		}
	}
	return a
}

// plainWhatSlot is what a slot of a world is in the one machine, straight along the document.
func plainWhatSlot(a impl.OneState, w impl.WldWorld, e impl.WldEvent) impl.OneEvent {
	what := impl.OneEvent{Kind: 1, Came: -1}
	p, slot := w.Plan, w.Now%len(w.Plan.Slots)
	way := p.Slots[slot].Way
	if w.Now == 20000 || way == -1 {
		return what
	}
	from, to := plainEnds(p, way)
	if from == to {
		return what
	}
	w = copyWorld(w)
	for at := range w.Nodes {
		w.Nodes[at], _ = plainWindow(p, w.Nodes[at], at, slot)
	}
	waits := w.Nodes[from].Out[way].Items
	_, said, took := plainSays(p, w.Nodes[from], from, slot)
	air := slices.Clone(a.Air[way])
	if what.Took = took; took {
		air = append(air, waits[0])
		air = air[max(0, len(air)-12):]
	}
	lies := plainLies(w, e, said)
	if _, code := plainHears(p, w.Nodes[to], to, slot, lies); code >= 8 {
		m, _, _ := plainOpened(p, plainHeadOf(lies), lies)
		what.Came = slices.IndexFunc(air, func(other []byte) bool { return same(other, m) })
	}
	return what
}

// plainWhat is what an event of a world is in the one machine, straight along the document.
func plainWhat(a impl.OneState, w impl.WldWorld, e impl.WldEvent) impl.OneEvent {
	if !plainOneOk(a) || !plainWorldOk(w) || len(a.Air) != len(w.Plan.Ways) {
		return impl.OneEvent{}
	}
	if e.Kind == 1 {
		return plainWhatSlot(a, w, e)
	}
	what := impl.OneEvent{Kind: e.Kind, At: e.At, N: e.N, Came: -1}
	if e.Kind == 3 && e.At >= 0 && e.At < len(w.Nodes) && w.Nodes[e.At].Boot == 60000 {
		what.Kind = 0
	}
	return what
}

// sameHere says whether two machines have the same, but for their plans and what is under way.
func sameHere(a impl.OneState, b impl.OneState) bool {
	return slices.Equal(a.Up, b.Up) && a.Now == b.Now && sameCells(a.Cells, b.Cells) && sameBoxes(a.Out, b.Out) && sameBoxes(a.In, b.In) && sameSeen(a.Seen, b.Seen)
}

// plainSame says whether two machines are the same, straight along the document.
func plainSame(a impl.OneState, b impl.OneState) bool {
	return plainOneOk(a) && plainOneOk(b) && a.Plan.Nodes == b.Plan.Nodes && len(a.Plan.Cells) == len(b.Plan.Cells) && sameHere(a, b)
}

// checkOneStep calls OneStep, and holds it against the document; the answer.
func checkOneStep(t *testing.T, a impl.OneState, e impl.OneEvent) impl.OneState {
	t.Helper()
	after := impl.OneStep(a, e)
	if want := plainOneStep(a, e); !sameOne(after, want) {
		t.Fatalf("%v in %v:\nis  %v\nnot %v", e, a, after, want)
	}
	return after
}

// checkWhat calls OneWhat, and holds it against the document; the answer.
func checkWhat(t *testing.T, a impl.OneState, w impl.WldWorld, e impl.WldEvent) impl.OneEvent {
	t.Helper()
	what := impl.OneWhat(a, w, e)
	if want := plainWhat(a, w, e); what != want {
		t.Fatalf("%v in %v and %v:\nis  %v\nnot %v", e, a, w, what, want)
	}
	return what
}

// checkSameOne calls OneSame in both orders, and holds it against the document; the answer.
func checkSameOne(t *testing.T, a impl.OneState, b impl.OneState) bool {
	t.Helper()
	want := plainSame(a, b)
	if one, other := impl.OneSame(a, b), impl.OneSame(b, a); one != want || other != want {
		t.Fatalf("same is %v, and in the other order %v, not %v, of\n%v and\n%v", one, other, want, a, b)
	}
	return want
}

// drawAir are messages under way: none, some, about as many as may be; some of them more than once, and some from a list.
func drawAir(d *draw, from [][]byte) [][]byte {
	var out [][]byte
	for range []int{0, 0, 1, 2, 5, 11, 12}[d.below(7)] {
		m := []byte{byte(d.below(3))}
		switch kind := d.below(4); {
		case kind == 0 && len(from) > 0:
			m = bytes.Clone(from[d.below(len(from))])
		case kind == 1:
			m = drawMessage(d)
		}
		out = append(out, m)
	}
	return out
}

// drawOne is the one machine of a world that is ok, with anything under way.
func drawOne(d *draw, w impl.WldWorld) impl.OneState {
	a := plainOneOf(w)
	for k := range a.Air {
		from := slices.Concat(a.Out[k].Items, a.In[k].Items)
		for _, b := range w.Log {
			if h := plainHeadOf(b); plainRight(w.Plan, b) && h.Kind == impl.FrmWord {
				if m, real, _ := plainOpened(w.Plan, h, b); real {
					from = append(from, m)
				}
			}
		}
		a.Air[k] = drawAir(d, from)
	}
	return a
}

// drawOneEvent is something that may happen in the one machine.
func drawOneEvent(d *draw, a impl.OneState) impl.OneEvent {
	near := []int{d.below(len(a.Up) + 1), d.below(len(a.Cells) + 1), d.below(len(a.Up)), -1}
	e := impl.OneEvent{Kind: 1, At: near[d.below(4)], N: d.below(256), Took: d.below(2) == 0, Came: d.below(14) - 1}
	switch kind := d.below(20); {
	case kind <= 1:
		e.Kind = impl.WldFalls
	case kind == 2:
		e.Kind = impl.WldRises
	case kind <= 4:
		e.Kind, e.At = impl.WldInput, d.below(len(a.Cells)+1)
		if d.below(8) == 0 {
			e.At, e.N = near[d.below(4)], []int{-1, 0, 255, 256}[d.below(4)]
		}
	case kind == 5:
		e.Kind = append([]int{-1, 0, 5, 6, 255}, farInts...)[d.below(5+len(farInts))]
	case kind <= 12:
		// Near to how many are under way on the slot's way.
		if way := a.Plan.Slots[max(0, a.Now)%len(a.Plan.Slots)].Way; way >= 0 {
			e.Came = len(a.Air[way]) + d.below(4) - 2
		}
	case kind == 13:
		e.Came = append([]int{-2, -1, 0, 11, 12, 13}, farInts...)[d.below(6+len(farInts))]
	}
	return e
}

// bendOneLists changes how many there are of something in the one machine.
func bendOneLists(d *draw, a *impl.OneState) {
	way := d.below(len(a.Air) + 1)
	switch kind := d.below(7); {
	case kind == 0:
		a.Up = resized(d, a.Up)
	case kind == 1:
		a.Cells = resized(d, a.Cells)
	case kind == 2:
		a.Out = resized(d, a.Out)
	case kind == 3:
		a.In = resized(d, a.In)
	case kind == 4:
		a.Air = resized(d, a.Air)
	case kind == 5:
		a.Seen = resized(d, a.Seen)
	case kind == 6 && way < len(a.Air):
		a.Air[way] = slices.Repeat([][]byte{{1}}, 11+d.below(4))
	}
}

// bendOne changes something in the one machine.
func bendOne(d *draw, a *impl.OneState) {
	way, cell := d.below(len(a.Air)+1), d.below(len(a.Seen)+1)
	n := &impl.NodNode{Cells: a.Cells, Out: a.Out, In: a.In}
	switch kind := d.below(12); {
	case kind <= 3:
		bendOneLists(d, a)
	case kind == 4:
		a.Now = append([]int{-1, 0, 20000, 20001}, farInts...)[d.below(4+len(farInts))]
	case kind == 5 && len(a.Up) > 0:
		at := d.below(len(a.Up))
		a.Up[at] = !a.Up[at]
	case kind == 6 && way < len(a.Air) && len(a.Air[way]) > 0:
		a.Air[way][d.below(len(a.Air[way]))] = d.bytes(7 + d.below(4))
	case kind == 7 && cell < len(a.Seen):
		a.Seen[cell] = slices.Repeat([]impl.CelSight{{Kind: 6}}, 119+d.below(4))
	case kind == 8 && cell < len(a.Seen) && len(a.Seen[cell]) > 0:
		a.Seen[cell][d.below(len(a.Seen[cell]))] = impl.CelSight{Kind: d.below(13) - 1, Way: d.below(12) - 1, Bytes: d.bytes(7 + d.below(3))}
	case kind == 9:
		bend(d, &a.Plan)
	default:
		bendNode(d, n)
		a.Cells, a.Out, a.In = n.Cells, n.Out, n.In
	}
}

func TestOneValues(t *testing.T) {
	if impl.OneMaxAir != 12 || impl.OneNone != -1 {
		t.Error(impl.OneMaxAir, impl.OneNone)
	}
}

// nothingOfOne says that a machine is not ok, and that all functions answer nothing of it.
func nothingOfOne(t *testing.T, name string, a impl.OneState) {
	t.Helper()
	if impl.OneOk(a) || impl.OneSame(a, a) {
		t.Fatalf("%s: ok is %v, same as itself is %v, of %v", name, impl.OneOk(a), impl.OneSame(a, a), a)
	}
	for _, e := range []impl.OneEvent{{}, {Kind: 1, Came: -1}, {Kind: 1, Took: true}, {Kind: 2}, {Kind: 3}, {Kind: 4, N: 5}, {Kind: 9}} {
		if after := impl.OneStep(a, e); !noOne(after) {
			t.Fatalf("%s: %v leaves %v", name, e, after)
		}
	}
	fine := onePairs()
	for _, e := range []impl.WldEvent{{}, {Kind: 1}, {Kind: 1, N: 3}, {Kind: 2, At: 1}, {Kind: 3, At: 1}, {Kind: 4, N: 5}, {Kind: 9}} {
		for _, w := range []impl.WldWorld{fine, {Plan: a.Plan}} {
			if what := impl.OneWhat(a, w, e); what != (impl.OneEvent{}) {
				t.Fatalf("%s: %v is %v", name, e, what)
			}
		}
	}
	if b := plainOneOf(fine); impl.OneSame(a, b) || impl.OneSame(b, a) {
		t.Fatalf("%s: it is the same as something", name)
	}
}

// onePairs is a world of a pair of nodes that know each other; two messages wait, and the slot of the way is next.
func onePairs() impl.WldWorld {
	w := pairWorld(9, 3, []byte{5})
	w.Nodes[0].Out[0].Items = [][]byte{{5}, {6}}
	return w
}

// oneFull is the one machine of busPlan in which all nodes are up, something is in each box, under way on each way, and seen by each cell.
func oneFull() impl.OneState {
	a := plainOneOf(plainWorld(busPlan()))
	for k, w := range a.Plan.Ways {
		a.Out[k].Items, a.In[k].Items = [][]byte{{1, byte(k)}}, [][]byte{{2, byte(k)}}
		a.Air[k] = [][]byte{{3, byte(k)}, {4, byte(k)}, {3, byte(k)}}
		if w.Depth > 1 {
			a.Out[k].Items = append(a.Out[k].Items, []byte{9, byte(k)})
		}
	}
	for k := range a.Cells {
		a.Cells[k] = impl.CelCell{State: machine(0, [4]int{k, 1, 2, 3}, [8]int{7, 6, 5, 4, 3, 2, 1, k}), In: []byte{byte(k), 8}}
		a.Seen[k] = []impl.CelSight{saw(6, 0), saw(1, k, byte(k))}
	}
	a.Now = 3
	return a
}

// oneChange is one change of a machine by hand, and whether it is ok behind it.
type oneChange struct {
	name string
	ok   bool
	how  func(a *impl.OneState)
}

// checkOnes tries changes of a machine.
func checkOnes(t *testing.T, changes []oneChange) {
	t.Helper()
	for _, c := range changes {
		a := oneFull()
		c.how(&a)
		if impl.OneOk(a) != c.ok || plainOneOk(a) != c.ok {
			t.Errorf("%s: ok is %v, and by the document %v, not %v", c.name, impl.OneOk(a), plainOneOk(a), c.ok)
		}
		if !c.ok {
			nothingOfOne(t, c.name, a)
		}
	}
}

func TestOneOkByHand(t *testing.T) {
	quiet := func(many int) []impl.CelSight { return slices.Repeat([]impl.CelSight{{Kind: 6}}, many) }
	nothingOfOne(t, "nothing", impl.OneState{})
	checkOnes(t, []oneChange{
		{"as it is", true, func(a *impl.OneState) {}},
		{"no time", true, func(a *impl.OneState) { a.Now = 0 }},
		{"all time", true, func(a *impl.OneState) { a.Now = 20000 }},
		{"ahead of all time", false, func(a *impl.OneState) { a.Now = -1 }},
		{"past all time", false, func(a *impl.OneState) { a.Now = 20001 }},
		{"a wrong plan", false, func(a *impl.OneState) { a.Plan.Secret = -1 }},
		{"a plan with a way less", false, func(a *impl.OneState) {
			a.Plan.Ways = a.Plan.Ways[:6]
			a.Plan.Slots[9].Way = -1
		}},
		{"a node less", false, func(a *impl.OneState) { a.Up = a.Up[:2] }},
		{"a node more", false, func(a *impl.OneState) { a.Up = append(a.Up, true) }},
		{"no nodes", false, func(a *impl.OneState) { a.Up = nil }},
		{"a cell less", false, func(a *impl.OneState) { a.Cells = a.Cells[:3] }},
		{"a cell more", false, func(a *impl.OneState) { a.Cells = append(a.Cells, newCell()) }},
		{"a box less to set out", false, func(a *impl.OneState) { a.Out = a.Out[:6] }},
		{"a box more to set out", false, func(a *impl.OneState) { a.Out = append(a.Out, impl.BoxBox{Depth: 1}) }},
		{"a box less to come to", false, func(a *impl.OneState) { a.In = a.In[:6] }},
		{"a box more to come to", false, func(a *impl.OneState) { a.In = append(a.In, impl.BoxBox{Depth: 1}) }},
		{"a way less", false, func(a *impl.OneState) { a.Air = a.Air[:6] }},
		{"a way more", false, func(a *impl.OneState) { a.Air = append(a.Air, nil) }},
		{"no way", false, func(a *impl.OneState) { a.Air = nil }},
		{"a cell less that sees", false, func(a *impl.OneState) { a.Seen = a.Seen[:3] }},
		{"a cell more that sees", false, func(a *impl.OneState) { a.Seen = append(a.Seen, nil) }},
		{"all is seen", true, func(a *impl.OneState) { a.Seen[3] = quiet(120) }},
		{"too much is seen", false, func(a *impl.OneState) { a.Seen[3] = quiet(121) }},
		{"too much is seen by the first one", false, func(a *impl.OneState) { a.Seen[0] = quiet(121) }},
		{"no sight", false, func(a *impl.OneState) { a.Seen[0] = append(quiet(3), impl.CelSight{}) }},
		{"a sight with a way that it has not", false, func(a *impl.OneState) { a.Seen[1] = []impl.CelSight{{Kind: 6, Way: 1}} }},
		{"a sight of a way that there isn't", true, func(a *impl.OneState) { a.Seen[1] = []impl.CelSight{{Kind: 1, Way: 9}} }},
		{"a sight with no message", false, func(a *impl.OneState) { a.Seen[3] = []impl.CelSight{{Kind: 7, Bytes: make([]byte, 9)}} }},
		{"the most under way", true, func(a *impl.OneState) { a.Air[0] = slices.Repeat([][]byte{upward(8)}, 12) }},
		{"too many under way", false, func(a *impl.OneState) { a.Air[0] = slices.Repeat([][]byte{{1}}, 13) }},
		{"too many under way on the last way", false, func(a *impl.OneState) { a.Air[6] = slices.Repeat([][]byte{nil}, 13) }},
		{"too many under way on a way that stays", false, func(a *impl.OneState) { a.Air[3] = slices.Repeat([][]byte{nil}, 13) }},
		{"no message under way", false, func(a *impl.OneState) { a.Air[6][2] = make([]byte, 9) }},
		{"no message under way on a way that stays", false, func(a *impl.OneState) { a.Air[4][0] = make([]byte, 9) }},
		{"nothing under way", true, func(a *impl.OneState) { a.Air = make([][][]byte, 7) }},
		{"under way to a node that is not up", true, func(a *impl.OneState) {
			*a = plainOneFall(*a, 1)
			a.Air[0] = [][]byte{{1}}
		}},
	})
}

func TestOneOkCellsAndBoxes(t *testing.T) {
	checkOnes(t, []oneChange{
		{"at its program's end", true, func(a *impl.OneState) { a.Plan.Cells[3].Code, a.Cells[3].State.Pc = make([]impl.VmOrder, 0), 0 }},
		{"past its program's end", false, func(a *impl.OneState) { a.Cells[3].State.Pc = 1 }},
		{"at the end of a longer one", true, func(a *impl.OneState) {
			a.Plan.Cells[3].Code, a.Cells[3].State.Pc = []impl.VmOrder{{Op: 13}, {Op: 13}}, 2
		}},
		{"past the end of a longer one", false, func(a *impl.OneState) {
			a.Plan.Cells[0].Code, a.Cells[0].State.Pc = []impl.VmOrder{{Op: 13}, {Op: 13}}, 3
		}},
		{"a wrong machine", false, func(a *impl.OneState) { a.Cells[2].State.Halt = 3 }},
		{"a machine of nothing", false, func(a *impl.OneState) { a.Cells[1].State = impl.VmState{} }},
		{"six bytes wait", true, func(a *impl.OneState) { a.Cells[2].In = upward(6) }},
		{"seven bytes wait", false, func(a *impl.OneState) { a.Cells[2].In = upward(7) }},
		{"a node is down with all that it has", false, func(a *impl.OneState) { a.Up[1] = false }},
		{"a node is down, and its cell goes on", false, func(a *impl.OneState) {
			c := a.Cells[1]
			*a = plainOneFall(*a, 1)
			a.Cells[1] = impl.CelCell{State: c.State}
		}},
		{"a node is down, and a byte waits there", false, func(a *impl.OneState) {
			*a = plainOneFall(*a, 0)
			a.Cells[3].In = []byte{0}
		}},
		{"a node is down, and its cell has stopped", false, func(a *impl.OneState) {
			*a = plainOneFall(*a, 0)
			a.Cells[0].State.Halt = 1
		}},
		{"a node is down, and something waits to set out", false, func(a *impl.OneState) {
			*a = plainOneFall(*a, 2)
			a.Out[6].Items = [][]byte{nil}
		}},
		{"a node is down, and something has come there", false, func(a *impl.OneState) {
			*a = plainOneFall(*a, 2)
			a.In[5].Items = [][]byte{nil}
		}},
		{"a node is down, something waits to go there", true, func(a *impl.OneState) {
			*a = plainOneFall(*a, 2)
			a.Out[5].Items, a.In[6].Items = [][]byte{{1}}, [][]byte{{2}}
		}},
		{"all nodes are down", true, func(a *impl.OneState) { *a = plainOneFall(plainOneFall(plainOneFall(*a, 2), 0), 1) }},
		{"a box of another depth", false, func(a *impl.OneState) { a.Out[0].Depth = 3 }},
		{"another box of another depth", false, func(a *impl.OneState) { a.In[6].Depth = 4 }},
		{"a box of no depth", false, func(a *impl.OneState) { a.In[6] = impl.BoxBox{} }},
		{"a full box", true, func(a *impl.OneState) { a.In[0].Items = [][]byte{nil, upward(8)} }},
		{"a box that is too full", false, func(a *impl.OneState) { a.In[0].Items = [][]byte{nil, nil, nil} }},
		{"no message in a box", false, func(a *impl.OneState) { a.Out[5].Items = [][]byte{make([]byte, 9)} }},
	})
}

func TestOneOkDrawn(t *testing.T) {
	t.Parallel()
	d, fine, wrong := &draw{x: 190}, 0, 0
	for range 3000 {
		a := drawOne(d, drawWorld(d, livelyPlan(d)))
		if !plainOneOk(a) || !impl.OneOk(a) {
			t.Fatalf("%v is not ok", a)
		}
		bent := copyOne(a)
		for range 1 + d.below(2) {
			bendOne(d, &bent)
		}
		want := plainOneOk(bent)
		if impl.OneOk(bent) != want {
			t.Fatalf("%v: ok is not %v", bent, want)
		}
		if want {
			fine++
			continue
		}
		if wrong++; wrong%10 == 0 {
			nothingOfOne(t, "a bent machine", bent)
		}
	}
	if fine < 300 || wrong < 1000 {
		t.Error("too few of a sort:", fine, wrong)
	}
}

func TestOneOf(t *testing.T) {
	t.Parallel()
	d, fine, wrong := &draw{x: 191}, 0, 0
	for k := range 1200 {
		w := drawWorld(d, livelyPlan(d))
		if k%3 == 0 {
			bendWorld(d, &w)
		}
		a := impl.OneOf(w)
		if want := plainOneOf(w); !sameOne(a, want) || impl.OneOk(a) != plainWorldOk(w) {
			t.Fatalf("%v is %v, not %v", w, a, want)
		}
		if impl.OneOk(a) {
			fine++
		} else if wrong++; !noOne(a) {
			t.Fatalf("%v, which is not ok, is %v", w, a)
		}
	}
	if fine < 500 || wrong < 100 {
		t.Error("too few of a sort:", fine, wrong)
	}
	if a := impl.OneOf(impl.WldWorld{}); !noOne(a) {
		t.Error("nothing is", a)
	}
}

// Each box and cell is that of its own node: the ones that other nodes keep for it are empty.
func TestOneOfByHand(t *testing.T) {
	w := plainWorld(busPlan())
	w.Nodes[0].Out[0].Items, w.Nodes[1].In[0].Items, w.Nodes[2].In[5].Items, w.Nodes[0].Out[3].Items = [][]byte{{1}}, [][]byte{{2}}, [][]byte{{3}}, [][]byte{{4}, {5}}
	w.Nodes[1].Cells[1].In, w.Nodes[0].Cells[3].In, w.Now = []byte{7}, []byte{8}, 17
	w.Nodes[2], w.Seen[2] = plainRise(w.Plan, w.Nodes[2], 2), []impl.CelSight{saw(6, 0)}
	a := impl.OneOf(w)
	if !sameLists(a.Out[0].Items, [][]byte{{1}}) || !sameLists(a.In[0].Items, [][]byte{{2}}) || !sameLists(a.In[5].Items, [][]byte{{3}}) || !sameLists(a.Out[3].Items, [][]byte{{4}, {5}}) {
		t.Error("boxes:", a.Out, a.In)
	}
	if !same(a.Cells[1].In, []byte{7}) || !same(a.Cells[3].In, []byte{8}) || len(a.Cells[0].In)+len(a.Cells[2].In) != 0 || a.Now != 17 || !sameSights(a.Seen[2], w.Seen[2]) {
		t.Error("cells:", a)
	}
	if !sameAir(a.Air, make([][][]byte, 7)) || !slices.Equal(a.Up, []bool{true, true, true}) {
		t.Error("under way:", a.Air, a.Up)
	}
	w.Nodes[1] = plainFall(w.Plan, w.Nodes[1], 1)
	if a = impl.OneOf(w); !slices.Equal(a.Up, []bool{true, false, true}) || !sameCell(a.Cells[1], newCell()) || len(a.In[0].Items) != 0 || len(a.Out[0].Items) != 1 {
		t.Error("a node that is not up:", a)
	}
}

func TestOneNew(t *testing.T) {
	t.Parallel()
	d := &draw{x: 192}
	for k, p := range append(livelyPlans(d, 150), nodePlans(d, 150)...) {
		if k%3 == 0 {
			p = copyPlan(p)
			bend(d, &p)
		}
		a := impl.OneNew(p)
		if !sameOne(a, plainOneOf(plainWorld(p))) || impl.OneOk(a) != impl.PlnOk(p) || a.Now != 0 || slices.Contains(a.Up, false) {
			t.Fatalf("OneNew of %v: %v", p, a)
		}
		for _, list := range a.Seen {
			if len(list) > 0 {
				t.Fatalf("OneNew of %v: %v", p, a)
			}
		}
	}
	for k, broken := range breaks() {
		p := basePlan()
		broken(&p)
		if a := impl.OneNew(p); !noOne(a) {
			t.Fatal("a plan with the code", k+1, "begins as", a)
		}
	}
}

// drawTrouble is something that may happen in a world, most of it trouble for what is under way: what is said is lost in long rows,
// what was said is said again, in a slot of its way, and nodes fall.
func drawTrouble(d *draw, w impl.WldWorld) impl.WldEvent {
	way := w.Plan.Slots[w.Now%len(w.Plan.Slots)].Way
	at, cell, lossy := d.below(len(w.Nodes)), d.below(len(w.Seen)), w.Now/40%2 == 1
	var again []int
	for k, b := range w.Log {
		if h := plainHeadOf(b); h.Kind == impl.FrmWord && h.Way == way {
			again = append(again, len(w.Log)-1-k)
		}
	}
	switch kind := d.below(24); {
	case kind == 0 && d.below(2) == 0:
		return impl.WldEvent{Kind: impl.WldFalls, At: at}
	case kind <= 2:
		return impl.WldEvent{Kind: impl.WldRises, At: at}
	case kind <= 4:
		return impl.WldEvent{Kind: impl.WldInput, At: cell, N: d.below(256)}
	case kind <= 9 && len(again) > 0:
		return impl.WldEvent{Kind: impl.WldSlot, N: impl.WldEarlier, At: again[d.below(len(again))]}
	case kind <= 12 || lossy && kind <= 19:
		return impl.WldEvent{Kind: impl.WldSlot, N: impl.WldLost}
	}
	return impl.WldEvent{Kind: impl.WldSlot}
}

// walk is a world and the one machine that comes along with it.
type walk struct {
	w impl.WldWorld
	a impl.OneState
}

func beginWalk(p impl.PlnPlan) *walk {
	return &walk{w: impl.WldNew(p), a: impl.OneNew(p)}
}

// step lets something happen in both, and holds the promises of each step against them; what it was, and the machine ahead of it.
func (k *walk) step(t *testing.T, e impl.WldEvent) (impl.OneEvent, impl.OneState) {
	t.Helper()
	was, what := k.a, impl.OneWhat(k.a, k.w, e)
	k.a, k.w = impl.OneStep(k.a, what), impl.WldStep(k.w, e)
	of := impl.OneOf(k.w)
	if !impl.OneSame(k.a, of) || !sameHere(k.a, of) || k.w.Now != k.a.Now {
		t.Fatalf("behind %v, which is %v, of %v:\nthe one machine is %v\nand the world is   %v", e, what, was, k.a, of)
	}
	return what, was
}

// walks counts what happens along walks, so that none of the cases is left out.
type walks struct {
	lost, next, over, again, orphan, full, refused, most int
}

// count counts what an event was in the machine, as it was ahead of it.
func (c *walks) count(k *walk, e impl.WldEvent, what impl.OneEvent, was impl.OneState) {
	if e.Kind != impl.WldSlot {
		return
	}
	s := was.Plan.Slots[was.Now%len(was.Plan.Slots)]
	switch {
	case what.Took && what.Came < 0:
		c.lost++
	case what.Came == 0:
		c.next++
	case what.Came > 0:
		c.over++
	}
	if what.Came >= 0 {
		turned := plainTurns(was)
		if !what.Took || e.N == impl.WldEarlier {
			c.again++
		}
		if !was.Up[s.Node] {
			c.orphan++
		}
		if way := was.Plan.Ways[s.Way]; sameBox(turned.In[s.Way], k.a.In[s.Way]) {
			if len(turned.In[s.Way].Items) == way.Depth {
				c.full++
			} else {
				c.refused++
			}
		}
	}
	for _, list := range k.a.Air {
		c.most = max(c.most, len(list))
	}
}

// rowPlan is a plan of two nodes of whose slots most are for the one way: the cell 0 sends in each slot, a byte each, and the cell 1 takes.
// The bytes are 1, 2, 3 .. or, if they are few, 1, 0, 1, 0 ..
func rowPlan(few bool) impl.PlnPlan {
	next := []string{"do add 2 1", "do set 0 0"}
	if few {
		next = []string{"do sub 1 2", "do move 2 1"}
	}
	p, _ := impl.PlnParse(slices.Concat([]string{"nodes 2", "secret 5", "fuel 10", "cell 0 1", "do set 1 1"}, next, []string{"do set 0 0", "do store 0 2", "do set 1 1", "do send 0 0 1", "do yield", "do set 3 0", "do jump 0 3",
		"cell 1 1", "do take 0 0 1", "do yield", "do set 3 0", "do jump 0 3", "way 0 1 2", "slot 0 hello", "slot 1 hello", "slot 0 0", "slot 0 0", "slot 0 0", "slot 0 0", "turn 0 - 0 0 0 0", "turn 1 1 - 1 1 1"}))
	return p
}

func TestP1TroubledWalks(t *testing.T) {
	t.Parallel()
	d, c := &draw{x: 1}, walks{}
	plans := livelyPlans(d, 50)
	for range 5 {
		plans = append(plans, rowPlan(false), rowPlan(true), widePlan(d))
	}
	for _, p := range plans {
		k := beginWalk(p)
		for range 220 {
			e := drawTrouble(d, k.w)
			what, was := k.step(t, e)
			c.count(k, e, what, was)
		}
	}
	if c.lost < 600 || c.next < 350 || c.over < 80 || c.again < 80 || c.orphan < 3 || c.full < 25 || c.refused < 60 || c.most != 12 {
		t.Errorf("too few of a sort: %+v", c)
	}
}

// Whatever may happen: bytes that are made and bent, and events of no kind too.
func TestP1AnyWalks(t *testing.T) {
	t.Parallel()
	d := &draw{x: 101}
	for _, p := range livelyPlans(d, 36) {
		k := beginWalk(p)
		for range 160 {
			k.step(t, drawEvent(d, k.w))
		}
	}
}

// The document's example, and what is under way in it: the message of the second round is gone with the node, and the one of the
// fourth round, which was bent, stays under way.
func TestP1Example(t *testing.T) {
	pass, lost := impl.WldEvent{Kind: impl.WldSlot}, impl.WldEvent{Kind: impl.WldSlot, N: impl.WldLost}
	k := beginWalk(examplePlan())
	for at, e := range []impl.WldEvent{{Kind: impl.WldInput, At: 0, N: 65}, pass, pass, pass, pass, lost, pass, {Kind: impl.WldFalls, At: 1}, {Kind: impl.WldRises, At: 1},
		{Kind: impl.WldInput, At: 0, N: 200}, pass, pass, pass, pass, pass, {Kind: impl.WldSlot, N: impl.WldBent, At: 11, V: 1}, {Kind: impl.WldSlot, N: impl.WldEarlier, At: 3}} {
		what, was := k.step(t, e)
		want := impl.OneEvent{Kind: e.Kind, At: e.At, N: e.N, Came: -1}
		if e.Kind == impl.WldSlot {
			want = impl.OneEvent{Kind: 1, Came: -1}
		}
		switch at {
		case 3, 6, 12:
			want.Took, want.Came = true, 0
		case 15:
			want.Took = true
		}
		if what != want || len(was.Air[0]) != max(0, at-15) {
			t.Errorf("the event %d is %v, not %v, and %v were under way", at, what, want, was.Air)
		}
	}
	if !sameAir(k.a.Air, [][][]byte{{{0, 0}}}) || len(k.a.Seen[0]) != 9 || len(k.a.Seen[1]) != 16 {
		t.Error("at the end:", k.a)
	}
}

// What has set out from a node that falls then may still come, as what was said may be said again: while the node is down, or in its
// next life, as long as nothing of that life has come.
func TestP1WhatIsUnderWayFromANodeThatFalls(t *testing.T) {
	lost, earlier := impl.WldEvent{Kind: 1, N: impl.WldLost}, func(at int) impl.WldEvent { return impl.WldEvent{Kind: 1, N: impl.WldEarlier, At: at} }
	falls, rises := impl.WldEvent{Kind: impl.WldFalls, At: 0}, impl.WldEvent{Kind: impl.WldRises, At: 0}
	for name, c := range map[string]struct {
		events []impl.WldEvent
		came   [][]byte
	}{
		"down":                    {[]impl.WldEvent{falls, lost, lost, earlier(1)}, [][]byte{{1}}},
		"in its next life":        {[]impl.WldEvent{falls, rises, lost, lost, earlier(2)}, [][]byte{{1}}},
		"down, twice":             {[]impl.WldEvent{falls, lost, lost, earlier(1), lost, lost, earlier(2)}, [][]byte{{1}}},
		"twice fallen":            {[]impl.WldEvent{falls, falls, rises, falls, lost, lost, earlier(1)}, [][]byte{{1}}},
		"it is up":                {[]impl.WldEvent{lost, lost, earlier(2), lost, lost, {Kind: 1}}, [][]byte{{1}, {3}}},
		"behind its next message": {[]impl.WldEvent{falls, rises, {Kind: 1}, {Kind: 1}, {Kind: 1}, {Kind: 1}, {Kind: 1}, earlier(5)}, [][]byte{{1}}},
	} {
		k := beginWalk(countPlan())
		for _, e := range append([]impl.WldEvent{{Kind: 1}, {Kind: 1}, lost}, c.events...) {
			k.step(t, e)
		}
		var came [][]byte
		came = append(came, ofWay(k.w.Seen[1], impl.SawGot, 0)...)
		if came = append(came, k.w.Nodes[1].In[0].Items...); !sameLists(came, c.came) {
			t.Errorf("%s: %v come, not %v", name, came, c.came)
		}
	}
}

// What is under way to a node that falls is gone: in its next life nothing of it comes, but what sets out then does.
func TestP1WhatIsUnderWayToANodeThatFalls(t *testing.T) {
	k := beginWalk(countPlan())
	lost, pass := impl.WldEvent{Kind: 1, N: impl.WldLost}, impl.WldEvent{Kind: 1}
	for _, e := range []impl.WldEvent{pass, pass, lost, pass, pass, lost} {
		k.step(t, e)
	}
	if !sameAir(k.a.Air, [][][]byte{{{1}, {2}}}) {
		t.Fatal("under way:", k.a.Air)
	}
	k.step(t, impl.WldEvent{Kind: impl.WldFalls, At: 1})
	if len(k.a.Air[0]) != 0 {
		t.Fatal("still under way:", k.a.Air)
	}
	// While it is down one more sets out, for its last life: it comes to nobody.
	for _, e := range []impl.WldEvent{pass, pass, pass} {
		k.step(t, e)
	}
	if !sameAir(k.a.Air, [][][]byte{{{3}}}) {
		t.Fatal("under way to a node that is down:", k.a.Air)
	}
	for _, e := range []impl.WldEvent{{Kind: impl.WldRises, At: 1}, pass, pass, {Kind: 1, N: impl.WldEarlier, At: 2}, pass, pass, pass, pass} {
		k.step(t, e)
	}
	if got := ofWay(k.w.Seen[1], impl.SawGot, 0); !sameLists(got, [][]byte{{5}}) {
		t.Error("in its next life come", got)
	}
}

// Time ends in both alike.
func TestP1TheEndOfTime(t *testing.T) {
	t.Parallel()
	d := &draw{x: 102}
	for _, p := range livelyPlans(d, 25) {
		k := beginWalk(p)
		for range 30 {
			k.step(t, drawTrouble(d, k.w))
		}
		k.w = copyWorld(k.w)
		// As many slots on as end a round.
		more := (20000 - 12 - k.w.Now) / len(p.Slots) * len(p.Slots)
		k.w.Now, k.a.Now = k.w.Now+more, k.a.Now+more
		for k.w.Now < 20000 {
			k.step(t, drawTrouble(d, k.w))
		}
		for range 20 {
			e := drawTrouble(d, k.w)
			what, was := k.step(t, e)
			if e.Kind == 1 && (what != impl.OneEvent{Kind: 1, Came: -1} || !sameOne(k.a, was)) {
				t.Fatalf("behind all time %v is %v", e, what)
			}
		}
	}
}

// A node that has lived as often as may be rises neither in the world nor in the one machine.
func TestP1TheLastLife(t *testing.T) {
	for _, boot := range []int{59998, 59999, 60000} {
		w := copyWorld(pairWorld(9, 3, []byte{5}))
		w.Nodes[0], w.Nodes[1] = plainBegin(w.Plan, boot), plainRise(w.Plan, plainBegin(w.Plan, 59999), 1)
		k := &walk{w: w, a: impl.OneOf(w)}
		for range 4 {
			for _, e := range []impl.WldEvent{{Kind: impl.WldRises, At: 0}, {Kind: impl.WldRises, At: 1}, {Kind: 1}, {Kind: 1}, {Kind: impl.WldFalls, At: 0}, {Kind: 1}, {Kind: impl.WldRises, At: 2}} {
				k.step(t, e)
			}
		}
		if k.a.Up[0] || k.w.Nodes[0].Boot != 60000 || !k.a.Up[1] {
			t.Errorf("behind %d lives: %v", boot, k.a.Up)
		}
	}
}

// calmStep lets a slot pass in a calm in which all know each other: what waits sets out, and what sets out comes. Whether something did.
func (k *walk) calmStep(t *testing.T) bool {
	t.Helper()
	s := k.a.Plan.Slots[k.a.Now%len(k.a.Plan.Slots)]
	turned := plainTurns(k.a)
	what, was := k.step(t, impl.WldEvent{Kind: 1})
	if s.Way < 0 || impl.PlnLocal(k.a.Plan, s.Way) || len(turned.Out[s.Way].Items) == 0 {
		if what != (impl.OneEvent{Kind: 1, Came: -1}) {
			t.Fatalf("nothing waits, but %v of %v", what, was)
		}
		return false
	}
	m := turned.Out[s.Way].Items[0]
	air := append(slices.Clone(was.Air[s.Way]), m)
	air = air[max(0, len(air)-12):]
	if !what.Took || what.Came < 0 || what.Came >= len(air) || !same(air[what.Came], m) || !sameLists(k.a.Out[s.Way].Items, turned.Out[s.Way].Items[1:]) {
		t.Fatalf("%v waits, but %v of %v", m, what, was)
	}
	want := copyOne(turned)
	plainArrives(want.Plan, &impl.NodNode{In: want.In}, s.Way, m)
	if !sameBoxes(k.a.In, want.In) {
		t.Fatalf("%v sets out, and comes as %v, not %v", m, k.a.In, want.In)
	}
	return true
}

func TestP7WhatSetsOutComes(t *testing.T) {
	t.Parallel()
	d, many := &draw{x: 7}, 0
	for _, p := range append(livelyPlans(d, 36), rowPlan(true), rowPlan(false), widePlan(d)) {
		k := beginWalk(p)
		for range 60 + d.below(60) {
			k.step(t, drawTrouble(d, k.w))
		}
		calm := impl.WldCalm(k.w, 1)
		for at := range k.w.Nodes {
			k.step(t, impl.WldEvent{Kind: impl.WldRises, At: at})
		}
		for range p.Slots {
			k.step(t, impl.WldEvent{Kind: 1})
		}
		if !sameWorld(k.w, calm) || !impl.WldBack(k.w) {
			t.Fatalf("no calm round: %v", k.w)
		}
		for range 70 {
			if k.calmStep(t) {
				many++
			}
		}
	}
	if many < 400 {
		t.Error("too few set out:", many)
	}
}

// Behind a thousand steps it is as behind a few.
func TestP7BehindAThousandSteps(t *testing.T) {
	t.Parallel()
	d := &draw{x: 71}
	for _, p := range []impl.PlnPlan{rowPlan(true), widePlan(d)} {
		k, many := beginWalk(p), 0
		for range 1000 {
			k.step(t, drawTrouble(d, k.w))
		}
		for at := range k.w.Nodes {
			k.step(t, impl.WldEvent{Kind: impl.WldRises, At: at})
		}
		for range p.Slots {
			k.step(t, impl.WldEvent{Kind: 1})
		}
		for range 100 {
			if k.calmStep(t) {
				many++
			}
		}
		if many < 10 {
			t.Error("too few set out:", many)
		}
	}
}

// A message waits ahead of the calm, and the other node fell: it sets out behind the calm round, and not ahead of that.
func TestP7ByHand(t *testing.T) {
	k := beginWalk(countPlan())
	for _, e := range []impl.WldEvent{{Kind: 1}, {Kind: 1, N: 1}, {Kind: 1}} {
		if what, _ := k.step(t, e); what.Took || what.Came != -1 {
			t.Fatal("somebody is known too early:", what)
		}
	}
	for _, c := range []struct {
		took bool
		came int
	}{{false, -1}, {false, -1}, {true, 0}, {false, -1}, {false, -1}, {true, 0}} {
		if what, _ := k.step(t, impl.WldEvent{Kind: 1}); what.Took != c.took || what.Came != c.came {
			t.Fatal("in a calm", what, "and not", c)
		}
	}
}

// checkOneStays holds a step of the one machine against the promises 20 to 22.
func checkOneStays(t *testing.T, was impl.OneState, e impl.OneEvent, is impl.OneState) {
	t.Helper()
	if !impl.OneOk(is) || !plainOneOk(is) || !samePlan(is.Plan, was.Plan) {
		t.Fatalf("%v leaves no machine of the same plan: %v, and then %v", e, was, is)
	}
	for k, list := range is.Air {
		most := len(list)
		// The last one may be new.
		for rest := max(0, most-1); rest <= most; rest++ {
			if from := len(was.Air[k]) - rest; from >= 0 && sameLists(list[:rest], was.Air[k][from:]) {
				most = -1
				break
			}
		}
		if most > 0 {
			t.Fatalf("behind %v there are %v under way, and ahead of it %v", e, list, was.Air[k])
		}
	}
	if e.Kind == impl.WldSlot && was.Now < 20000 {
		checkWhatComes(t, was, e, is)
	}
}

// checkWhatComes holds a slot against the promise that at most one message comes: by the slot's way, one that was under way, or waited, or was sent.
func checkWhatComes(t *testing.T, was impl.OneState, e impl.OneEvent, is impl.OneState) {
	t.Helper()
	s, turned := was.Plan.Slots[was.Now%len(was.Plan.Slots)], plainTurns(was)
	for k, w := range was.Plan.Ways {
		left, items := turned.In[k].Items, is.In[k].Items
		if sameLists(left, items) {
			continue
		}
		last := len(items) - 1
		if k != s.Way || len(items) != len(left)+1 || !sameLists(items[:last], left) {
			t.Fatalf("behind %v there are %v by the way %d, and not %v", e, items, k, left)
		}
		fits := func(m []byte) bool {
			if !w.Guarded {
				return same(m, items[last])
			}
			let, fine := plainDo(w.Guard, m)
			return fine && same(let, items[last])
		}
		if !slices.ContainsFunc(was.Air[k], fits) && !slices.ContainsFunc(turned.Out[k].Items, fits) {
			t.Fatalf("behind %v comes %v, of %v and %v", e, items[last], was.Air[k], turned.Out[k].Items)
		}
	}
}

// Machines of any sort stay ones, whatever happens, and become what the document says.
func TestP20DrawnMachines(t *testing.T) {
	t.Parallel()
	d, came, out := &draw{x: 20}, 0, 0
	for range 600 {
		a := drawOne(d, drawWorld(d, livelyPlan(d)))
		for range 8 {
			e := drawOneEvent(d, a)
			after := checkOneStep(t, a, e)
			checkOneStays(t, a, e, after)
			if e.Kind == 1 && a.Now < 20000 {
				if turned := plainTurns(a); !sameBoxes(turned.In, after.In) {
					came++
				}
				if !sameAir(a.Air, after.Air) {
					out++
				}
			}
			a = after
		}
	}
	if came < 120 || out < 120 {
		t.Error("too few of a sort:", came, out)
	}
}

func TestP20NothingOfWhatIsWrong(t *testing.T) {
	t.Parallel()
	d, wrong := &draw{x: 201}, 0
	for range 2500 {
		a := copyOne(drawOne(d, drawWorld(d, livelyPlan(d))))
		bendOne(d, &a)
		if plainOneOk(a) {
			continue
		}
		wrong++
		for kind := range 6 {
			if after := impl.OneStep(a, impl.OneEvent{Kind: kind, At: d.below(3), N: 7, Took: true}); !noOne(after) {
				t.Fatalf("%v becomes %v", a, after)
			}
		}
	}
	if wrong < 800 {
		t.Error("too few wrong machines:", wrong)
	}
}

// Of a way how many are under way, whether one waits and sets out, and which one comes: each against each.
func TestP21UnderWayByHand(t *testing.T) {
	for _, many := range []int{0, 1, 2, 10, 11, 12} {
		for waits := 0; waits <= 2; waits++ {
			for _, took := range []bool{false, true} {
				for _, came := range append([]int{-2, -1, 0, 1, many - 2, many - 1, many, many + 1, 11, 12, 13}, farInts...) {
					a := oneFull()
					a.Out[0].Items, a.In[0].Items, a.Air[0] = nil, nil, nil
					for k := range many {
						a.Air[0] = append(a.Air[0], []byte{byte(100 + k)})
					}
					for k := range waits {
						a.Out[0].Items = append(a.Out[0].Items, []byte{byte(200 + k)})
					}
					air := slices.Clone(a.Air[0])
					if took && waits > 0 {
						air = append(air, []byte{200})
					}
					if len(air) == 13 {
						air = air[1:]
					}
					var in [][]byte
					if came >= 0 && came < len(air) {
						in, air = air[came:came+1], air[came+1:]
					}
					after := checkOneStep(t, a, impl.OneEvent{Kind: 1, Took: took, Came: came, At: 1, N: 5})
					if !sameLists(after.Air[0], air) || !sameLists(after.In[0].Items, in) || took && waits > 0 != (len(after.Out[0].Items) < waits) {
						t.Errorf("%d under way, %d wait, %v, %d comes: %v and %v, not %v and %v", many, waits, took, came, after.Air[0], after.In[0].Items, air, in)
					}
					for k := 1; k < 7; k++ {
						if !sameLists(after.Air[k], a.Air[k]) || !sameBox(after.In[k], a.In[k]) || !sameBox(after.Out[k], a.Out[k]) {
							t.Errorf("the way %d has other things behind a slot of the way 0", k)
						}
					}
				}
			}
		}
	}
}

// The same message is under way more than once: the place alone says which one comes.
func TestP21TheSameMessageTwice(t *testing.T) {
	for came, left := range [][][]byte{{{2}, {1}, {1}}, {{1}, {1}}, {{1}}, nil} {
		a := oneFull()
		a.Air[0], a.In[0].Items = [][]byte{{1}, {2}, {1}, {1}}, nil
		after := checkOneStep(t, a, impl.OneEvent{Kind: 1, Came: came})
		if !sameLists(after.Air[0], left) || !sameLists(after.In[0].Items, [][]byte{a.Air[0][came]}) {
			t.Errorf("behind %d: %v and %v", came, after.Air[0], after.In[0].Items)
		}
	}
}

// A slot of no way, or of one that stays on its node: neither Took nor Came is asked.
func TestP22SlotsOfOtherSorts(t *testing.T) {
	for _, e := range []impl.OneEvent{{Kind: 1, Came: -1}, {Kind: 1, Took: true, Came: 0}, {Kind: 1, Took: true, Came: 2}, {Kind: 1, Came: 1}} {
		a := oneFull()
		a.Now = 11
		after := checkOneStep(t, a, e)
		if a.Now++; !sameOne(after, a) {
			t.Errorf("a slot for a hello by %v: %v", e, after)
		}
		// The way 3 has room for one more, the way 4 none.
		a = oneFull()
		a.Now = 6
		after = checkOneStep(t, a, e)
		if !sameLists(after.In[3].Items, [][]byte{{2, 3}, {1, 3}}) || !sameLists(after.Out[3].Items, [][]byte{{9, 3}}) || !sameAir(after.Air, a.Air) {
			t.Errorf("a way that stays, by %v: %v", e, after)
		}
		a = oneFull()
		a.Now = 7
		after = checkOneStep(t, a, e)
		if !sameLists(after.In[4].Items, [][]byte{{2, 4}}) || len(after.Out[4].Items) != 0 || !sameAir(after.Air, a.Air) {
			t.Errorf("a way that stays, to a full box, by %v: %v", e, after)
		}
		a = oneFull()
		a.Now, a.Out[3].Items = 6, nil
		if after = checkOneStep(t, a, e); !sameBoxes(after.In, a.In) || !sameAir(after.Air, a.Air) {
			t.Errorf("a way that stays, by which nothing waits, by %v: %v", e, after)
		}
	}
}

// What arrives: through a guard, at a full box, where nobody is up.
func TestP22Arrives(t *testing.T) {
	for name, c := range map[string]struct {
		now  int
		how  func(a *impl.OneState)
		came []byte
		then [][]byte
	}{
		"there is room":             {3, func(a *impl.OneState) {}, []byte{7, 7}, [][]byte{{2, 0}, {7, 7}}},
		"a message of nothing":      {3, func(a *impl.OneState) {}, nil, [][]byte{{2, 0}, nil}},
		"the box is full":           {3, func(a *impl.OneState) { a.In[0].Items = [][]byte{{1}, {2}} }, []byte{7}, [][]byte{{1}, {2}}},
		"the guard cuts":            {4, func(a *impl.OneState) { a.In[1].Items = nil }, []byte{9, 99, 3, 4}, [][]byte{{0, 99, 3}}},
		"the guard refuses":         {4, func(a *impl.OneState) { a.In[1].Items = nil }, []byte{9, 100, 3, 4}, nil},
		"the guard, and a full box": {4, func(a *impl.OneState) {}, []byte{9, 99, 3, 4}, [][]byte{{2, 1}}},
		"nobody is up there": {3, func(a *impl.OneState) {
			a.Up[1], a.Cells[1], a.In[0].Items, a.In[1].Items, a.In[6].Items, a.Out[2].Items = false, newCell(), nil, nil, nil, nil
		}, []byte{7}, nil},
		"its first node is down": {3, func(a *impl.OneState) { *a = plainOneFall(*a, 0) }, []byte{7}, [][]byte{{2, 0}, {7}}},
	} {
		for _, took := range []bool{false, true} {
			a := oneFull()
			c.how(&a)
			way := c.now - 3
			a.Now, a.Out[way].Items, a.Air[way] = c.now, nil, [][]byte{{1}, c.came, {3}}
			after := checkOneStep(t, a, impl.OneEvent{Kind: 1, Took: took, Came: 1})
			if !sameLists(after.In[way].Items, c.then) || !sameLists(after.Air[way], [][]byte{{3}}) {
				t.Errorf("%s: %v, and %v under way", name, after.In[way].Items, after.Air[way])
			}
			checkOneStays(t, a, impl.OneEvent{Kind: 1, Took: took, Came: 1}, after)
		}
	}
}

// What is sent in a turn may set out and come in the same slot; the turns of nodes that are not up are nobody's.
func TestP22SentInTheSameSlot(t *testing.T) {
	a := plainOneOf(plainWorld(countPlan()))
	a.Now = 2
	after := checkOneStep(t, a, impl.OneEvent{Kind: 1, Took: true, Came: 0})
	if !sameLists(after.In[0].Items, [][]byte{{1}}) || len(after.Air[0]) != 0 || len(after.Out[0].Items) != 0 || !sameSights(after.Seen[0], []impl.CelSight{saw(1, 0, 1)}) {
		t.Error("in the slot:", after)
	}
	// It is taken in the turn of the next one.
	after = checkOneStep(t, after, impl.OneEvent{Kind: 1, Came: -1})
	if len(after.In[0].Items) != 0 || !sameSights(after.Seen[1], []impl.CelSight{saw(3, 0, 1)}) {
		t.Error("in the next slot:", after)
	}
	for at := range 2 {
		b := checkOneStep(t, a, impl.OneEvent{Kind: impl.WldFalls, At: at})
		for range 3 {
			b = checkOneStep(t, b, impl.OneEvent{Kind: 1, Took: true, Came: -1})
		}
		if len(b.Seen[at]) != 0 || len(b.Seen[1-at]) == 0 || !sameCell(b.Cells[at], newCell()) {
			t.Errorf("the node %d is down: %v", at, b.Seen)
		}
	}
}

// What a cell sees is noted as long as there is room, and the cell goes on.
func TestP20SeenIsFull(t *testing.T) {
	p := handPlan(6, false, "tell 0", "read 1 2", "tell 1", "stop")
	sees := []impl.CelSight{saw(7, 0, 0), saw(6, 0), saw(7, 0, 0), saw(9, 0)}
	for _, many := range []int{0, 1, 115, 116, 117, 118, 119, 120} {
		a := plainOneOf(plainWorld(p))
		a.Seen[0], a.Seen[1] = slices.Repeat([]impl.CelSight{saw(8, 0)}, many), slices.Repeat([]impl.CelSight{saw(8, 0)}, 120)
		after := checkOneStep(t, a, impl.OneEvent{Kind: 1, Came: -1})
		want := append(slices.Clone(a.Seen[0]), sees[:min(4, 120-many)]...)
		if !sameSights(after.Seen[0], want) || !sameSights(after.Seen[1], a.Seen[1]) || len(after.Seen[2]) != 0 {
			t.Errorf("behind %d sights: %v", many, after.Seen)
		}
		if after.Cells[0].State.Halt != impl.VmStopped || !impl.OneOk(after) {
			t.Error("a cell that has seen all stops doing:", after.Cells[0])
		}
	}
}

func TestP20TheLastSlots(t *testing.T) {
	a := oneFull()
	a.Now = 19999
	for _, e := range []impl.OneEvent{{Kind: 1, Came: 0}, {Kind: 1, Took: true, Came: 0}, {Kind: 1, Took: true, Came: -1}} {
		for now := 19995; now <= 20000; now++ {
			a.Now = now
			after := checkOneStep(t, a, e)
			if after.Now != min(20000, now+1) || now == 20000 && !sameOne(after, a) {
				t.Errorf("behind the slot %d: %v", now, after)
			}
		}
		// 19995 is the 3rd slot of a round, for the way 0.
		a.Now = 19995
		if after := impl.OneStep(a, e); sameOne(after, a) || sameAir(after.Air, a.Air) {
			t.Error("nothing happens in the slot 19995:", after)
		}
	}
	a.Now = 20000
	if after := checkOneStep(t, a, impl.OneEvent{Kind: impl.WldFalls, At: 1}); after.Up[1] || after.Now != 20000 {
		t.Error("behind the last slot nothing falls:", after)
	}
	if after := checkOneStep(t, a, impl.OneEvent{Kind: impl.WldInput, At: 1, N: 3}); len(after.Cells[1].In) != 3 {
		t.Error("behind the last slot nothing is given:", after)
	}
}

func TestP20OtherKinds(t *testing.T) {
	a := oneFull()
	for _, kind := range append([]int{-1, 0, 5, 6, 7, 255, 256, 257}, farInts...) {
		for at := -1; at <= 4; at++ {
			if after := checkOneStep(t, a, impl.OneEvent{Kind: kind, At: at, N: 1, Took: true}); !sameOne(after, a) {
				t.Errorf("the kind %d at %d leaves %v", kind, at, after)
			}
		}
	}
}

func TestP20RisesAndFallsByHand(t *testing.T) {
	a := oneFull()
	for _, at := range append([]int{-2, -1, 3, 4, 255, 256}, farInts...) {
		for kind := impl.WldFalls; kind <= impl.WldInput; kind++ {
			if kind == impl.WldInput && at == 3 {
				continue
			}
			if after := checkOneStep(t, a, impl.OneEvent{Kind: kind, At: at, N: 1, Took: true}); !sameOne(after, a) {
				t.Errorf("the kind %d at %d leaves %v", kind, at, after)
			}
		}
	}
	for at := range 3 {
		// Who is up stays as it is; who is not begins with nothing.
		if after := checkOneStep(t, a, impl.OneEvent{Kind: impl.WldRises, At: at, Took: true, Came: 1}); !sameOne(after, a) {
			t.Errorf("the node %d, which is up, rises: %v", at, after)
		}
		down := checkOneStep(t, a, impl.OneEvent{Kind: impl.WldFalls, At: at, Took: true, Came: 1})
		if after := checkOneStep(t, down, impl.OneEvent{Kind: impl.WldFalls, At: at}); !sameOne(after, down) {
			t.Errorf("the node %d, which is not up, falls: %v", at, after)
		}
		up := checkOneStep(t, down, impl.OneEvent{Kind: impl.WldRises, At: at})
		down.Up[at] = true
		if !sameOne(up, down) {
			t.Errorf("the node %d rises: %v", at, up)
		}
	}
	// What has come under way to it meanwhile stays there as it rises.
	down := plainOneFall(oneFull(), 1)
	down.Air[0] = [][]byte{{7}}
	if up := checkOneStep(t, down, impl.OneEvent{Kind: impl.WldRises, At: 1}); !sameLists(up.Air[0], [][]byte{{7}}) || !up.Up[1] {
		t.Error("the node 1 rises:", up)
	}
}

func TestP23ByHand(t *testing.T) {
	a := oneFull()
	after := checkOneStep(t, a, impl.OneEvent{Kind: impl.WldFalls, At: 0, N: 3, Took: true, Came: 0})
	// The ways 0, 1 and 5 lead from the node 0 to others, 2 leads back; 3 and 4 stay there; 6 has to do with others.
	for k := range a.Air {
		from, to, air := k != 2 && k != 6, k >= 2 && k <= 4, a.Air[k]
		if to {
			air = nil
		}
		if from != (len(after.Out[k].Items) == 0) || to != (len(after.In[k].Items) == 0) || !sameLists(after.Air[k], air) {
			t.Errorf("the way %d: %v, %v and %v", k, after.Out[k], after.In[k], after.Air[k])
		}
	}
	if !slices.Equal(after.Up, []bool{false, true, true}) || !sameCell(after.Cells[0], newCell()) || !sameCell(after.Cells[3], newCell()) ||
		!sameCells(after.Cells[1:3], a.Cells[1:3]) || !sameSeen(after.Seen, a.Seen) || after.Now != a.Now {
		t.Error("a node falls:", after)
	}
}

func TestP23Drawn(t *testing.T) {
	t.Parallel()
	d, under := &draw{x: 23}, 0
	for range 1500 {
		a := drawOne(d, drawWorld(d, livelyPlan(d)))
		at := d.below(len(a.Up))
		is := checkOneStep(t, a, impl.OneEvent{Kind: impl.WldFalls, At: at, N: d.below(5), Took: true, Came: d.below(3)})
		for k, c := range a.Plan.Cells {
			want := a.Cells[k]
			if c.Node == at {
				want = newCell()
			}
			if !sameCell(is.Cells[k], want) {
				t.Fatalf("the node %d falls: the cell %d of %v is %v", at, k, a, is.Cells[k])
			}
		}
		for k, w := range a.Plan.Ways {
			out, in, air := a.Out[k], a.In[k], a.Air[k]
			from, to := plainEnds(a.Plan, k)
			if from == at {
				out = impl.BoxBox{Depth: w.Depth}
			}
			if to == at {
				in, air = impl.BoxBox{Depth: w.Depth}, nil
			}
			if !sameBox(is.Out[k], out) || !sameBox(is.In[k], in) || !sameLists(is.Air[k], air) {
				t.Fatalf("the node %d falls: the way %d of %v has %v, %v and %v", at, k, a, is.Out[k], is.In[k], is.Air[k])
			}
			if from == at && to != at && len(air) > 0 {
				under++
			}
		}
		up := slices.Clone(a.Up)
		if up[at] = false; !slices.Equal(is.Up, up) || is.Now != a.Now || !sameSeen(is.Seen, a.Seen) || !samePlan(is.Plan, a.Plan) {
			t.Fatalf("the node %d falls: %v, and then %v", at, a, is)
		}
	}
	if under < 300 {
		t.Error("too little is under way from nodes that fall:", under)
	}
}

func TestP20Input(t *testing.T) {
	for size := 0; size <= 6; size++ {
		for _, n := range append([]int{-1, 0, 1, 255, 256, 257}, farInts...) {
			a := oneFull()
			a.Cells[3].In = upward(size)
			want := copyOne(a)
			if size < 6 && n >= 0 && n <= 255 {
				want.Cells[3].In = append(want.Cells[3].In, byte(n))
			}
			if after := checkOneStep(t, a, impl.OneEvent{Kind: impl.WldInput, At: 3, N: n, Took: true, Came: 0}); !sameOne(after, want) {
				t.Errorf("%d behind %d bytes: %v", n, size, after.Cells)
			}
		}
	}
	a := plainOneFall(oneFull(), 0)
	for at := -1; at <= 5; at++ {
		after := checkOneStep(t, a, impl.OneEvent{Kind: impl.WldInput, At: at, N: 77})
		if lives := at == 1 || at == 2; lives == sameOne(after, a) || lives && after.Cells[at].In[2] != 77 {
			t.Errorf("a byte for the cell %d: %v", at, after.Cells)
		}
	}
}

// whatOf calls OneWhat of a pair of nodes in the slot of their way, with this under way, and says what is wrong with the answer.
func whatOf(t *testing.T, name string, w impl.WldWorld, air [][]byte, e impl.WldEvent, took bool, came int) {
	t.Helper()
	a := plainOneOf(w)
	a.Air[0] = air
	if what := checkWhat(t, a, w, e); what != (impl.OneEvent{Kind: 1, Took: took, Came: came}) {
		t.Errorf("%s: %v, not %v and %d", name, what, took, came)
	}
}

func TestP1WhatComesOfAPair(t *testing.T) {
	five, six := []byte{5}, []byte{6}
	many := slices.Repeat([][]byte{six}, 11)
	pass, lost := impl.WldEvent{Kind: 1, At: 1, V: 2}, impl.WldEvent{Kind: 1, N: impl.WldLost, At: 1}
	w := onePairs()
	for _, c := range []struct {
		name string
		air  [][]byte
		came int
	}{
		{"nothing was under way", nil, 0},
		{"one other", [][]byte{six}, 1},
		{"the same one", [][]byte{five}, 0},
		{"the same one twice", [][]byte{six, five, {7}, five}, 1},
		{"eleven others", many, 11},
		{"eleven, and the same one last", append(slices.Clone(many)[:10], five), 10},
		{"twelve others", append(slices.Clone(many), six), 11},
		{"twelve, and the same one first: that is gone", append([][]byte{five}, many...), 11},
		{"twelve, and the same one first and second", append([][]byte{five, five}, many[:10]...), 0},
		{"twelve, and the same one last", append(slices.Clone(many), five), 10},
		{"twelve of them", slices.Repeat([][]byte{five}, 12), 0},
		{"none of the same size", [][]byte{nil, {5, 0}, {5, 5}, {0, 5}}, 4},
	} {
		whatOf(t, c.name, w, c.air, pass, true, c.came)
		whatOf(t, c.name+", lost", w, c.air, lost, true, -1)
		whatOf(t, c.name+", bent", w, c.air, impl.WldEvent{Kind: 1, N: impl.WldBent, At: 11, V: 1}, true, -1)
		whatOf(t, c.name+", not bent", w, c.air, impl.WldEvent{Kind: 1, N: impl.WldBent, At: 24, V: 1}, true, c.came)
		whatOf(t, c.name+", made", w, c.air, impl.WldEvent{Kind: 1, N: impl.WldMade, Bytes: plainSaid(w.Plan, impl.FrmHead{Kind: 2, To: 1, Boot: 1, Peer: 1, Seq: 3}, five, true)}, true, -1)
		whatOf(t, c.name+", by no way", w, c.air, impl.WldEvent{Kind: 1, N: 5}, true, -1)
	}
}

// It comes also where the box is full or the guard refuses it; it does not where the number is old, or nobody is up.
func TestP1WhatComesByItsCode(t *testing.T) {
	for name, c := range map[string]struct {
		how  func(w *impl.WldWorld)
		took bool
		came int
	}{
		"brought":              {func(w *impl.WldWorld) {}, true, 1},
		"no room":              {func(w *impl.WldWorld) { w.Nodes[1].In[0].Items = [][]byte{{1}, {2}} }, true, 1},
		"refused":              {func(w *impl.WldWorld) { w.Plan.Ways[0].Guarded = true }, true, 1},
		"let through, and cut": {func(w *impl.WldWorld) { w.Plan.Ways[0].Guarded, w.Plan.Ways[0].Guard = true, okRules[5:] }, true, 1},
		"old":                  {func(w *impl.WldWorld) { w.Nodes[1].Ins[0] = impl.InIn{Boot: 1, Seq: 4} }, true, -1},
		"the last one":         {func(w *impl.WldWorld) { w.Nodes[1].Ins[0] = impl.InIn{Boot: 1, Seq: 3} }, true, 1},
		"no message":           {func(w *impl.WldWorld) { w.Nodes[0].Out[0].Items = nil }, false, -1},
		"nobody known":         {func(w *impl.WldWorld) { w.Nodes[0].Outs[0].Peer = 0 }, false, -1},
		"no numbers":           {func(w *impl.WldWorld) { w.Nodes[0].Outs[0].Epoch = 200 }, false, -1},
		"nobody there":         {func(w *impl.WldWorld) { w.Nodes[1] = plainBegin(w.Plan, 1) }, true, -1},
		"another life":         {func(w *impl.WldWorld) { w.Nodes[1] = plainRise(w.Plan, plainBegin(w.Plan, 1), 1) }, true, -1},
		"nobody here":          {func(w *impl.WldWorld) { w.Nodes[0] = plainBegin(w.Plan, 1) }, false, -1},
		"the last such slot":   {func(w *impl.WldWorld) { w.Now = 19997 }, true, 1},
		"all time":             {func(w *impl.WldWorld) { w.Now = 20000 }, false, -1},
		"a hello's slot":       {func(w *impl.WldWorld) { w.Now = 3 }, false, -1},
		"another node's slot":  {func(w *impl.WldWorld) { w.Now = 4 }, false, -1},
	} {
		w := onePairs()
		c.how(&w)
		whatOf(t, name, w, [][]byte{{9}}, impl.WldEvent{Kind: 1}, c.took, c.came)
	}
	// In rounds of five slots the very last one is for the way.
	w := onePairs()
	w.Plan.Slots, w.Plan.Turns = append(w.Plan.Slots, impl.PlnSlot{Way: -1}, impl.PlnSlot{Way: 0}), [][]int{{0, -1, -1, -1, -1}, {1, -1, -1, -1, -1}}
	for now, came := range map[int]int{19997: 0, 19998: -1, 19999: 0, 20000: -1} {
		w.Now = now
		whatOf(t, "one of the last slots", w, nil, impl.WldEvent{Kind: 1}, came == 0, came)
	}
}

// What lies there by an earlier frame, behind one that was lost: its first place; if it is not under way, none.
func TestP1WhatComesOfAnEarlierFrame(t *testing.T) {
	w := onePairs()
	lost := impl.WldEvent{Kind: 1, N: impl.WldLost}
	for range 3 {
		w = impl.WldStep(w, lost)
	}
	// Of Log the last three are the first message's word and two hellos.
	for at, came := range map[int]int{2: 1, 1: -1, 0: -1, 3: -1, 4: -1, 5: -1, -1: -1} {
		whatOf(t, "an earlier frame", w, [][]byte{{8}, {5}, {5}}, impl.WldEvent{Kind: 1, N: impl.WldEarlier, At: at}, true, came)
	}
	whatOf(t, "one that is not under way", w, [][]byte{{8}, {7}}, impl.WldEvent{Kind: 1, N: impl.WldEarlier, At: 2}, true, -1)
	whatOf(t, "one that falls off", w, append([][]byte{{5}}, slices.Repeat([][]byte{{8}}, 11)...), impl.WldEvent{Kind: 1, N: impl.WldEarlier, At: 2}, true, -1)
	whatOf(t, "one that has been taken now, too", w, [][]byte{{8}, {6}}, impl.WldEvent{Kind: 1}, true, 1)
	w.Nodes[0] = plainBegin(w.Plan, 1)
	whatOf(t, "of one that is down", w, [][]byte{{8}, {5}, {5}}, impl.WldEvent{Kind: 1, N: impl.WldEarlier, At: 2}, false, 1)
}

// A slot for a way that stays on its node: what was said earlier is for others, and nothing is taken by NodSays.
func TestP1WhatOfAWayThatStays(t *testing.T) {
	w := plainWorld(busPlan())
	w.Nodes[0].Out[3].Items, w.Now = [][]byte{{1}}, 6
	for n := range 5 {
		if what := checkWhat(t, plainOneOf(w), w, impl.WldEvent{Kind: 1, N: n}); what != (impl.OneEvent{Kind: 1, Came: -1}) {
			t.Errorf("by %d: %v", n, what)
		}
	}
}

func TestP1WhatOfOtherKinds(t *testing.T) {
	w := onePairs()
	w.Nodes[0], w.Nodes[1] = plainRise(w.Plan, plainBegin(w.Plan, 59999), 0), plainBegin(w.Plan, 59999)
	a := plainOneOf(w)
	for _, kind := range append([]int{-1, 0, 2, 3, 4, 5, 255}, farInts...) {
		for _, at := range append([]int{-1, 0, 1, 2}, farInts...) {
			for _, n := range append([]int{-1, 0, 255, 256}, farInts...) {
				want := impl.OneEvent{Kind: kind, At: at, N: n, Came: -1}
				if kind == 3 && at == 0 {
					want.Kind = 0
				}
				if what := checkWhat(t, a, w, impl.WldEvent{Kind: kind, At: at, N: n, V: 7, Bytes: []byte{1}}); what != want {
					t.Errorf("%d at %d of %d: %v, not %v", kind, at, n, what, want)
				}
			}
		}
	}
	w.Nodes[1].Boot = 60000
	if what := checkWhat(t, a, w, impl.WldEvent{Kind: 3, At: 1, N: 4}); what != (impl.OneEvent{At: 1, N: 4, Came: -1}) {
		t.Error("a node that has lived as often as may be:", what)
	}
}

func TestP1WhatOfWrongOnes(t *testing.T) {
	w, events := onePairs(), []impl.WldEvent{{}, {Kind: 1}, {Kind: 1, N: 1}, {Kind: 2}, {Kind: 3, At: 1}, {Kind: 4, N: 9}, {Kind: 9, At: 3, N: 4}}
	others := []impl.OneState{impl.OneNew(basePlan()), impl.OneNew(busPlan()), oneFull(), {}}
	for _, e := range events {
		for _, a := range others {
			if what := checkWhat(t, a, w, e); what != (impl.OneEvent{}) {
				t.Errorf("of another number of ways: %v is %v", e, what)
			}
		}
		for _, broken := range breaks() {
			wrong := impl.WldNew(basePlan())
			broken(&wrong.Plan)
			if what := checkWhat(t, impl.OneNew(basePlan()), wrong, e); what != (impl.OneEvent{}) {
				t.Errorf("of a wrong world: %v is %v", e, what)
			}
		}
		// Of another plan that has as many ways it is what the world says.
		if what := checkWhat(t, impl.OneNew(countPlan()), w, e); e.Kind != what.Kind || what.Came != -1 && e.Kind != 1 {
			t.Errorf("of another plan: %v is %v", e, what)
		}
	}
}

func TestP1WhatDrawn(t *testing.T) {
	t.Parallel()
	d, came, places, none := &draw{x: 103}, 0, 0, 0
	for range 900 {
		fine := drawWorld(d, livelyPlan(d))
		w, a := fine, drawOne(d, fine)
		switch d.below(12) {
		case 0:
			a = drawOne(d, drawWorld(d, livelyPlan(d)))
		case 1:
			bendOne(d, &a)
		case 2:
			w = copyWorld(w)
			bendWorld(d, &w)
		}
		for range 6 {
			e := drawEvent(d, fine)
			what := checkWhat(t, a, w, e)
			if what.Kind == 1 && what.Came >= 0 {
				came++
			}
			if what.Came > 0 {
				places++
			}
			if what == (impl.OneEvent{}) {
				none++
			}
		}
	}
	if came < 50 || places < 30 || none < 200 {
		t.Error("too few of a sort:", came, places, none)
	}
}

// sameChange is one change of a machine, and whether it is still the same behind it.
type sameChange struct {
	name string
	same bool
	how  func(a *impl.OneState)
}

func TestP24ByHand(t *testing.T) {
	for _, c := range []sameChange{
		{"as it is", true, func(a *impl.OneState) {}},
		{"other things under way", true, func(a *impl.OneState) { a.Air[0] = [][]byte{{99}} }},
		{"nothing under way", true, func(a *impl.OneState) { a.Air = make([][][]byte, 7) }},
		{"another secret", true, func(a *impl.OneState) { a.Plan.Secret = 1 }},
		{"another program", true, func(a *impl.OneState) { a.Plan.Cells[1].Code = []impl.VmOrder{{Op: 13}} }},
		{"other slots", true, func(a *impl.OneState) { a.Plan.Slots[0], a.Plan.Slots[1] = a.Plan.Slots[1], a.Plan.Slots[0] }},
		{"another label, and a guard", true, func(a *impl.OneState) { a.Plan.Cells[1].Again, a.Plan.Ways[1].Guard = true, nil }},
		{"a cell on another node", true, func(a *impl.OneState) {
			// The node 1 has another cell then, and the node 0 one less.
			a.Plan.Cells[3].Node, a.Plan.Turns[0][1], a.Plan.Turns[1][1] = 1, -1, 3
			for k, s := range a.Plan.Slots {
				if s.Way == 4 || s.Way == 5 {
					a.Plan.Slots[k].Node = 1
				}
			}
		}},
		{"later", false, func(a *impl.OneState) { a.Now++ }},
		{"twelve slots later", false, func(a *impl.OneState) { a.Now += 12 }},
		{"a node is down", false, func(a *impl.OneState) { *a = plainOneFall(*a, 2) }},
		{"a machine is elsewhere", false, func(a *impl.OneState) {
			a.Plan.Cells[2].Code, a.Cells[2].State.Pc = []impl.VmOrder{{Op: 13}}, 1
		}},
		{"another register", false, func(a *impl.OneState) { a.Cells[2].State.Regs[3] = 9 }},
		{"another byte of memory", false, func(a *impl.OneState) { a.Cells[0].State.Mem[7] = 9 }},
		{"a machine has stopped", false, func(a *impl.OneState) { a.Cells[3].State.Halt = 1 }},
		{"another byte waits", false, func(a *impl.OneState) { a.Cells[3].In[1] = 7 }},
		{"a byte more waits", false, func(a *impl.OneState) { a.Cells[0].In = append(a.Cells[0].In, 0) }},
		{"no byte waits", false, func(a *impl.OneState) { a.Cells[0].In = nil }},
		{"another message waits to set out", false, func(a *impl.OneState) { a.Out[6].Items[0] = []byte{1} }},
		{"one less waits to set out", false, func(a *impl.OneState) { a.Out[6].Items = nil }},
		{"another message has come", false, func(a *impl.OneState) { a.In[0].Items[0] = []byte{2, 1} }},
		{"one more has come", false, func(a *impl.OneState) { a.In[0].Items = append(a.In[0].Items, nil) }},
		{"a way of another depth", false, func(a *impl.OneState) { a.Plan.Ways[6].Depth, a.Out[6].Depth, a.In[6].Depth = 4, 4, 4 }},
		{"a sight more", false, func(a *impl.OneState) { a.Seen[3] = append(a.Seen[3], saw(6, 0)) }},
		{"no sight", false, func(a *impl.OneState) { a.Seen[0] = nil }},
		{"a sight of another kind", false, func(a *impl.OneState) { a.Seen[3][0].Kind = 8 }},
		{"a sight of another way", false, func(a *impl.OneState) { a.Seen[1][1].Way = 0 }},
		{"a sight of other bytes", false, func(a *impl.OneState) { a.Seen[2][1].Bytes = []byte{3} }},
		{"nothing that is ok", false, func(a *impl.OneState) { a.Air[0] = slices.Repeat([][]byte{nil}, 13) }},
		{"a wrong plan", false, func(a *impl.OneState) { a.Plan.Fuel = 0 }},
	} {
		a, b := oneFull(), oneFull()
		c.how(&b)
		if got := checkSameOne(t, a, b); got != c.same {
			t.Errorf("%s: same is %v", c.name, got)
		}
		if ok := plainOneOk(b); checkSameOne(t, b, copyOne(b)) != ok || c.same && !ok {
			t.Errorf("%s: it is not the same as itself, ok is %v", c.name, ok)
		}
	}
}

// Nodes and cells are as many in both, or they are not the same; how many ways there are shows in the boxes.
func TestP24AsManyNodesAndCells(t *testing.T) {
	var all []impl.OneState
	for nodes := 1; nodes <= 4; nodes++ {
		for cells := 1; cells <= 4; cells++ {
			for ways := range min(2, cells) {
				all = append(all, impl.OneNew(layPlan(nodes, spread(cells, nodes), joined([2]int{0, 1})[:ways], 0)))
			}
		}
	}
	for k, a := range all {
		for other, b := range all {
			if checkSameOne(t, a, b) != (k == other) {
				t.Errorf("the machines %d and %d: %v and %v", k, other, a, b)
			}
		}
	}
	// A list that is there and empty is the same as none.
	a, b := oneFull(), oneFull()
	a.Cells[0].In, a.Out[6].Items, a.Seen[1], a.In[0].Items = nil, nil, nil, [][]byte{nil}
	b.Cells[0].In, b.Out[6].Items, b.Seen[1], b.In[0].Items = []byte{}, [][]byte{}, []impl.CelSight{}, [][]byte{{}}
	if !checkSameOne(t, a, b) {
		t.Error("empty lists are not the same as none")
	}
}

func TestP24Drawn(t *testing.T) {
	t.Parallel()
	d, alike, not := &draw{x: 24}, 0, 0
	for range 250 {
		all := []impl.OneState{drawOne(d, drawWorld(d, livelyPlan(d)))}
		for range 4 {
			b := copyOne(all[d.below(len(all))])
			switch d.below(6) {
			case 0, 1:
				for k := range b.Air {
					b.Air[k] = drawAir(d, nil)
				}
			case 2:
				b.Plan.Secret, b.Plan.Fuel = d.below(1000), 1+d.below(16)
			case 3:
				b = plainOneStep(b, drawOneEvent(d, b))
			case 4:
				bendOne(d, &b)
			}
			if len(b.Seen) > 0 && plainOneOk(b) {
				all = append(all, b)
				continue
			}
			checkSameOne(t, all[0], b)
		}
		for _, a := range all {
			if !impl.OneSame(a, a) {
				t.Fatalf("%v is not the same as itself", a)
			}
			for _, b := range all {
				if !checkSameOne(t, a, b) {
					not++
					continue
				}
				alike++
				for _, c := range all {
					if impl.OneSame(b, c) != impl.OneSame(a, c) {
						t.Fatalf("same as one and not as the other: %v, %v and %v", a, b, c)
					}
				}
			}
		}
	}
	if alike < 1500 || not < 1000 {
		t.Error("too few of a sort:", alike, not)
	}
}

// roomyOne is a copy of a machine, and all memory that its lists lie in.
func roomyOne(a impl.OneState) (impl.OneState, []any) {
	plan, all := roomyPlan(a.Plan)
	a = copyOne(a)
	// Its cells and boxes lie in memory as a node's do.
	n, more := roomyNode(impl.NodNode{Cells: a.Cells, Out: a.Out, In: a.In})
	all = append(all, more...)
	a.Plan, a.Cells, a.Out, a.In = plan, n.Cells, n.Out, n.In
	for k, list := range a.Air {
		for i := range list {
			list[i] = roomy(list[i], 0xA5, &all)
		}
		a.Air[k] = roomy(list, []byte{0xA5}, &all)
	}
	for k, list := range a.Seen {
		for i := range list {
			list[i].Bytes = roomy(list[i].Bytes, 0xA5, &all)
		}
		a.Seen[k] = roomy(list, impl.CelSight{Kind: -7}, &all)
	}
	a.Up, a.Air, a.Seen = roomy(a.Up, true, &all), roomy(a.Air, [][]byte{{0xA5}}, &all), roomy(a.Seen, nil, &all)
	return a, all
}

// scribbleOne writes over all memory of a machine, spare room included, and finds out whether two lists share any.
func scribbleOne(t *testing.T, name string, a impl.OneState) {
	t.Helper()
	var held [][]byte
	items, ints := slices.Clone(a.Air), slices.Clone(a.Plan.Turns)
	for _, c := range a.Cells {
		held, ints = append(held, c.In), append(ints, c.State.Regs, c.State.Mem)
	}
	for _, b := range slices.Concat(a.Out, a.In) {
		items = append(items, b.Items)
	}
	for _, list := range items {
		held = append(held, list...)
	}
	for _, list := range a.Seen {
		for _, s := range list {
			held = append(held, s.Bytes)
		}
	}
	checkApart(t, name, held...)
	checkListsApart(t, name, ints, -5, slices.Equal[[]int])
	checkListsApart(t, name, items, []byte{0xEE}, sameLists)
	checkListsApart(t, name, [][]impl.BoxBox{a.Out, a.In}, impl.BoxBox{Depth: -9}, sameBoxes)
	checkListsApart(t, name, a.Seen, impl.CelSight{Kind: -9}, sameSights)
	scribblePlan(t, name, a.Plan)
	scribble(a.Up, false)
	scribble(a.Up, true)
	scribble(a.Cells, impl.CelCell{In: []byte{1}})
	scribble(a.Air, [][]byte{{1}})
	scribble(a.Seen, nil)
}

// checkOneMemory calls with a machine of which nothing may be written into, writes over the answer, and calls again.
func checkOneMemory(t *testing.T, name string, a impl.OneState, call func(a impl.OneState) impl.OneState) {
	t.Helper()
	given, all := roomyOne(a)
	_, was := roomyOne(a)
	first := call(given)
	kept := copyOne(first)
	scribbleOne(t, name, first)
	if !reflect.DeepEqual(all, was) {
		t.Fatalf("%s: %v was written into, or is shared with the answer", name, a)
	}
	if again := call(given); !sameOne(again, kept) {
		t.Fatalf("%s: %v, and then %v", name, kept, again)
	}
}

// fewSights is a machine of whose sights few are left, as all lists are held against each other.
func fewSights(a impl.OneState) impl.OneState {
	a = copyOne(a)
	for k, list := range a.Seen {
		a.Seen[k] = list[:min(len(list), 5)]
	}
	return a
}

// asked is nothing, with what functions that answer no lists have said.
func asked(said ...bool) impl.OneState {
	return impl.OneState{Up: said}
}

func TestOneMemory(t *testing.T) {
	t.Parallel()
	d := &draw{x: 193}
	for k := range 160 {
		w := smaller(drawWorld(d, livelyPlan(d)))
		a := fewSights(drawOne(d, w))
		if k%10 == 0 {
			bendOne(d, &a)
		}
		events := []impl.OneEvent{{Kind: 1, Came: -1}, {Kind: 1, Took: true, Came: -1}, {Kind: 1, Took: true, Came: 0}, {Kind: 1, Came: 2}, {Kind: 2}, {Kind: 3}, {Kind: 4, N: 65}, {Kind: 9}}
		for _, e := range append(events, drawOneEvent(d, oneFull())) {
			checkOneMemory(t, "OneStep", a, func(a impl.OneState) impl.OneState { return impl.OneStep(a, e) })
		}
		checkOneMemory(t, "OneOk and OneSame", a, func(a impl.OneState) impl.OneState {
			return asked(impl.OneOk(a), impl.OneSame(a, a), impl.OneSame(a, impl.OneOf(w)), impl.OneSame(impl.OneOf(w), a))
		})
		checkOneMemory(t, "OneNew", a, func(a impl.OneState) impl.OneState { return impl.OneNew(a.Plan) })
		checkWorldMemory(t, "OneOf and OneWhat", w, d.bytes(24), func(w impl.WldWorld, b []byte) impl.WldWorld {
			scribbleOne(t, "OneOf", impl.OneOf(w))
			for n := range 5 {
				checkOneMemory(t, "OneWhat", a, func(a impl.OneState) impl.OneState {
					what := impl.OneWhat(a, w, impl.WldEvent{Kind: 1, N: n, At: 2, V: 1, Bytes: b})
					return asked(what.Took, what.Came < 0)
				})
			}
			return impl.WldWorld{}
		})
	}
	for _, e := range []impl.OneEvent{{Kind: 1, Took: true, Came: 0}, {Kind: 1, Took: true, Came: 3}, {Kind: 2}, {Kind: 2, At: 1}, {Kind: 4, N: 3}} {
		for now := range 12 {
			a := oneFull()
			a.Now = now
			checkOneMemory(t, "OneStep", a, func(a impl.OneState) impl.OneState { return impl.OneStep(a, e) })
		}
	}
}

// One list may stand in several places of a machine: just what is meant changes.
func TestOneOneListTwice(t *testing.T) {
	a := oneFull()
	m, items := []byte{1, 2}, [][]byte{{3}, {4}}
	for k := range a.Air {
		a.Air[k] = items
	}
	a.Air[0] = [][]byte{m, m, m}
	a.Out[0].Items, a.In[0].Items, a.Out[5].Items, a.In[5].Items = [][]byte{m, m}, [][]byte{m}, items, items
	a.Cells[1], a.Cells[2] = a.Cells[0], a.Cells[0]
	a.Seen[1], a.Seen[2] = a.Seen[0], a.Seen[0]
	for _, e := range []impl.OneEvent{{Kind: 1, Took: true, Came: 1}, {Kind: 2}, {Kind: 2, At: 1}, {Kind: 4, At: 1, N: 9}} {
		was := copyOne(a)
		after := checkOneStep(t, a, e)
		scribbleOne(t, "OneStep", after)
		if !sameOne(a, was) {
			t.Errorf("%v leaves of what was given %v", e, a)
		}
	}
}

func TestOneManyAtOnce(t *testing.T) {
	d := &draw{x: 194}
	w := impl.WldCalm(impl.WldNew(widePlan(d)), 2)
	a := drawOne(d, w)
	events := []impl.OneEvent{{Kind: 1, Took: true, Came: 0}, {Kind: 1, Came: 1}, {Kind: 2, At: 1}, {Kind: 4, At: 2, N: 9}}
	var wants []impl.OneState
	for _, e := range events {
		wants = append(wants, plainOneStep(a, e))
	}
	pass, of := plainWhat(a, w, impl.WldEvent{Kind: 1}), plainOneOf(w)
	var all sync.WaitGroup
	for range 8 {
		all.Add(1)
		go func() {
			defer all.Done()
			for k, e := range events {
				if after := impl.OneStep(a, e); !sameOne(after, wants[k]) {
					t.Errorf("%v leaves %v", e, after)
				}
			}
			if what := impl.OneWhat(a, w, impl.WldEvent{Kind: 1}); what != pass {
				t.Error("a slot is", what, "and not", pass)
			}
			if !sameOne(impl.OneOf(w), of) || !impl.OneSame(a, a) || !impl.OneOk(a) {
				t.Error("not ok, or not the same")
			}
		}()
	}
	all.Wait()
}

func TestOneCellsAllEnd(t *testing.T) {
	k := beginWalk(widePlan(&draw{x: 195}))
	before := runtime.NumGoroutine()
	for at := range 200 {
		k.step(t, impl.WldEvent{Kind: 1, N: at % 4, At: at % 12, V: 1})
	}
	// Those that have just said that they end may still be counted for a moment.
	for range 1000 {
		if runtime.NumGoroutine() <= before {
			return
		}
		runtime.Gosched()
	}
	t.Errorf("%d goroutines, and then %d", before, runtime.NumGoroutine())
}
