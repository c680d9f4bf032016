package tests

import (
	"reflect"
	"slices"
	"testing"

	"loop.example/casemate/impl"
)

// copyPlan is a plan that shares no memory with the one told.
func copyPlan(p impl.PlnPlan) impl.PlnPlan {
	p.Cells = slices.Clone(p.Cells)
	for k := range p.Cells {
		p.Cells[k].Code = slices.Clone(p.Cells[k].Code)
	}
	p.Ways = slices.Clone(p.Ways)
	for k := range p.Ways {
		p.Ways[k].Guard = slices.Clone(p.Ways[k].Guard)
	}
	p.Slots = slices.Clone(p.Slots)
	p.Turns = slices.Clone(p.Turns)
	for k := range p.Turns {
		p.Turns[k] = slices.Clone(p.Turns[k])
	}
	return p
}

// samePlan says whether two plans are the same value; a nil list is the empty one.
func samePlan(a impl.PlnPlan, b impl.PlnPlan) bool {
	return a.Nodes == b.Nodes && a.Secret == b.Secret && a.Fuel == b.Fuel && slices.Equal(a.Slots, b.Slots) &&
		slices.EqualFunc(a.Turns, b.Turns, slices.Equal[[]int]) &&
		slices.EqualFunc(a.Cells, b.Cells, func(c impl.PlnCell, d impl.PlnCell) bool {
			return c.Node == d.Node && c.Label == d.Label && c.Again == d.Again && slices.Equal(c.Code, d.Code)
		}) &&
		slices.EqualFunc(a.Ways, b.Ways, func(v impl.PlnWay, w impl.PlnWay) bool {
			return v.From == w.From && v.To == w.To && v.Depth == w.Depth && v.Guarded == w.Guarded && slices.Equal(v.Guard, w.Guard)
		})
}

// layPlan lays slots and turns for cells and ways: a hello of each node, a slot
// of each way, and so many hellos more of the node 0; each cell has one turn.
func layPlan(nodes int, cells []impl.PlnCell, ways []impl.PlnWay, more int) impl.PlnPlan {
	p := impl.PlnPlan{Nodes: nodes, Secret: 7, Fuel: 3, Cells: cells, Ways: ways}
	for node := range nodes {
		p.Slots = append(p.Slots, impl.PlnSlot{Node: node, Way: -1})
	}
	for k, w := range ways {
		p.Slots = append(p.Slots, impl.PlnSlot{Node: cells[w.From].Node, Way: k})
	}
	most := 0
	for node := range nodes {
		most = max(most, len(cellsOf(cells, node)))
	}
	for range max(more, most-len(p.Slots)) {
		p.Slots = append(p.Slots, impl.PlnSlot{Node: 0, Way: -1})
	}
	for node := range nodes {
		turns := cellsOf(cells, node)
		for len(turns) < len(p.Slots) {
			turns = append(turns, -1)
		}
		p.Turns = append(p.Turns, turns)
	}
	return p
}

// cellsOf has the places of a node's cells.
func cellsOf(cells []impl.PlnCell, node int) []int {
	var out []int
	for k, c := range cells {
		if c.Node == node {
			out = append(out, k)
		}
	}
	return out
}

// spread is n cells without programs, one behind the other on so many nodes.
func spread(n int, nodes int) []impl.PlnCell {
	cells := make([]impl.PlnCell, n)
	for k := range cells {
		cells[k].Node = k % nodes
	}
	return cells
}

// joined has a way of depth 1 for each pair of cells.
func joined(pairs ...[2]int) []impl.PlnWay {
	var ways []impl.PlnWay
	for _, p := range pairs {
		ways = append(ways, impl.PlnWay{From: p[0], To: p[1], Depth: 1})
	}
	return ways
}

// slotsOf has a slot for each node and way.
func slotsOf(pairs ...[2]int) []impl.PlnSlot {
	var slots []impl.PlnSlot
	for _, p := range pairs {
		slots = append(slots, impl.PlnSlot{Node: p[0], Way: p[1]})
	}
	return slots
}

// basePlan is a plan that is ok: a ring of ways over the cells 0, 1 and 2, one
// of them guarded and one that stays on its node, and a cell that leads into it.
func basePlan() impl.PlnPlan {
	return impl.PlnPlan{
		Nodes: 3, Secret: 77, Fuel: 6,
		Cells: []impl.PlnCell{
			{Node: 0, Label: impl.LblLabel{Level: 1, Marks: 1}, Code: []impl.VmOrder{{Op: 9, A: 0, B: 1, C: 2}, {Op: 10, A: 2}, {Op: 10, A: 3}, {Op: 13}}},
			{Node: 1, Label: impl.LblLabel{Level: 1, Marks: 3}, Again: true, Code: []impl.VmOrder{{Op: 10, A: 0}, {Op: 9, A: 1}, {Op: 8, A: 3}}},
			{Node: 1, Label: impl.LblLabel{Level: 3, Marks: 3}, Code: []impl.VmOrder{{Op: 10, A: 1}, {Op: 9, A: 2, C: 3}}},
			{Node: 2, Code: []impl.VmOrder{{Op: 9, A: 3}}},
		},
		Ways: []impl.PlnWay{
			{From: 0, To: 1, Depth: 1},
			{From: 1, To: 2, Depth: 4},
			{From: 2, To: 0, Depth: 2, Guarded: true, Guard: []impl.GrdRule{okRules[4], okRules[1]}},
			{From: 3, To: 0, Depth: 3, Guarded: true},
		},
		Slots: slotsOf([2]int{0, -1}, [2]int{1, -1}, [2]int{2, -1}, [2]int{0, 0}, [2]int{1, 1}, [2]int{1, 2}, [2]int{2, 3}),
		Turns: [][]int{{0, -1, 0, -1, -1, -1, 0}, {-1, 1, 2, 1, -1, 2, 1}, {3, -1, -1, -1, -1, -1, -1}},
	}
}

// plainPlan says what is wrong with a plan, straight along the document's list.
func plainPlan(p impl.PlnPlan) (int, int) {
	node := func(n int) bool { return n >= 0 && n < p.Nodes }
	cell := func(n int) bool { return n >= 0 && n < len(p.Cells) }
	way := func(n int) bool { return n >= 0 && n < len(p.Ways) }
	if p.Nodes < 1 || p.Nodes > 4 {
		return 1, 0
	}
	if p.Secret < 0 || p.Secret > 4294967295 {
		return 2, 0
	}
	if p.Fuel < 1 || p.Fuel > 16 {
		return 3, 0
	}
	if len(p.Cells) < 1 || len(p.Cells) > 8 {
		return 4, 0
	}
	for k, c := range p.Cells {
		if !node(c.Node) || c.Label.Level < 0 || c.Label.Level > 3 || c.Label.Marks < 0 || c.Label.Marks > 15 || !plainCodeOk(c.Code) {
			return 5, k
		}
	}
	if len(p.Ways) > 10 {
		return 6, 0
	}
	for k, w := range p.Ways {
		if !cell(w.From) || !cell(w.To) || w.From == w.To || w.Depth < 1 || w.Depth > 4 || len(w.Guard) > 4 ||
			slices.ContainsFunc(w.Guard, func(r impl.GrdRule) bool { return !plainRuleOk(r) }) || !w.Guarded && len(w.Guard) != 0 {
			return 7, k
		}
	}
	for k, w := range p.Ways {
		if !w.Guarded && !mayFlow(p.Cells[w.From].Label, p.Cells[w.To].Label) {
			return 8, k
		}
	}
	if len(p.Slots) < 1 || len(p.Slots) > 12 {
		return 9, 0
	}
	for k, s := range p.Slots {
		if !node(s.Node) || s.Way != -1 && !way(s.Way) || s.Way != -1 && p.Cells[p.Ways[s.Way].From].Node != s.Node {
			return 10, k
		}
	}
	return plainSlotsAndTurns(p)
}

// plainSlotsAndTurns has the codes from 11 on.
func plainSlotsAndTurns(p impl.PlnPlan) (int, int) {
	hellos, slots, turns := map[int]int{}, map[int]int{}, map[int]int{}
	for _, s := range p.Slots {
		if s.Way == -1 {
			hellos[s.Node]++
		} else {
			slots[s.Way]++
		}
	}
	for k := range p.Nodes {
		if hellos[k] == 0 {
			return 11, k
		}
	}
	for k := range p.Ways {
		if slots[k] == 0 {
			return 12, k
		}
	}
	if len(p.Turns) != p.Nodes {
		return 13, 0
	}
	for k, list := range p.Turns {
		if len(list) != len(p.Slots) {
			return 13, k
		}
		for _, c := range list {
			if c < -1 || c >= len(p.Cells) || c >= 0 && p.Cells[c].Node != k {
				return 13, k
			}
			turns[c]++
		}
	}
	for k := range p.Cells {
		if turns[k] == 0 {
			return 14, k
		}
	}
	for k, c := range p.Cells {
		for _, o := range c.Code {
			if o.Op == 9 && (o.A >= len(p.Ways) || p.Ways[o.A].From != k) || o.Op == 10 && (o.A >= len(p.Ways) || p.Ways[o.A].To != k) {
				return 15, k
			}
		}
	}
	return 0, 0
}

// checkPlan asks for a code and a place, and for PlnOk beside them.
func checkPlan(t *testing.T, name string, p impl.PlnPlan, code int, at int) {
	t.Helper()
	if gotCode, gotAt := impl.PlnCheck(p); gotCode != code || gotAt != at {
		t.Errorf("%s: %d at %d, not %d at %d: %v", name, gotCode, gotAt, code, at, p)
	}
	if impl.PlnOk(p) != (code == 0) {
		t.Errorf("%s: ok is %v, with the code %d", name, impl.PlnOk(p), code)
	}
}

// drawnOrders are those that programs are drawn from.
var drawnOrders = okOrders()

// drawProgram is a program that is ok and keeps to its cell's ways.
func drawProgram(d *draw, ways []impl.PlnWay, cell int) []impl.VmOrder {
	code := make([]impl.VmOrder, []int{0, 1, 24, d.below(25)}[d.below(4)])
	for k := range code {
		o := drawnOrders[d.below(len(drawnOrders))]
		if o.Op == 8 {
			o.A = d.below(len(code) + 1)
		}
		if d.below(3) == 0 {
			o = impl.VmOrder{Op: 9 + d.below(2), B: d.below(4), C: d.below(4)}
		}
		if o.Op == 9 || o.Op == 10 {
			o.A = -1
			for place, w := range ways {
				if (o.Op == 9 && w.From == cell || o.Op == 10 && w.To == cell) && (o.A < 0 || d.below(2) == 0) {
					o.A = place
				}
			}
			if o.A < 0 {
				o = impl.VmOrder{Op: 13}
			}
		}
		code[k] = o
	}
	return code
}

// drawWays has ways between cells, guarded wherever their labels ask for it.
func drawWays(d *draw, cells []impl.PlnCell, most int) []impl.PlnWay {
	var ways []impl.PlnWay
	if len(cells) < 2 {
		return nil
	}
	for range d.below(most + 1) {
		w := impl.PlnWay{From: d.below(len(cells)), Depth: 1 + d.below(4)}
		w.To = (w.From + 1 + d.below(len(cells)-1)) % len(cells)
		w.Guarded = d.below(3) == 0 || !mayFlow(cells[w.From].Label, cells[w.To].Label)
		if w.Guarded {
			w.Guard = drawGuard(d, 4)
		}
		ways = append(ways, w)
	}
	return ways
}

// drawPlan is a plan that is ok.
func drawPlan(d *draw) impl.PlnPlan {
	nodes, secrets := 1+d.below(4), []int{0, 1, 4294967295, d.below(4294967296)}
	cells := make([]impl.PlnCell, 1+d.below(8))
	for k := range cells {
		cells[k] = impl.PlnCell{Node: d.below(nodes), Label: impl.LblLabel{Level: d.below(4), Marks: d.below(16)}, Again: d.below(2) == 0}
		if d.below(2) == 0 {
			cells[k].Label = impl.LblLabel{Level: 1, Marks: 5}
		}
	}
	ways := drawWays(d, cells, min(10, 12-nodes))
	for k := range cells {
		cells[k].Code = drawProgram(d, ways, k)
	}
	p := layPlan(nodes, cells, ways, d.below(13-nodes-len(ways)))
	p.Secret, p.Fuel = secrets[d.below(4)], 1+d.below(16)
	for k := range p.Slots {
		other := d.below(k + 1)
		p.Slots[k], p.Slots[other] = p.Slots[other], p.Slots[k]
	}
	for node, turns := range p.Turns {
		own := cellsOf(cells, node)
		for k := range turns {
			if turns[k] < 0 && len(own) > 0 && d.below(2) == 0 {
				turns[k] = own[d.below(len(own))]
			}
			other := d.below(k + 1)
			turns[k], turns[other] = turns[other], turns[k]
		}
	}
	return p
}

// planNumbers has all whole numbers of a plan, in groups.
func planNumbers(p *impl.PlnPlan) [][]*int {
	var cells, orders, ways, rules, slots, turns []*int
	for k := range p.Cells {
		c := &p.Cells[k]
		cells = append(cells, &c.Node, &c.Label.Level, &c.Label.Marks)
		for n := range c.Code {
			orders = append(orders, &c.Code[n].Op, &c.Code[n].A, &c.Code[n].B, &c.Code[n].C)
		}
	}
	for k := range p.Ways {
		w := &p.Ways[k]
		ways = append(ways, &w.From, &w.To, &w.Depth)
		for n := range w.Guard {
			rules = append(rules, ruleFields(&w.Guard[n])...)
		}
	}
	for k := range p.Slots {
		slots = append(slots, &p.Slots[k].Node, &p.Slots[k].Way)
	}
	for _, list := range p.Turns {
		for k := range list {
			turns = append(turns, &list[k])
		}
	}
	return [][]*int{{&p.Nodes}, {&p.Secret}, {&p.Fuel}, cells, orders, ways, rules, slots, turns}
}

// resized is a list with one less, one twice, two that have changed places, or many more.
func resized[T any](d *draw, list []T) []T {
	if len(list) == 0 {
		return list
	}
	at, other := d.below(len(list)), d.below(len(list))
	switch d.below(5) {
	case 0:
		return slices.Delete(slices.Clone(list), at, at+1)
	case 1:
		return slices.Insert(slices.Clone(list), other, list[at])
	case 2:
		out := slices.Clone(list)
		out[at], out[other] = out[other], out[at]
		return out
	case 3:
		return slices.Repeat(list, 2)
	}
	return list[:0:0]
}

// bendLists changes how many there are of something in a plan.
func bendLists(d *draw, p *impl.PlnPlan) {
	cell, way, node := d.below(len(p.Cells)+1), d.below(len(p.Ways)+1), d.below(len(p.Turns)+1)
	switch kind := d.below(8); {
	case kind == 0:
		p.Cells = resized(d, p.Cells)
	case kind == 1:
		p.Ways = resized(d, p.Ways)
	case kind == 2:
		p.Slots = resized(d, p.Slots)
	case kind == 3:
		p.Turns = resized(d, p.Turns)
	case kind == 4 && cell < len(p.Cells):
		p.Cells[cell].Code = resized(d, p.Cells[cell].Code)
	case kind == 5 && way < len(p.Ways):
		p.Ways[way].Guard = resized(d, p.Ways[way].Guard)
	case kind == 6 && way < len(p.Ways):
		p.Ways[way].Guarded = !p.Ways[way].Guarded
	case kind == 7 && node < len(p.Turns):
		p.Turns[node] = resized(d, p.Turns[node])
	}
}

// bend changes something in a plan.
func bend(d *draw, p *impl.PlnPlan) {
	if d.below(3) == 0 {
		bendLists(d, p)
		return
	}
	groups := planNumbers(p)
	group := groups[d.below(len(groups))]
	if len(group) == 0 {
		return
	}
	n := group[d.below(len(group))]
	near := append([]int{-2, -1, 0, 1, 2, 3, 4, 5, 8, 9, 10, 15, 16, 17, 24, 25, 4294967295, 4294967296, *n - 1, *n + 1}, farInts...)
	*n = near[d.below(len(near))]
}

func TestPlanValues(t *testing.T) {
	got := []int{impl.PlnMaxNodes, impl.PlnMaxCells, impl.PlnMaxWays, impl.PlnMaxSlots, impl.PlnMaxFuel, impl.PlnNone}
	if !slices.Equal(got, []int{4, 8, 10, 12, 16, -1}) {
		t.Error(got)
	}
}

func TestPlanNothing(t *testing.T) {
	checkPlan(t, "nothing", impl.PlnPlan{}, 1, 0)
	checkPlan(t, "the base", basePlan(), 0, 0)
	checkPlan(t, "the least", impl.PlnPlan{Nodes: 1, Fuel: 1, Cells: []impl.PlnCell{{}}, Slots: slotsOf([2]int{0, -1}), Turns: [][]int{{0}}}, 0, 0)
}

func TestPlanNumbersBounds(t *testing.T) {
	for _, n := range append([]int{-2, -1, 0, 1, 2, 3, 4, 5, 6, 16, 17, 4294967295, 4294967296, 4294967297}, farInts...) {
		p, code := basePlan(), 0
		if p.Nodes = n; n < 1 || n > 4 {
			checkPlan(t, "nodes", p, 1, 0)
		}
		p = basePlan()
		if p.Secret = n; n < 0 || n > 4294967295 {
			code = 2
		}
		checkPlan(t, "secret", p, code, 0)
		p, code = basePlan(), 0
		if p.Fuel = n; n < 1 || n > 16 {
			code = 3
		}
		checkPlan(t, "fuel", p, code, 0)
	}
	for nodes := 1; nodes <= 5; nodes++ {
		code := 0
		if nodes == 5 {
			code = 1
		}
		checkPlan(t, "laid nodes", layPlan(nodes, spread(5, nodes), nil, 0), code, 0)
	}
}

func TestPlanCountBounds(t *testing.T) {
	pairs := [][2]int{{0, 1}, {1, 2}, {2, 0}, {1, 0}, {2, 1}, {0, 2}, {0, 1}, {1, 2}, {2, 0}, {1, 0}, {2, 1}, {0, 2}}
	for n := 0; n <= 12; n++ {
		cells, ways, slots := 0, 0, 0
		if n < 1 || n > 8 {
			cells = 4
		}
		checkPlan(t, "cells", layPlan(2, spread(n, 2), nil, 0), cells, 0)
		if n > 10 {
			ways = 6
		}
		checkPlan(t, "ways", layPlan(1, spread(3, 1), joined(pairs[:n]...), 0), ways, 0)
		if 2+n > 12 {
			slots = 9
		}
		checkPlan(t, "slots", layPlan(2, spread(1, 2), nil, n), slots, 0)
	}
	p := basePlan()
	p.Slots = nil
	checkPlan(t, "no slots", p, 9, 0)
	p.Slots = []impl.PlnSlot{}
	checkPlan(t, "no slots", p, 9, 0)
	p = layPlan(2, spread(3, 2), joined(pairs[:10]...), 0)
	if len(p.Slots) != 12 {
		t.Fatal(len(p.Slots))
	}
	checkPlan(t, "ten ways on two nodes", p, 0, 0)
	checkPlan(t, "eleven ways, and too many slots", layPlan(2, spread(3, 2), joined(pairs[:11]...), 0), 6, 0)
}

// mostPlan has as much as may be: of cells, orders, ways, rules and slots, and then 2 nodes.
func mostPlan() impl.PlnPlan {
	cells := spread(8, 2)
	var pairs [][2]int
	for k := range 10 {
		pairs = append(pairs, [2]int{k % 8, (k + 3) % 8})
	}
	ways := joined(pairs...)
	for k := range ways {
		ways[k].Depth, ways[k].Guarded, ways[k].Guard = 4, true, slices.Repeat(okRules[2:3], 4)
	}
	for k := range cells {
		cells[k].Again, cells[k].Label = true, impl.LblLabel{Level: 3, Marks: 15}
		for n := range 24 {
			cells[k].Code = append(cells[k].Code, impl.VmOrder{Op: 9, A: k, B: n % 4, C: 3})
		}
	}
	p := layPlan(2, cells, ways, 0)
	p.Secret, p.Fuel = 4294967295, 16
	return p
}

func TestPlanMost(t *testing.T) {
	checkPlan(t, "the most", mostPlan(), 0, 0)
	cells := spread(8, 4)
	ways := joined([2]int{0, 1}, [2]int{1, 2}, [2]int{2, 3}, [2]int{3, 4}, [2]int{4, 5}, [2]int{5, 6}, [2]int{6, 7}, [2]int{7, 0})
	checkPlan(t, "eight ways on four nodes", layPlan(4, cells, ways, 0), 0, 0)
}

func TestPlanCells(t *testing.T) {
	for at := range 4 {
		for _, n := range append([]int{-2, -1, 3, 4, 255}, farInts...) {
			p := basePlan()
			p.Cells[at].Node = n
			checkPlan(t, "a cell's node", p, 5, at)
		}
		for _, label := range wrongLabels() {
			p := basePlan()
			p.Cells[at].Label = label
			checkPlan(t, "a label", p, 5, at)
		}
		for _, code := range [][]impl.VmOrder{yields(25), {{Op: 0}}, {{Op: 15}}, {{Op: 8, A: 2}}, {{Op: 13}, {Op: 1, A: 4}}, {{Op: 9, A: 10}}, {{Op: 10, A: -1}}} {
			p := basePlan()
			p.Cells[at].Code = code
			checkPlan(t, "a program", p, 5, at)
		}
		for _, code := range [][]impl.VmOrder{nil, {}, yields(24), {{Op: 8, A: 1}}} {
			p := basePlan()
			p.Cells[at].Code = code
			checkPlan(t, "a program", p, 0, 0)
		}
	}
}

func TestPlanWays(t *testing.T) {
	for at := range 4 {
		for _, n := range append([]int{-2, -1, 4, 5}, farInts...) {
			p := basePlan()
			p.Ways[at].From = n
			checkPlan(t, "from", p, 7, at)
			p = basePlan()
			p.Ways[at].To = n
			checkPlan(t, "to", p, 7, at)
			p = basePlan()
			p.Ways[at].From, p.Ways[at].To = n, n
			checkPlan(t, "both", p, 7, at)
		}
		for cell := range 4 {
			p := basePlan()
			p.Ways[at].From, p.Ways[at].To = cell, cell
			checkPlan(t, "the same", p, 7, at)
		}
		for _, n := range append([]int{-1, 0, 1, 2, 3, 4, 5, 6}, farInts...) {
			p := basePlan()
			if p.Ways[at].Depth = n; n < 1 || n > 4 {
				checkPlan(t, "depth", p, 7, at)
			} else {
				checkPlan(t, "depth", p, 0, 0)
			}
		}
	}
}

func TestPlanGuards(t *testing.T) {
	for at := range 4 {
		for n := 0; n <= 6; n++ {
			for _, guarded := range []bool{true, false} {
				p := basePlan()
				p.Cells[0].Label, p.Cells[1].Label, p.Cells[2].Label, p.Cells[3].Label = okLabels()[9], okLabels()[9], okLabels()[9], okLabels()[9]
				p.Ways[at].Guarded, p.Ways[at].Guard = guarded, slices.Repeat(okRules[:1], n)
				if n > 4 || !guarded && n > 0 {
					checkPlan(t, "rules", p, 7, at)
				} else {
					checkPlan(t, "rules", p, 0, 0)
				}
			}
		}
		for _, r := range wrongRules() {
			p := basePlan()
			p.Ways[at].Guarded, p.Ways[at].Guard = true, []impl.GrdRule{okRules[0], r}
			checkPlan(t, "a rule", p, 7, at)
		}
	}
}

func TestPlanLeaks(t *testing.T) {
	for _, a := range okLabels() {
		for _, b := range okLabels() {
			cells := spread(2, 2)
			cells[0].Label, cells[1].Label = a, b
			p, code := layPlan(2, cells, joined([2]int{0, 1}), 0), 0
			if !mayFlow(a, b) {
				code = 8
			}
			checkPlan(t, "a way", p, code, 0)
			p.Ways[0].Guarded = true
			checkPlan(t, "a guarded way", p, 0, 0)
		}
	}
}

func TestPlanSlots(t *testing.T) {
	for at := range 7 {
		for _, n := range append([]int{-2, -1, 3, 4}, farInts...) {
			p := basePlan()
			p.Slots[at].Node = n
			checkPlan(t, "a slot's node", p, 10, at)
		}
		for _, n := range append([]int{-2, -3, 4, 5}, farInts...) {
			p := basePlan()
			p.Slots[at].Way = n
			checkPlan(t, "a slot's way", p, 10, at)
		}
		// A way that ends on the node is none of its slots either.
		for way := range 4 {
			p := basePlan()
			if p.Slots[at].Way = way; p.Cells[p.Ways[way].From].Node != p.Slots[at].Node {
				checkPlan(t, "another node's way", p, 10, at)
			}
		}
	}
	p := basePlan()
	p.Slots = append(p.Slots, p.Slots...)[:12]
	for node := range p.Turns {
		p.Turns[node] = append(p.Turns[node], p.Turns[node]...)[:12]
	}
	checkPlan(t, "slots that come twice", p, 0, 0)
}

func TestPlanTurns(t *testing.T) {
	for n := range 7 {
		p := basePlan()
		p.Turns = slices.Repeat(p.Turns, 2)[:n]
		if n == 3 {
			checkPlan(t, "turns", p, 0, 0)
		} else {
			checkPlan(t, "turns", p, 13, 0)
		}
	}
	for node := range 3 {
		for _, size := range []int{0, 1, 6, 8, 12, 14} {
			p := basePlan()
			p.Turns[node] = slices.Repeat(p.Turns[node], 2)[:size]
			checkPlan(t, "a node's turns", p, 13, node)
		}
		for slot := range 7 {
			for _, n := range append([]int{-3, -2, 0, 1, 2, 3, 4, 5}, farInts...) {
				p := basePlan()
				if p.Turns[node][slot] = n; n < 0 || n > 3 || p.Cells[n].Node != node {
					checkPlan(t, "a turn", p, 13, node)
				}
			}
		}
	}
}

func TestPlanPrograms(t *testing.T) {
	base := basePlan()
	for at := range 4 {
		for way := range 10 {
			for _, op := range []int{9, 10} {
				for _, place := range []int{0, 1} {
					p := basePlan()
					p.Cells[at].Code = slices.Insert(yields(1), place, impl.VmOrder{Op: op, A: way})
					own := way < 4 && (op == 9 && base.Ways[way].From == at || op == 10 && base.Ways[way].To == at)
					if own {
						checkPlan(t, "a program", p, 0, 0)
					} else {
						checkPlan(t, "a program that strays", p, 15, at)
					}
				}
			}
		}
		// What is no way does not count, whatever number it has.
		for _, o := range []impl.VmOrder{{Op: 1, A: 3, B: 255}, {Op: 7, A: 3}, {Op: 11, A: 3, B: 3}, {Op: 12, A: 3}} {
			p := layPlan(1, spread(1, 1), nil, 0)
			p.Cells[0].Code = []impl.VmOrder{o}
			checkPlan(t, "no way", p, 0, 0)
		}
	}
}

// breaks has one way for each code to make it hold in the base plan, and the
// place; they change different things, so that any of them go together.
func breaks() []func(p *impl.PlnPlan) int {
	return []func(p *impl.PlnPlan) int{
		func(p *impl.PlnPlan) int { p.Nodes = 5; return 0 },
		func(p *impl.PlnPlan) int { p.Secret = -1; return 0 },
		func(p *impl.PlnPlan) int { p.Fuel = 17; return 0 },
		func(p *impl.PlnPlan) int { p.Cells = slices.Repeat(p.Cells, 3)[:9]; return 0 },
		func(p *impl.PlnPlan) int { p.Cells[3].Label.Level = 4; return 3 },
		func(p *impl.PlnPlan) int { p.Ways = slices.Repeat(p.Ways, 3)[:11]; return 0 },
		func(p *impl.PlnPlan) int { p.Ways[2].Depth = 5; return 2 },
		func(p *impl.PlnPlan) int { p.Cells[2].Label.Level = 0; return 1 },
		func(p *impl.PlnPlan) int { p.Slots = slices.Repeat(p.Slots, 2)[:13]; return 0 },
		func(p *impl.PlnPlan) int { p.Slots[4].Way = 2; p.Slots[4].Node = 2; return 4 },
		func(p *impl.PlnPlan) int { p.Slots[2].Way = 3; return 2 },
		func(p *impl.PlnPlan) int { p.Slots[3].Way = -1; return 0 },
		func(p *impl.PlnPlan) int { p.Turns[1] = p.Turns[1][:6]; return 1 },
		func(p *impl.PlnPlan) int { p.Turns[2][0] = -1; return 3 },
		func(p *impl.PlnPlan) int { p.Cells[0].Code[0].A = 1; return 0 },
	}
}

func TestPlanFirstCode(t *testing.T) {
	list := breaks()
	for picked := range 1 << len(list) {
		p, code, at := basePlan(), 0, 0
		for k, do := range list {
			if picked&(1<<k) == 0 {
				continue
			}
			place := do(&p)
			if code == 0 {
				code, at = k+1, place
			}
		}
		checkPlan(t, "broken", p, code, at)
		if t.Failed() {
			t.Fatalf("picked %015b", picked)
		}
	}
}

func TestPlanFirstPlace(t *testing.T) {
	for _, c := range []struct {
		code   int
		places int
		do     func(p *impl.PlnPlan, at int)
	}{
		{5, 4, func(p *impl.PlnPlan, at int) { p.Cells[at].Node = 3 }},
		{5, 4, func(p *impl.PlnPlan, at int) { p.Cells[at].Label.Marks = 16 }},
		{5, 4, func(p *impl.PlnPlan, at int) { p.Cells[at].Code = yields(25) }},
		{7, 4, func(p *impl.PlnPlan, at int) { p.Ways[at].Depth = 0 }},
		{7, 4, func(p *impl.PlnPlan, at int) { p.Ways[at].To = p.Ways[at].From }},
		{7, 4, func(p *impl.PlnPlan, at int) { p.Ways[at].Guarded, p.Ways[at].Guard = false, okRules[:1] }},
		{10, 7, func(p *impl.PlnPlan, at int) { p.Slots[at].Way = 4 }},
		{10, 7, func(p *impl.PlnPlan, at int) { p.Slots[at].Node = 3 }},
		{11, 3, func(p *impl.PlnPlan, at int) { p.Slots[at].Way = []int{0, 1, 3}[at] }},
		{12, 4, func(p *impl.PlnPlan, at int) { p.Slots[3+at].Way = -1 }},
		{13, 3, func(p *impl.PlnPlan, at int) { p.Turns[at] = append(p.Turns[at], -1) }},
		{13, 3, func(p *impl.PlnPlan, at int) { p.Turns[at][at] = -2 }},
		{15, 4, func(p *impl.PlnPlan, at int) { p.Cells[at].Code[0] = impl.VmOrder{Op: 9, A: 4} }},
	} {
		for picked := 1; picked < 1<<c.places; picked++ {
			p, first := basePlan(), -1
			for at := range c.places {
				if picked&(1<<at) != 0 {
					c.do(&p, at)
					if first < 0 {
						first = at
					}
				}
			}
			checkPlan(t, "places", p, c.code, first)
		}
	}
}

func TestPlanFirstLeakAndTurn(t *testing.T) {
	for picked := 1; picked < 1<<4; picked++ {
		cells := spread(5, 2)
		for k := range cells {
			cells[k].Label.Level = max(0, 3-k)
		}
		ways := joined([2]int{0, 1}, [2]int{1, 2}, [2]int{2, 3}, [2]int{0, 3})
		p, first := layPlan(2, cells, ways, 0), -1
		quiet := layPlan(2, spread(4, 1), nil, 0)
		for at := range 4 {
			ways[at].Guarded = picked&(1<<at) == 0
			if !ways[at].Guarded {
				quiet.Turns[0][slices.Index(quiet.Turns[0], at)] = -1
			}
			if !ways[at].Guarded && first < 0 {
				first = at
			}
		}
		checkPlan(t, "leaks", p, 8, first)
		checkPlan(t, "cells without turns", quiet, 14, first)
	}
}

func TestPlanBent(t *testing.T) {
	d := &draw{x: 9}
	told := [16]int{}
	for range 60000 {
		p := drawPlan(d)
		if code, at := impl.PlnCheck(p); code != 0 || at != 0 || !impl.PlnOk(p) {
			t.Fatal("a plan that is ok:", code, at, p)
		}
		p = copyPlan(p)
		for range 1 + d.below(3) {
			bend(d, &p)
		}
		code, at := plainPlan(p)
		checkPlan(t, "bent", p, code, at)
		if t.Failed() {
			return
		}
		told[code]++
	}
	for code, many := range told {
		if many < 50 {
			t.Error("too few plans with the code", code, told)
		}
	}
}

// over has of each two cells whether ways that are picked lead from the first
// to the second one, over however many cells; each leads to itself.
func over(p impl.PlnPlan, pick func(w impl.PlnWay) bool) [][]bool {
	leads := make([][]bool, len(p.Cells))
	for k := range leads {
		leads[k] = make([]bool, len(p.Cells))
		leads[k][k] = true
	}
	for _, w := range p.Ways {
		leads[w.From][w.To] = leads[w.From][w.To] || pick(w)
	}
	for mid := range leads {
		for a := range leads {
			for b := range leads {
				leads[a][b] = leads[a][b] || leads[a][mid] && leads[mid][b]
			}
		}
	}
	return leads
}

func TestP62NothingComesWhereItMayNot(t *testing.T) {
	d := &draw{x: 62}
	far := 0
	for range 30000 {
		p := copyPlan(drawPlan(d))
		for range d.below(3) {
			bend(d, &p)
		}
		for k := range p.Ways {
			if d.below(8) == 0 {
				p.Ways[k].Guarded, p.Ways[k].Guard = false, nil
			}
		}
		if !impl.PlnOk(p) {
			continue
		}
		for a, list := range over(p, func(w impl.PlnWay) bool { return !w.Guarded }) {
			for b, leads := range list {
				if leads && !impl.LblFlows(p.Cells[a].Label, p.Cells[b].Label) {
					t.Fatalf("from %d to %d something comes that may not: %v", a, b, p)
				}
				if leads && !impl.PlnEdge(p, a, b) {
					far++
				}
			}
		}
	}
	if far < 1000 {
		t.Error("too few that lead over several cells:", far)
	}
}

func TestP62OverSeveralCells(t *testing.T) {
	// Down to a label that may not have it: at each place of a chain just the way that leads down is told.
	for low := 1; low < 8; low++ {
		cells := spread(8, 2)
		var pairs [][2]int
		for k := range cells {
			cells[k].Label = impl.LblLabel{Level: 2, Marks: 6}
			if k >= low {
				cells[k].Label.Marks = 2
			}
			if k > 0 {
				pairs = append(pairs, [2]int{k - 1, k})
			}
		}
		p := layPlan(2, cells, joined(pairs...), 0)
		checkPlan(t, "a chain", p, 8, low-1)
		p.Ways[low-1].Guarded = true
		checkPlan(t, "a guarded chain", p, 0, 0)
	}
}

// checkReach holds PlnReach of each cell against the ways.
func checkReach(t *testing.T, p impl.PlnPlan) {
	t.Helper()
	leads := over(p, func(impl.PlnWay) bool { return true })
	for cell := range p.Cells {
		reach := impl.PlnReach(p, cell)
		if len(reach) != len(p.Cells) {
			t.Fatal(p, cell, reach)
		}
		for from := range reach {
			onward := from == cell
			for mid := range reach {
				onward = onward || impl.PlnEdge(p, from, mid) && reach[mid]
			}
			if reach[from] != onward || reach[from] != leads[from][cell] {
				t.Fatalf("from %d to %d: %v: %v", from, cell, reach, p)
			}
		}
	}
}

func TestP63Reach(t *testing.T) {
	d := &draw{x: 63}
	for range 6000 {
		checkReach(t, drawPlan(d))
	}
	checkReach(t, basePlan())
	checkReach(t, mostPlan())
}

func TestP63Shapes(t *testing.T) {
	forth, back, ring := [][2]int{}, [][2]int{}, [][2]int{{7, 0}}
	for k := 1; k < 8; k++ {
		forth = append(forth, [2]int{k - 1, k})
		back = append(back, [2]int{8 - k, 7 - k})
		ring = append(ring, [2]int{k - 1, k})
	}
	for _, c := range []struct {
		pairs [][2]int
		cell  int
		want  []int
	}{
		{nil, 3, []int{3}},
		{forth, 7, []int{0, 1, 2, 3, 4, 5, 6, 7}},
		{forth, 3, []int{0, 1, 2, 3}},
		{forth, 0, []int{0}},
		{back, 0, []int{0, 1, 2, 3, 4, 5, 6, 7}},
		{back, 7, []int{7}},
		{back, 5, []int{5, 6, 7}},
		{ring, 0, []int{0, 1, 2, 3, 4, 5, 6, 7}},
		{ring, 5, []int{0, 1, 2, 3, 4, 5, 6, 7}},
		{[][2]int{{0, 1}, {1, 0}, {2, 3}, {3, 2}, {3, 4}}, 4, []int{2, 3, 4}},
		{[][2]int{{0, 1}, {1, 0}, {2, 3}, {3, 2}, {3, 4}}, 0, []int{0, 1}},
		{[][2]int{{0, 7}, {0, 7}, {1, 0}, {1, 6}}, 7, []int{0, 1, 7}},
	} {
		for nodes := 1; nodes <= 4; nodes++ {
			p := layPlan(nodes, spread(8, nodes), joined(c.pairs...), 0)
			// Ways lead on though they are guarded, and let nothing through.
			for k := range p.Ways {
				p.Ways[k].Guarded = k%2 == 0
			}
			reach := impl.PlnReach(p, c.cell)
			for k := range 8 {
				if len(reach) != 8 || reach[k] != slices.Contains(c.want, k) {
					t.Fatal(c.pairs, c.cell, reach)
				}
			}
			checkReach(t, p)
		}
	}
}

func TestPlanEdge(t *testing.T) {
	p := basePlan()
	for from := -2; from <= 5; from++ {
		for to := -2; to <= 5; to++ {
			want := slices.ContainsFunc(p.Ways, func(w impl.PlnWay) bool { return w.From == from && w.To == to })
			if impl.PlnEdge(p, from, to) != want {
				t.Error(from, to, !want)
			}
		}
	}
}

func TestP64TurnsAndSlots(t *testing.T) {
	d := &draw{x: 64}
	fine := 0
	for range 20000 {
		p := copyPlan(drawPlan(d))
		for range d.below(2) {
			bend(d, &p)
		}
		if !impl.PlnOk(p) {
			continue
		}
		fine++
		turns := make([]int, len(p.Cells))
		for node, list := range p.Turns {
			for _, cell := range list {
				if cell != impl.PlnNone && p.Cells[cell].Node != node {
					t.Fatal("a turn of another node's cell:", node, p)
				}
				if cell != impl.PlnNone {
					turns[cell]++
				}
			}
		}
		if slices.Contains(turns, 0) {
			t.Fatal("a cell without a turn:", p)
		}
		for k, w := range p.Ways {
			if !slices.Contains(p.Slots, impl.PlnSlot{Node: p.Cells[w.From].Node, Way: k}) {
				t.Fatal("a way without a slot:", k, p)
			}
			if impl.PlnLocal(p, k) != (p.Cells[w.From].Node == p.Cells[w.To].Node) {
				t.Fatal("local:", k, p)
			}
		}
		for _, k := range append([]int{-2, -1, len(p.Ways), len(p.Ways) + 1}, farInts...) {
			if impl.PlnLocal(p, k) {
				t.Fatal("a way that there isn't is local:", k, p)
			}
		}
	}
	if fine < 5000 {
		t.Error("too few plans that are ok:", fine)
	}
}

func TestPlanNothingOfWrongPlans(t *testing.T) {
	list := breaks()
	for k := range list {
		p := basePlan()
		list[k](&p)
		for at := -1; at <= 4; at++ {
			if impl.PlnLocal(p, at) || len(impl.PlnReach(p, at)) != 0 {
				t.Error("the code", k+1, at)
			}
			for to := range 4 {
				if impl.PlnEdge(p, at, to) {
					t.Error("the code", k+1, at, to)
				}
			}
		}
	}
	for _, n := range append([]int{-2, -1, 4, 5}, farInts...) {
		p := basePlan()
		if len(impl.PlnReach(p, n)) != 0 || impl.PlnEdge(p, n, 1) || impl.PlnEdge(p, 0, n) || impl.PlnLocal(p, n) {
			t.Error("no such cell or way:", n)
		}
	}
	if impl.PlnLocal(impl.PlnPlan{}, 0) || impl.PlnEdge(impl.PlnPlan{}, 0, 1) || len(impl.PlnReach(impl.PlnPlan{}, 0)) != 0 {
		t.Error("of nothing there is something")
	}
}

// roomy is a list with marked room ahead of it and behind it, all of which it adds to.
func roomy[T any](list []T, mark T, all *[]any) []T {
	out := slices.Repeat([]T{mark}, len(list)+8)
	copy(out[4:], list)
	*all = append(*all, out)
	return out[4 : 4+len(list)]
}

// roomyPlan is a copy of a plan, and all memory that its lists lie in.
func roomyPlan(p impl.PlnPlan) (impl.PlnPlan, []any) {
	var all []any
	p = copyPlan(p)
	for k := range p.Cells {
		p.Cells[k].Code = roomy(p.Cells[k].Code, impl.VmOrder{Op: -7}, &all)
	}
	for k := range p.Ways {
		p.Ways[k].Guard = roomy(p.Ways[k].Guard, impl.GrdRule{Min: -7}, &all)
	}
	for k := range p.Turns {
		p.Turns[k] = roomy(p.Turns[k], -7, &all)
	}
	p.Cells = roomy(p.Cells, impl.PlnCell{Node: -7}, &all)
	p.Ways = roomy(p.Ways, impl.PlnWay{From: -7}, &all)
	p.Slots = roomy(p.Slots, impl.PlnSlot{Node: -7}, &all)
	p.Turns = roomy(p.Turns, []int{-7}, &all)
	return p, all
}

// checkPlanUntouched calls with a plan of which nothing may be written into.
func checkPlanUntouched(t *testing.T, p impl.PlnPlan, call func(p impl.PlnPlan)) {
	t.Helper()
	given, all := roomyPlan(p)
	_, was := roomyPlan(p)
	call(given)
	if !reflect.DeepEqual(all, was) {
		t.Fatal("the plan was written into:", p)
	}
}

func TestPlanMemory(t *testing.T) {
	d := &draw{x: 65}
	for range 3000 {
		p := copyPlan(drawPlan(d))
		for range d.below(2) {
			bend(d, &p)
		}
		checkPlanUntouched(t, p, func(p impl.PlnPlan) {
			impl.PlnCheck(p)
			impl.PlnOk(p)
			impl.PlnLocal(p, 0)
			impl.PlnEdge(p, 0, 1)
			reach := impl.PlnReach(p, 0)
			was := slices.Clone(reach)
			for k := range reach[:cap(reach)] {
				reach[:cap(reach)][k] = !reach[:cap(reach)][k]
			}
			if !slices.Equal(impl.PlnReach(p, 0), was) {
				t.Fatal("an answer is kept:", p)
			}
		})
	}
}
