package tests

import (
	"bytes"
	"reflect"
	"runtime"
	"slices"
	"sync"
	"testing"

	"loop.example/casemate/impl"
)

func sameNode(a impl.NodNode, b impl.NodNode) bool {
	return a.Up == b.Up && a.Boot == b.Boot && a.Hello == b.Hello && slices.EqualFunc(a.Cells, b.Cells, sameCell) &&
		slices.EqualFunc(a.Out, b.Out, sameBox) && slices.EqualFunc(a.In, b.In, sameBox) &&
		slices.Equal(a.Outs, b.Outs) && slices.Equal(a.Ins, b.Ins) && sameBook(a.Heard, b.Heard)
}

func copyBoxes(list []impl.BoxBox) []impl.BoxBox {
	var out []impl.BoxBox
	for _, b := range list {
		out = append(out, impl.BoxBox{Depth: b.Depth, Items: copyLists(b.Items)})
	}
	return out
}

func copyNode(n impl.NodNode) impl.NodNode {
	n.Cells = slices.Clone(n.Cells)
	for k := range n.Cells {
		n.Cells[k] = copyCell(n.Cells[k])
	}
	n.Out, n.In = copyBoxes(n.Out), copyBoxes(n.In)
	n.Outs, n.Ins = slices.Clone(n.Outs), slices.Clone(n.Ins)
	n.Heard = copyBook(n.Heard)
	return n
}

func copySights(list []impl.CelSight) []impl.CelSight {
	list = slices.Clone(list)
	for k := range list {
		list[k].Bytes = bytes.Clone(list[k].Bytes)
	}
	return list
}

// plainBegin is a node at its beginning that is not up, straight along the document.
func plainBegin(p impl.PlnPlan, boot int) impl.NodNode {
	n := impl.NodNode{Boot: boot, Heard: impl.HrdBook{Boots: make([]int, p.Nodes), Seqs: make([]int, p.Nodes)}}
	for range p.Cells {
		n.Cells = append(n.Cells, newCell())
	}
	for _, w := range p.Ways {
		n.Out, n.In = append(n.Out, impl.BoxBox{Depth: w.Depth}), append(n.In, impl.BoxBox{Depth: w.Depth})
		n.Outs, n.Ins = append(n.Outs, impl.OutOut{Boot: 1}), append(n.Ins, impl.InIn{})
	}
	return n
}

// plainEnds are the nodes on which a way begins and ends.
func plainEnds(p impl.PlnPlan, way int) (int, int) {
	w := p.Ways[way]
	return p.Cells[w.From].Node, p.Cells[w.To].Node
}

func plainStateOk(s impl.VmState) bool {
	outside := func(n int) bool { return n < 0 || n > 255 }
	return s.Pc >= 0 && s.Pc <= 24 && len(s.Regs) == 4 && len(s.Mem) == 8 && s.Halt >= 0 && s.Halt <= 2 &&
		!slices.ContainsFunc(s.Regs, outside) && !slices.ContainsFunc(s.Mem, outside)
}

// plainBoxesOk says whether boxes are ok, straight along the document; messages may be in those of the ways that are used.
func plainBoxesOk(p impl.PlnPlan, list []impl.BoxBox, used func(way int) bool) bool {
	if len(list) != len(p.Ways) {
		return false
	}
	for k, b := range list {
		if b.Depth != p.Ways[k].Depth || len(b.Items) > b.Depth || len(b.Items) > 0 && !used(k) {
			return false
		}
		for _, m := range b.Items {
			if len(m) > 8 {
				return false
			}
		}
	}
	return true
}

// plainHalvesOk says whether the halves of a node are ok, straight along the document.
func plainHalvesOk(p impl.PlnPlan, n impl.NodNode, at int) bool {
	if len(n.Outs) != len(p.Ways) || len(n.Ins) != len(p.Ways) {
		return false
	}
	for k := range p.Ways {
		from, to := plainEnds(p, k)
		o, i := n.Outs[k], n.Ins[k]
		if n.Up && from == at && to != at {
			if !plainOutOk(o) || o.Boot != n.Boot || o.Peer > n.Heard.Boots[to] {
				return false
			}
		} else if o != (impl.OutOut{Boot: 1}) {
			return false
		}
		if n.Up && from != at && to == at {
			if !plainInOk(i) {
				return false
			}
		} else if i != (impl.InIn{}) {
			return false
		}
	}
	return true
}

// plainNodeOk says whether a node is ok, straight along the document.
func plainNodeOk(p impl.PlnPlan, n impl.NodNode, at int) bool {
	if code, _ := plainPlan(p); code != 0 || at < 0 || at >= p.Nodes {
		return false
	}
	if n.Boot < 0 || n.Boot > 60000 || n.Hello < 0 || n.Hello > 60000 || n.Up && n.Boot == 0 || !n.Up && n.Hello != 0 {
		return false
	}
	if !plainBookOk(n.Heard) || len(n.Heard.Boots) != p.Nodes || n.Heard.Boots[at] != 0 {
		return false
	}
	if !n.Up && !sameBook(n.Heard, plainBegin(p, 0).Heard) || len(n.Cells) != len(p.Cells) {
		return false
	}
	for k, c := range n.Cells {
		if !plainStateOk(c.State) || len(c.In) > 6 || c.State.Pc > len(p.Cells[k].Code) {
			return false
		}
		if (!n.Up || p.Cells[k].Node != at) && !sameCell(c, newCell()) {
			return false
		}
	}
	begins := func(way int) bool { from, _ := plainEnds(p, way); return n.Up && from == at }
	ends := func(way int) bool { _, to := plainEnds(p, way); return n.Up && to == at }
	return plainBoxesOk(p, n.Out, begins) && plainBoxesOk(p, n.In, ends) && plainHalvesOk(p, n, at)
}

func plainRise(p impl.PlnPlan, n impl.NodNode, at int) impl.NodNode {
	if !plainNodeOk(p, n, at) {
		return impl.NodNode{}
	}
	if n.Up || n.Boot == 60000 {
		return n
	}
	after := plainBegin(p, n.Boot+1)
	after.Up = true
	for k := range p.Ways {
		if from, to := plainEnds(p, k); from == at && to != at {
			after.Outs[k].Boot = after.Boot
		}
	}
	return after
}

func plainFall(p impl.PlnPlan, n impl.NodNode, at int) impl.NodNode {
	if !plainNodeOk(p, n, at) {
		return impl.NodNode{}
	}
	return plainBegin(p, n.Boot)
}

func plainNodeInput(p impl.PlnPlan, n impl.NodNode, at int, cell int, v int) impl.NodNode {
	if !plainNodeOk(p, n, at) {
		return impl.NodNode{}
	}
	n = copyNode(n)
	if n.Up && cell >= 0 && cell < len(p.Cells) && p.Cells[cell].Node == at && v >= 0 && v <= 255 && len(n.Cells[cell].In) < 6 {
		n.Cells[cell].In = append(n.Cells[cell].In, byte(v))
	}
	return n
}

// plainAnswer answers what the cell k asks for, and tells what it sees by that; 0, if nothing.
func plainAnswer(n impl.NodNode, k int, a impl.VmAsk) impl.CelSight {
	c, saw, got, yes := &n.Cells[k], impl.CelSight{}, []byte(nil), false
	switch a.Kind {
	case 1:
		box := &n.Out[a.Way]
		saw = impl.CelSight{Kind: 2, Way: a.Way, Bytes: a.Bytes}
		if yes = len(box.Items) < box.Depth; yes {
			saw.Kind = 1
			box.Items = append(box.Items, bytes.Clone(a.Bytes))
		}
	case 2:
		box := &n.In[a.Way]
		saw = impl.CelSight{Kind: 4, Way: a.Way}
		if yes = len(box.Items) > 0; yes {
			got = box.Items[0]
			saw.Kind, saw.Bytes, box.Items = 3, got, box.Items[1:]
		}
	case 3:
		saw.Kind = 6
		if yes = len(c.In) > 0; yes {
			got = []byte{c.In[0]}
			saw.Kind, saw.Bytes, c.In = 5, got, c.In[1:]
		}
	case 4:
		return impl.CelSight{Kind: 7, Bytes: a.Bytes}
	}
	c.State = plainGive(c.State, a, got, yes)
	return saw
}

// plainWindow is a turn, straight along the document.
func plainWindow(p impl.PlnPlan, n impl.NodNode, at int, slot int) (impl.NodNode, []impl.CelSight) {
	if !plainNodeOk(p, n, at) || slot < 0 || slot >= len(p.Slots) {
		return impl.NodNode{}, nil
	}
	n = copyNode(n)
	k := p.Turns[at][slot]
	if !n.Up || k == -1 {
		return n, nil
	}
	var seen []impl.CelSight
	c, plan := &n.Cells[k], p.Cells[k]
	if c.State.Halt == 2 && plan.Again {
		c.State = newCell().State
		seen = append(seen, impl.CelSight{Kind: 10})
	}
	for left := p.Fuel; left > 0 && c.State.Halt == 0; left-- {
		state, a := plainStep(c.State, plan.Code)
		c.State = state
		if saw := plainAnswer(n, k, a); saw.Kind != 0 {
			seen = append(seen, saw)
		}
		if c.State.Halt == 2 {
			seen = append(seen, impl.CelSight{Kind: 8})
		}
		if c.State.Halt == 1 {
			seen = append(seen, impl.CelSight{Kind: 9})
		}
		if a.Kind == 5 {
			break
		}
	}
	return n, seen
}

// drawCell is a cell that is ok, for a program of so many orders; of most the machine runs, from the beginning of the program on.
func drawCell(d *draw, orders int) impl.CelCell {
	c := impl.CelCell{State: drawState(d), In: d.bytes(d.below(7))}
	c.State.Pc = []int{0, 0, d.below(orders + 1), orders}[d.below(4)]
	return c
}

// drawItems are messages for a box: none, as many as fit, or some.
func drawItems(d *draw, depth int) [][]byte {
	var out [][]byte
	for range []int{0, depth, d.below(depth + 1)}[d.below(3)] {
		out = append(out, d.bytes([]int{0, 1, 8, d.below(9)}[d.below(4)]))
	}
	return out
}

// drawHeard is what a node's book may say, 0 of itself.
func drawHeard(d *draw, nodes int, at int) impl.HrdBook {
	b := impl.HrdBook{Boots: make([]int, nodes), Seqs: make([]int, nodes)}
	for k := range nodes {
		if k != at {
			b.Boots[k] = []int{0, 1, 2, 300, 60000}[d.below(5)]
		}
		if b.Boots[k] > 0 {
			b.Seqs[k] = []int{0, 1, 300, 60000}[d.below(4)]
		}
	}
	return b
}

// drawUp is a node that is up, and has whatever it may have.
func drawUp(d *draw, p impl.PlnPlan, at int) impl.NodNode {
	n := plainBegin(p, lives[d.below(len(lives))])
	n.Up, n.Hello, n.Heard = true, []int{0, 1, 60000, d.below(60001)}[d.below(4)], drawHeard(d, p.Nodes, at)
	for k, c := range p.Cells {
		if c.Node == at {
			n.Cells[k] = drawCell(d, len(c.Code))
		}
	}
	ins := okIns()
	for k, w := range p.Ways {
		from, to := plainEnds(p, k)
		if from == at {
			n.Out[k].Items = drawItems(d, w.Depth)
		}
		if to == at {
			n.In[k].Items = drawItems(d, w.Depth)
		}
		if from == at && to != at {
			n.Outs[k] = impl.OutOut{Boot: n.Boot, Peer: []int{0, n.Heard.Boots[to], d.below(n.Heard.Boots[to] + 1)}[d.below(3)], Epoch: d.below(201), Seq: d.below(16)}
		}
		if from != at && to == at {
			n.Ins[k] = ins[d.below(len(ins))]
		}
	}
	return n
}

// drawNode is a node that is ok, up or not.
func drawNode(d *draw, p impl.PlnPlan, at int) impl.NodNode {
	if d.below(6) > 0 {
		return drawUp(d, p, at)
	}
	return plainBegin(p, []int{0, 1, 300, 59999, 60000}[d.below(5)])
}

// nodeNumbers has all whole numbers of a node, in groups.
func nodeNumbers(n *impl.NodNode) [][]*int {
	var machines, boxes, outs, ins, heard []*int
	for k := range n.Cells {
		s := &n.Cells[k].State
		machines = append(machines, &s.Pc, &s.Pc, &s.Halt)
		for r := range s.Regs {
			machines = append(machines, &s.Regs[r])
		}
		for r := range s.Mem {
			machines = append(machines, &s.Mem[r])
		}
	}
	for k := range n.Out {
		boxes = append(boxes, &n.Out[k].Depth)
	}
	for k := range n.In {
		boxes = append(boxes, &n.In[k].Depth)
	}
	for k := range n.Outs {
		outs = append(outs, &n.Outs[k].Boot, &n.Outs[k].Peer, &n.Outs[k].Epoch, &n.Outs[k].Seq)
	}
	for k := range n.Ins {
		ins = append(ins, &n.Ins[k].Boot, &n.Ins[k].Epoch, &n.Ins[k].Seq)
	}
	for k := range n.Heard.Boots {
		heard = append(heard, &n.Heard.Boots[k])
	}
	for k := range n.Heard.Seqs {
		heard = append(heard, &n.Heard.Seqs[k])
	}
	return [][]*int{{&n.Boot}, {&n.Hello}, machines, boxes, outs, ins, heard}
}

// bendNodeLists changes how many there are of something in a node.
func bendNodeLists(d *draw, n *impl.NodNode) {
	cell, way := d.below(len(n.Cells)+1), d.below(min(len(n.Out), len(n.In))+1)
	switch kind := d.below(14); {
	case kind == 0:
		n.Cells = resized(d, n.Cells)
	case kind == 1:
		n.Out = resized(d, n.Out)
	case kind == 2:
		n.In = resized(d, n.In)
	case kind == 3:
		n.Outs = resized(d, n.Outs)
	case kind == 4:
		n.Ins = resized(d, n.Ins)
	case kind == 5:
		n.Heard.Boots = resized(d, n.Heard.Boots)
	case kind == 6:
		n.Heard.Seqs = resized(d, n.Heard.Seqs)
	case kind == 7:
		n.Up = !n.Up
	case kind == 8 && cell < len(n.Cells):
		n.Cells[cell].In = upward(d.below(9))
	case kind == 9 && cell < len(n.Cells):
		n.Cells[cell].State.Regs = resized(d, n.Cells[cell].State.Regs)
	case kind == 10 && cell < len(n.Cells):
		n.Cells[cell].State.Mem = resized(d, n.Cells[cell].State.Mem)
	case kind == 11 && way < len(n.Out):
		n.Out[way].Items = append(n.Out[way].Items, upward(d.below(10)))
	case kind == 12 && way < len(n.In):
		n.In[way].Items = append(n.In[way].Items, upward(d.below(10)))
	}
}

// bendNode changes something in a node.
func bendNode(d *draw, n *impl.NodNode) {
	if d.below(3) == 0 {
		bendNodeLists(d, n)
		return
	}
	groups := nodeNumbers(n)
	group := groups[d.below(len(groups))]
	if len(group) == 0 {
		return
	}
	at := group[d.below(len(group))]
	near := append([]int{-1, 0, 0, 1, 2, 3, 4, 5, 15, 16, 17, 24, 25, 200, 201, 255, 256, 60000, 60001, *at - 1, *at + 1, *at + 1}, farInts...)
	*at = near[d.below(len(near))]
}

// handPlan is a plan of which the cell 0, on the node 0, has a program by lines; the other cells have none. The
// ways 0 and 1 lead from it to the cell 2 on the node 1, and back, the ways 2 and 3 to the cell 1 on its node, and back.
func handPlan(fuel int, again bool, lines ...string) impl.PlnPlan {
	p := impl.PlnPlan{
		Nodes: 2, Secret: 5, Fuel: fuel,
		Cells: []impl.PlnCell{{Again: again}, {Again: true}, {Node: 1}},
		Ways:  []impl.PlnWay{{From: 0, To: 2, Depth: 2}, {From: 2, To: 0, Depth: 4}, {From: 0, To: 1, Depth: 1}, {From: 1, To: 0, Depth: 1}},
		Slots: slotsOf([2]int{0, -1}, [2]int{1, -1}, [2]int{0, 0}, [2]int{1, 1}, [2]int{0, 2}, [2]int{0, 3}),
		Turns: [][]int{{0, 1, -1, 0, -1, 0}, {-1, 2, 2, -1, -1, -1}},
	}
	for _, line := range lines {
		o, _ := impl.CodRead(line)
		p.Cells[0].Code = append(p.Cells[0].Code, o)
	}
	return p
}

// handNode is the node 0 of that plan, up and with something of all that it may have.
func handNode(p impl.PlnPlan) impl.NodNode {
	n := plainBegin(p, 7)
	n.Up, n.Hello, n.Heard = true, 3, impl.HrdBook{Boots: []int{0, 9}, Seqs: []int{0, 4}}
	n.Outs[0] = impl.OutOut{Boot: 7, Peer: 9, Epoch: 1, Seq: 2}
	n.Ins[1] = impl.InIn{Boot: 3, Epoch: 2, Seq: 16}
	n.Cells[0] = impl.CelCell{State: machine(0, [4]int{1, 2, 3, 4}, [8]int{10, 11, 12, 13, 14, 15, 16, 17}), In: []byte{5, 6}}
	n.Cells[1].In = []byte{7}
	n.Out[0].Items, n.In[1].Items = [][]byte{{1}}, [][]byte{{2}, {3, 4}}
	n.Out[2].Items, n.In[2].Items, n.Out[3].Items, n.In[3].Items = [][]byte{{5}}, [][]byte{{6}}, [][]byte{{}}, [][]byte{{8}}
	return n
}

// noNode says whether a node is nothing.
func noNode(n impl.NodNode) bool {
	return sameNode(n, impl.NodNode{})
}

// nodePlans are plans that are ok, by hand and drawn; programs of the drawn ones read, tell and yield more often than others.
func nodePlans(d *draw, many int) []impl.PlnPlan {
	plans := []impl.PlnPlan{handPlan(6, true, "set 0 1"), basePlan(), examplePlan(), mostPlan()}
	for range many {
		p := drawPlan(d)
		for _, c := range p.Cells {
			for k := range c.Code {
				if d.below(4) == 0 {
					c.Code[k] = []impl.VmOrder{{Op: 11, A: d.below(4), B: d.below(4)}, {Op: 12, A: d.below(4)}, {Op: 1, A: d.below(4), B: d.below(9)}, {Op: 13}}[d.below(4)]
				}
			}
		}
		plans = append(plans, p)
	}
	return plans
}

// checkWindow calls NodWindow, and holds it against the document; the answer.
func checkWindow(t *testing.T, p impl.PlnPlan, n impl.NodNode, at int, slot int) (impl.NodNode, []impl.CelSight) {
	t.Helper()
	want, wants := plainWindow(p, n, at, slot)
	after, seen := impl.NodWindow(p, n, at, slot)
	if !sameNode(after, want) || !sameSights(seen, wants) {
		t.Fatalf("the slot %d at %d of %v\nin %v:\nis  %v %v\nnot %v %v", slot, at, n, p, after, seen, want, wants)
	}
	return after, seen
}

// checkRise calls NodRise, and holds it against the document; the answer.
func checkRise(t *testing.T, p impl.PlnPlan, n impl.NodNode, at int) impl.NodNode {
	t.Helper()
	after := impl.NodRise(p, n, at)
	if want := plainRise(p, n, at); !sameNode(after, want) {
		t.Fatalf("%v at %d rises: %v, not %v", n, at, after, want)
	}
	return after
}

// checkFall calls NodFall, and holds it against the document; the answer.
func checkFall(t *testing.T, p impl.PlnPlan, n impl.NodNode, at int) impl.NodNode {
	t.Helper()
	after := impl.NodFall(p, n, at)
	if want := plainFall(p, n, at); !sameNode(after, want) {
		t.Fatalf("%v at %d falls: %v, not %v", n, at, after, want)
	}
	return after
}

// checkNodeInput calls NodInput, and holds it against the document; the answer.
func checkNodeInput(t *testing.T, p impl.PlnPlan, n impl.NodNode, at int, cell int, v int) impl.NodNode {
	t.Helper()
	after := impl.NodInput(p, n, at, cell, v)
	if want := plainNodeInput(p, n, at, cell, v); !sameNode(after, want) {
		t.Fatalf("%d for %d of %v at %d: %v, not %v", v, cell, n, at, after, want)
	}
	return after
}

func TestNodeNew(t *testing.T) {
	d := &draw{x: 350}
	for _, p := range nodePlans(d, 300) {
		for at := range p.Nodes {
			if n := impl.NodNew(p, at); !sameNode(n, plainBegin(p, 0)) || !impl.NodOk(p, n, at) {
				t.Fatalf("NodNew at %d of %v: %v", at, p, n)
			}
		}
		for _, at := range append([]int{-4, -1, p.Nodes, p.Nodes + 1, 255, 256}, farInts...) {
			if n := impl.NodNew(p, at); !noNode(n) {
				t.Fatalf("NodNew at %d of %d nodes: %v", at, p.Nodes, n)
			}
		}
	}
}

func TestNodeOkDrawn(t *testing.T) {
	d, fine, wrong := &draw{x: 351}, 0, 0
	for range 25000 {
		p := drawPlan(d)
		if d.below(3) == 0 {
			p = handPlan(1+d.below(16), d.below(2) == 0, "yield", "stop")
		}
		at := d.below(p.Nodes)
		n := drawNode(d, p, at)
		if !plainNodeOk(p, n, at) || !impl.NodOk(p, n, at) {
			t.Fatalf("%v at %d of %v is not ok", n, at, p)
		}
		bent := copyNode(n)
		for range 1 + d.below(2) {
			bendNode(d, &bent)
		}
		want := plainNodeOk(p, bent, at)
		if impl.NodOk(p, bent, at) != want {
			t.Fatalf("%v at %d of %v: ok is not %v", bent, at, p, want)
		}
		if want {
			fine++
		} else {
			wrong++
		}
		other := d.below(p.Nodes)
		if impl.NodOk(p, n, other) != plainNodeOk(p, n, other) {
			t.Fatalf("%v at %d of %v: ok is %v", n, other, p, impl.NodOk(p, n, other))
		}
	}
	if fine < 2000 || wrong < 10000 {
		t.Error("too few of a sort:", fine, wrong)
	}
}

// nodeChange is one change of the node by hand, and whether it is ok behind it.
type nodeChange struct {
	name string
	ok   bool
	how  func(n *impl.NodNode)
}

// checkChanges makes each change, and asks whether the node is ok.
func checkChanges(t *testing.T, up bool, changes []nodeChange) {
	t.Helper()
	p := handPlan(6, true, "yield", "yield")
	for _, c := range changes {
		n := handNode(p)
		if !up {
			n = plainBegin(p, 7)
		}
		if !impl.NodOk(p, n, 0) {
			t.Fatal("the node by hand is not ok")
		}
		c.how(&n)
		if impl.NodOk(p, n, 0) != c.ok || plainNodeOk(p, n, 0) != c.ok {
			t.Errorf("%s: ok is %v, and by the document %v, not %v", c.name, impl.NodOk(p, n, 0), plainNodeOk(p, n, 0), c.ok)
		}
	}
}

// live gives a node a life, and the sending half of its far way the same one.
func live(n *impl.NodNode, boot int) {
	n.Boot, n.Outs[0].Boot = boot, boot
}

func TestNodeOkNumbersAndBook(t *testing.T) {
	checkChanges(t, true, []nodeChange{
		{"the first life", true, func(n *impl.NodNode) { live(n, 1) }},
		{"the last life", true, func(n *impl.NodNode) { live(n, 60000) }},
		{"behind the last life", false, func(n *impl.NodNode) { live(n, 60001) }},
		{"up and never lived", false, func(n *impl.NodNode) { live(n, 0) }},
		{"up and never lived, with a half that has", false, func(n *impl.NodNode) { n.Boot = 0 }},
		{"a life below 0", false, func(n *impl.NodNode) { live(n, -1) }},
		{"another life than its half's", false, func(n *impl.NodNode) { n.Boot = 8 }},
		{"the first hello", true, func(n *impl.NodNode) { n.Hello = 0 }},
		{"the last hello", true, func(n *impl.NodNode) { n.Hello = 60000 }},
		{"behind the last hello", false, func(n *impl.NodNode) { n.Hello = 60001 }},
		{"a hello below 0", false, func(n *impl.NodNode) { n.Hello = -1 }},
		{"the last life and hello were heard", true, func(n *impl.NodNode) { n.Heard.Boots[1], n.Heard.Seqs[1] = 60000, 60000 }},
		{"a life behind the last one was heard", false, func(n *impl.NodNode) { n.Heard.Boots[1] = 60001 }},
		{"a hello behind the last one was heard", false, func(n *impl.NodNode) { n.Heard.Seqs[1] = 60001 }},
		{"never heard, and known", false, func(n *impl.NodNode) { n.Heard.Boots[1], n.Heard.Seqs[1] = 0, 0 }},
		{"never heard, by a hello", false, func(n *impl.NodNode) { n.Heard.Boots[1], n.Outs[0].Peer = 0, 0 }},
		{"never heard, and not known", true, func(n *impl.NodNode) { n.Heard.Boots[1], n.Heard.Seqs[1], n.Outs[0].Peer = 0, 0, 0 }},
		{"it heard itself", false, func(n *impl.NodNode) { n.Heard.Boots[0] = 1 }},
		{"it heard itself, in its life", false, func(n *impl.NodNode) { n.Heard.Boots[0], n.Heard.Seqs[0] = 7, 2 }},
		{"a hello of itself", false, func(n *impl.NodNode) { n.Heard.Seqs[0] = 1 }},
		{"a book of one node", false, func(n *impl.NodNode) { n.Heard = impl.HrdBook{Boots: []int{0}, Seqs: []int{0}} }},
		{"a book of three nodes", false, func(n *impl.NodNode) { n.Heard = impl.HrdBook{Boots: []int{0, 9, 0}, Seqs: []int{0, 4, 0}} }},
		{"no book", false, func(n *impl.NodNode) { n.Heard = impl.HrdBook{} }},
		{"more lives than hellos", false, func(n *impl.NodNode) { n.Heard.Seqs = n.Heard.Seqs[:1] }},
	})
	checkChanges(t, false, []nodeChange{
		{"never lived", true, func(n *impl.NodNode) { n.Boot = 0 }},
		{"the last life", true, func(n *impl.NodNode) { n.Boot = 60000 }},
		{"behind the last life", false, func(n *impl.NodNode) { n.Boot = 60001 }},
		{"a life below 0", false, func(n *impl.NodNode) { n.Boot = -1 }},
		{"a hello of one that is down", false, func(n *impl.NodNode) { n.Hello = 1 }},
		{"heard by one that is down", false, func(n *impl.NodNode) { n.Heard.Boots[1] = 1 }},
		{"up with halves of none", false, func(n *impl.NodNode) { n.Up = true }},
		{"up in the first life", true, func(n *impl.NodNode) { n.Up, n.Boot = true, 1 }},
	})
}

func TestNodeOkCells(t *testing.T) {
	var shared []nodeChange
	for name, how := range map[string]func(c *impl.CelCell){
		"a place": func(c *impl.CelCell) { c.State.Pc = 1 }, "a stop": func(c *impl.CelCell) { c.State.Halt = 1 },
		"a fall": func(c *impl.CelCell) { c.State.Halt = 2 }, "a register": func(c *impl.CelCell) { c.State.Regs[3] = 1 },
		"memory": func(c *impl.CelCell) { c.State.Mem[7] = 1 }, "a byte": func(c *impl.CelCell) { c.In = []byte{0} },
		"no cell": func(c *impl.CelCell) { *c = impl.CelCell{} },
	} {
		shared = append(shared, nodeChange{name + " of a cell of another node", false, func(n *impl.NodNode) { how(&n.Cells[2]) }})
		if name != "a place" && name != "no cell" {
			checkChanges(t, true, []nodeChange{{name + " of a cell without a program", true, func(n *impl.NodNode) { how(&n.Cells[1]) }}})
		}
		checkChanges(t, false, []nodeChange{{name + " of one that is down", false, func(n *impl.NodNode) { how(&n.Cells[0]) }}})
	}
	shared = append(shared,
		nodeChange{"no cells", false, func(n *impl.NodNode) { n.Cells = nil }},
		nodeChange{"too few cells", false, func(n *impl.NodNode) { n.Cells = n.Cells[:2] }},
		nodeChange{"too many cells", false, func(n *impl.NodNode) { n.Cells = append(n.Cells, newCell()) }},
		nodeChange{"seven bytes", false, func(n *impl.NodNode) { n.Cells[0].In = upward(7) }},
		nodeChange{"a register too few", false, func(n *impl.NodNode) { n.Cells[0].State.Regs = n.Cells[0].State.Regs[:3] }})
	checkChanges(t, true, shared)
	checkChanges(t, false, shared)
	checkChanges(t, true, []nodeChange{
		{"the program's end", true, func(n *impl.NodNode) { n.Cells[0].State.Pc = 2 }},
		{"past the program's end", false, func(n *impl.NodNode) { n.Cells[0].State.Pc = 3 }},
		{"past the end of the longest program", false, func(n *impl.NodNode) { n.Cells[0].State.Pc = 25 }},
		{"ahead of the program", false, func(n *impl.NodNode) { n.Cells[0].State.Pc = -1 }},
		{"past the end of none", false, func(n *impl.NodNode) { n.Cells[1].State.Pc = 1 }},
		{"past the end, stopped", false, func(n *impl.NodNode) { n.Cells[0].State.Pc, n.Cells[0].State.Halt = 3, 1 }},
		{"six bytes", true, func(n *impl.NodNode) { n.Cells[0].In = upward(6) }},
		{"the greatest numbers", true, func(n *impl.NodNode) { n.Cells[0].State.Regs[0], n.Cells[0].State.Mem[7] = 255, 255 }},
		{"a register beyond", false, func(n *impl.NodNode) { n.Cells[0].State.Regs[0] = 256 }},
		{"memory below 0", false, func(n *impl.NodNode) { n.Cells[1].State.Mem[0] = -1 }},
		{"another halt", false, func(n *impl.NodNode) { n.Cells[0].State.Halt = 3 }},
	})
}

func TestNodeOkBoxes(t *testing.T) {
	parts := map[string]func(n *impl.NodNode) *[]impl.BoxBox{
		"Out": func(n *impl.NodNode) *[]impl.BoxBox { return &n.Out },
		"In":  func(n *impl.NodNode) *[]impl.BoxBox { return &n.In },
	}
	for name, part := range parts {
		changes := []nodeChange{
			{name + " has no boxes", false, func(n *impl.NodNode) { *part(n) = nil }},
			{name + " has too few boxes", false, func(n *impl.NodNode) { *part(n) = (*part(n))[:3] }},
			{name + " has too many boxes", false, func(n *impl.NodNode) { *part(n) = append(*part(n), impl.BoxNew(1)) }},
		}
		for way := range 4 {
			for _, depth := range append([]int{-1, 0, 1, 2, 3, 4, 5}, farInts...) {
				fine := depth == []int{2, 4, 1, 1}[way]
				changes = append(changes, nodeChange{name + " has a depth", fine, func(n *impl.NodNode) { (*part(n))[way].Depth = depth }})
			}
		}
		checkChanges(t, true, changes)
		checkChanges(t, false, changes)
		for way := range 4 {
			var up, down []nodeChange
			used := way > 1 || (way == 0) == (name == "Out")
			for size := 0; size <= 5; size++ {
				lay := func(n *impl.NodNode) { (*part(n))[way].Items = unlike(size) }
				up = append(up, nodeChange{name + " has messages", size == 0 || used && size <= []int{2, 4, 1, 1}[way], lay})
				down = append(down, nodeChange{name + " has messages and is down", size == 0, lay})
			}
			for _, size := range []int{0, 1, 8, 9, 256} {
				lay := func(n *impl.NodNode) { (*part(n))[way].Items = [][]byte{upward(size)} }
				up = append(up, nodeChange{name + " has a message", used && size <= 8, lay})
				down = append(down, nodeChange{name + " has a message and is down", false, lay})
			}
			checkChanges(t, true, up)
			checkChanges(t, false, down)
		}
	}
}

func TestNodeOkSendingHalves(t *testing.T) {
	set := func(way int, o impl.OutOut) func(n *impl.NodNode) {
		return func(n *impl.NodNode) { n.Outs[way] = o }
	}
	changes := []nodeChange{
		{"the first one", true, set(0, impl.OutOut{Boot: 7})},
		{"the last one", true, set(0, impl.OutOut{Boot: 7, Peer: 9, Epoch: 200, Seq: 15})},
		{"a Peer below the book's", true, set(0, impl.OutOut{Boot: 7, Peer: 8})},
		{"a Peer above the book's", false, set(0, impl.OutOut{Boot: 7, Peer: 10})},
		{"a Peer below 0", false, set(0, impl.OutOut{Boot: 7, Peer: -1})},
		{"another life", false, set(0, impl.OutOut{Boot: 6})},
		{"the first life", false, set(0, impl.OutOut{Boot: 1})},
		{"an epoch too many", false, set(0, impl.OutOut{Boot: 7, Epoch: 201})},
		{"a number too many", false, set(0, impl.OutOut{Boot: 7, Seq: 16})},
		{"an epoch below 0", false, set(0, impl.OutOut{Boot: 7, Epoch: -1})},
		{"a number below 0", false, set(0, impl.OutOut{Boot: 7, Seq: -1})},
		{"nothing", false, set(0, impl.OutOut{})},
		{"no halves", false, func(n *impl.NodNode) { n.Outs = nil }},
		{"too few halves", false, func(n *impl.NodNode) { n.Outs = n.Outs[:3] }},
		{"too many halves", false, func(n *impl.NodNode) { n.Outs = append(n.Outs, impl.OutOut{Boot: 1}) }},
	}
	for way := 1; way < 4; way++ {
		for _, o := range []impl.OutOut{{}, {Boot: 7}, {Boot: 2}, {Boot: 1, Peer: 1}, {Boot: 1, Epoch: 1}, {Boot: 1, Seq: 1}, {Boot: 60001}} {
			changes = append(changes, nodeChange{"a half of a way that is not far", false, set(way, o)})
		}
	}
	checkChanges(t, true, changes)
	var down []nodeChange
	for way := range 4 {
		for _, o := range []impl.OutOut{{}, {Boot: 7}, {Boot: 2}, {Boot: 1, Peer: 1}, {Boot: 1, Epoch: 1}, {Boot: 1, Seq: 1}} {
			down = append(down, nodeChange{"a half of one that is down", false, set(way, o)})
		}
	}
	checkChanges(t, false, down)
	// In the last life the book's last one is known too.
	checkChanges(t, true, []nodeChange{{"the last lives", true, func(n *impl.NodNode) {
		live(n, 60000)
		n.Heard.Boots[1], n.Outs[0].Peer = 60000, 60000
	}}})
}

func TestNodeOkHearingHalves(t *testing.T) {
	set := func(way int, i impl.InIn) func(n *impl.NodNode) {
		return func(n *impl.NodNode) { n.Ins[way] = i }
	}
	changes := []nodeChange{
		{"nothing", true, set(1, impl.InIn{})},
		{"the last one, behind what the book has", true, set(1, impl.InIn{Boot: 60000, Epoch: 200, Seq: 16})},
		{"no life, and a number", true, set(1, impl.InIn{Epoch: 200, Seq: 16})},
		{"a life too many", false, set(1, impl.InIn{Boot: 60001})},
		{"an epoch too many", false, set(1, impl.InIn{Boot: 1, Epoch: 201})},
		{"a number too many", false, set(1, impl.InIn{Boot: 1, Seq: 17})},
		{"a life below 0", false, set(1, impl.InIn{Boot: -1})},
		{"an epoch below 0", false, set(1, impl.InIn{Epoch: -1})},
		{"a number below 0", false, set(1, impl.InIn{Seq: -1})},
		{"no halves", false, func(n *impl.NodNode) { n.Ins = nil }},
		{"too few halves", false, func(n *impl.NodNode) { n.Ins = n.Ins[:3] }},
		{"too many halves", false, func(n *impl.NodNode) { n.Ins = append(n.Ins, impl.InIn{}) }},
	}
	some := []impl.InIn{{Boot: 1}, {Epoch: 1}, {Seq: 1}, {Boot: 60000, Epoch: 200, Seq: 16}, {Boot: -1}, {Seq: 17}}
	var down []nodeChange
	for way := range 4 {
		for _, i := range some {
			if way != 1 {
				changes = append(changes, nodeChange{"a half of a way that does not lead here from another node", false, set(way, i)})
			}
			down = append(down, nodeChange{"a half of one that is down", false, set(way, i)})
		}
	}
	checkChanges(t, true, changes)
	checkChanges(t, false, down)
}

func TestP35RiseOfFall(t *testing.T) {
	d := &draw{x: 35}
	for _, p := range nodePlans(d, 1200) {
		for at := range p.Nodes {
			n := drawNode(d, p, at)
			fell := checkFall(t, p, n, at)
			if fell.Up || fell.Boot != n.Boot || !sameNode(checkFall(t, p, fell, at), fell) || !impl.NodOk(p, fell, at) {
				t.Fatalf("%v fell: %v", n, fell)
			}
			rose, first := checkRise(t, p, fell, at), checkRise(t, p, impl.NodNew(p, at), at)
			if !slices.EqualFunc(rose.Cells, first.Cells, sameCell) || !slices.EqualFunc(rose.Out, first.Out, sameBox) ||
				!slices.EqualFunc(rose.In, first.In, sameBox) || !sameBook(rose.Heard, first.Heard) || rose.Boot != min(n.Boot+1, 60000) ||
				rose.Up != (n.Boot < 60000) || rose.Hello != 0 || !impl.NodOk(p, rose, at) {
				t.Fatalf("%v fell and rose: %v, and at first %v", n, rose, first)
			}
			if n.Up && !sameNode(checkRise(t, p, n, at), n) {
				t.Fatalf("%v, which is up, rises", n)
			}
		}
	}
}

func TestP35LivesByHand(t *testing.T) {
	p := handPlan(6, true, "yield")
	n := impl.NodNew(p, 0)
	for life := 1; life <= 3; life++ {
		n = impl.NodRise(p, n, 0)
		halves := []impl.OutOut{{Boot: life}, {Boot: 1}, {Boot: 1}, {Boot: 1}}
		if !n.Up || n.Boot != life || !slices.Equal(n.Outs, halves) || !slices.Equal(n.Ins, make([]impl.InIn, 4)) {
			t.Fatal(life, n)
		}
		n = impl.NodFall(p, n, 0)
		if n.Up || n.Boot != life || n.Outs[0].Boot != 1 {
			t.Fatal(life, n)
		}
	}
	for boot, want := range map[int]int{0: 1, 1: 2, 59998: 59999, 59999: 60000} {
		if rose := impl.NodRise(p, plainBegin(p, boot), 0); !rose.Up || rose.Boot != want || rose.Outs[0].Boot != want {
			t.Error(boot, rose)
		}
	}
	if last := impl.NodRise(p, plainBegin(p, 60000), 0); !sameNode(last, plainBegin(p, 60000)) {
		t.Error("behind the last life there is one more:", last)
	}
	if fell := impl.NodFall(p, handNode(p), 0); !sameNode(fell, plainBegin(p, 7)) {
		t.Error(fell)
	}
}

func TestP38Input(t *testing.T) {
	d := &draw{x: 38}
	for _, p := range nodePlans(d, 400) {
		at := d.below(p.Nodes)
		n := drawNode(d, p, at)
		for _, cell := range append([]int{-1, len(p.Cells), len(p.Cells) + 1, 255, 256}, farInts...) {
			if after := checkNodeInput(t, p, n, at, cell, 1); !sameNode(after, n) {
				t.Fatalf("%v took a byte for the cell %d, which is none: %v", n, cell, after)
			}
		}
		for cell := range p.Cells {
			for _, v := range append([]int{0, 1, 128, 254, 255}, noBytes...) {
				after := checkNodeInput(t, p, n, at, cell, v)
				told := copyNode(after)
				told.Cells[cell] = copyCell(n.Cells[cell])
				if !sameNode(told, n) || !sameState(after.Cells[cell].State, n.Cells[cell].State) || !impl.NodOk(p, after, at) {
					t.Fatalf("%d for the cell %d of %v changes more than what waits: %v", v, cell, n, after)
				}
				if took, ok := impl.CelInput(n.Cells[cell], v); n.Up && ok && p.Cells[cell].Node == at && !sameCell(after.Cells[cell], took) {
					t.Fatalf("%d for the cell %d of %v: %v, not %v", v, cell, n, after.Cells[cell], took)
				}
			}
		}
	}
}

func TestP38InputByHand(t *testing.T) {
	p := handPlan(6, true, "yield")
	n := handNode(p)
	for k := range 8 {
		n = impl.NodInput(p, n, 0, 0, 100+k)
		n = impl.NodInput(p, n, 0, 2, 100+k)
	}
	if !same(n.Cells[0].In, []byte{5, 6, 100, 101, 102, 103}) || !same(n.Cells[1].In, []byte{7}) || len(n.Cells[2].In) != 0 {
		t.Error(n.Cells)
	}
	for _, boot := range []int{0, 1, 60000} {
		if down := plainBegin(p, boot); !sameNode(impl.NodInput(p, down, 0, 0, 9), down) {
			t.Error("a node that is down took a byte, life", boot)
		}
	}
	// A cell that has stopped or fallen may be given bytes too.
	for halt := 1; halt <= 2; halt++ {
		n := handNode(p)
		n.Cells[0].State.Halt = halt
		if after := impl.NodInput(p, n, 0, 0, 255); !same(after.Cells[0].In, []byte{5, 6, 255}) || after.Cells[0].State.Halt != halt {
			t.Error(after.Cells[0])
		}
	}
}

func saw(kind int, way int, held ...byte) impl.CelSight {
	return impl.CelSight{Kind: kind, Way: way, Bytes: held}
}

// turns lets the cell 0 of a plan by hand have one turn behind the other: each time it must see what is told.
func turns(t *testing.T, p impl.PlnPlan, n impl.NodNode, each ...[]impl.CelSight) impl.NodNode {
	t.Helper()
	for k, want := range each {
		after, seen := checkWindow(t, p, n, 0, []int{0, 3, 5}[k%3])
		if !sameSights(seen, want) {
			t.Fatalf("the turn %d of %v: it sees %v, not %v", k, p.Cells[0].Code, seen, want)
		}
		n = after
	}
	return n
}

// risen is the node 0 of a plan by hand in its first life.
func risen(p impl.PlnPlan) impl.NodNode {
	return impl.NodRise(p, impl.NodNew(p, 0), 0)
}

// sights is what is seen in a turn.
type sights = []impl.CelSight

func TestP36Yields(t *testing.T) {
	told := saw(impl.SawTold, 0, 0)
	stopped := saw(impl.SawStopped, 0)
	p := handPlan(6, false, "yield", "tell 0")
	turns(t, p, risen(p), nil, sights{told, stopped}, nil)
	p = handPlan(2, false, "tell 0", "yield", "tell 0", "tell 0")
	turns(t, p, risen(p), sights{told}, sights{told, told}, sights{stopped}, nil)
	p = handPlan(3, false, "tell 0", "yield", "tell 0", "tell 0")
	turns(t, p, risen(p), sights{told}, sights{told, told, stopped}, nil)
	p = handPlan(6, false, "tell 0", "yield")
	turns(t, p, risen(p), sights{told}, sights{stopped}, nil)
	p = handPlan(1, false, "yield", "yield", "tell 0")
	turns(t, p, risen(p), nil, nil, sights{told}, sights{stopped}, nil)
	p = handPlan(3, false, "yield", "set 3 0", "jump 0 3")
	if n := turns(t, p, risen(p), nil, nil, nil, nil); n.Cells[0].State.Pc != 1 {
		t.Error(n.Cells[0])
	}
	p = handPlan(2, false, "set 0 1", "set 0 2", "set 0 3", "tell 0")
	turns(t, p, risen(p), nil, sights{saw(impl.SawTold, 0, 3)}, sights{stopped}, nil)
}

func TestP36Fuel(t *testing.T) {
	tells := slices.Repeat([]string{"tell 0"}, 24)
	for fuel := 1; fuel <= 16; fuel++ {
		p := handPlan(fuel, true, tells...)
		n, left := risen(p), 24
		for left > 0 {
			seen := slices.Repeat(sights{saw(impl.SawTold, 0, 0)}, min(fuel, left))
			if left < fuel {
				seen = append(seen, saw(impl.SawStopped, 0))
			}
			left -= fuel
			n = turns(t, p, n, seen)
			if n.Cells[0].State.Pc != 24-max(left, 0) {
				t.Fatal(fuel, left, n.Cells[0])
			}
		}
		if left == 0 {
			n = turns(t, p, n, sights{saw(impl.SawStopped, 0)})
		}
		turns(t, p, n, nil, nil)
	}
}

func TestP36Stops(t *testing.T) {
	stopped := saw(impl.SawStopped, 0)
	for _, again := range []bool{false, true} {
		p := handPlan(6, again)
		turns(t, p, risen(p), sights{stopped}, nil, nil)
		p = handPlan(1, again, "stop")
		if n := turns(t, p, risen(p), sights{stopped}, nil, nil); n.Cells[0].State.Pc != 0 || n.Cells[0].State.Halt != impl.VmStopped {
			t.Error(n.Cells[0])
		}
		p = handPlan(6, again, "tell 3", "stop", "tell 3")
		turns(t, p, risen(p), sights{saw(impl.SawTold, 0, 0), stopped}, nil)
		p = handPlan(6, again, "set 0 1", "jump 2 1", "tell 0")
		turns(t, p, risen(p), sights{saw(impl.SawTold, 0, 1), stopped}, nil)
		p = handPlan(6, again, "jump 1 0")
		turns(t, p, risen(p), sights{stopped}, nil)
	}
}

func TestP36FallsByAStep(t *testing.T) {
	fell, began := saw(impl.SawFell, 0), saw(impl.SawBegan, 0)
	code := []string{"tell 0", "set 0 8", "load 1 0", "tell 1"}
	told := saw(impl.SawTold, 0, 0)
	p := handPlan(6, false, code...)
	n := turns(t, p, risen(p), sights{told, fell}, nil, nil)
	if s := n.Cells[0].State; s.Halt != impl.VmFell || s.Pc != 2 || s.Regs[0] != 8 {
		t.Error(s)
	}
	p = handPlan(6, true, code...)
	turns(t, p, risen(p), sights{told, fell}, sights{began, told, fell}, sights{began, told, fell})
	// To begin anew is no order of the turn.
	p = handPlan(3, true, code...)
	turns(t, p, risen(p), sights{told, fell}, sights{began, told, fell}, sights{began, told, fell})
	p = handPlan(2, true, code...)
	turns(t, p, risen(p), sights{told}, sights{fell}, sights{began, told}, sights{fell})
	p = handPlan(1, true, code...)
	turns(t, p, risen(p), sights{told}, nil, sights{fell}, sights{began, told}, nil, sights{fell})
	// A send that falls is none.
	p = handPlan(6, false, "set 1 9", "send 0 0 1")
	if n := turns(t, p, risen(p), sights{fell}, nil); len(n.Out[0].Items) != 0 {
		t.Error(n.Out[0])
	}
	p = handPlan(6, true, "set 0 8", "store 0 0")
	turns(t, p, risen(p), sights{fell}, sights{began, fell})
}

func TestP36FallsByAnAnswer(t *testing.T) {
	fell := saw(impl.SawFell, 0)
	p := handPlan(6, false, "set 1 7", "take 1 1 3", "tell 3")
	n := risen(p)
	n.In[1].Items = [][]byte{{8, 9}, {1}}
	after := turns(t, p, n, sights{saw(impl.SawGot, 1, 8, 9), fell}, nil)
	if s := after.Cells[0].State; s.Halt != impl.VmFell || s.Pc != 2 || s.Regs[3] != 0 || s.Mem[7] != 0 {
		t.Error(s)
	}
	if !sameLists(after.In[1].Items, [][]byte{{1}}) {
		t.Error("what was got is still there:", after.In[1])
	}
	p.Cells[0].Again = true
	p.Fuel = 2
	turns(t, p, n, sights{saw(impl.SawGot, 1, 8, 9), fell}, sights{saw(impl.SawBegan, 0), saw(impl.SawGot, 1, 1)}, sights{saw(impl.SawTold, 0, 2), saw(impl.SawStopped, 0)})
	// Nothing, or a message without bytes, fits behind the last byte.
	p = handPlan(6, false, "set 1 255", "take 1 1 3", "tell 3", "yield")
	turns(t, p, risen(p), sights{saw(impl.SawNone, 1), saw(impl.SawTold, 0, 0)})
	p = handPlan(6, false, "set 1 8", "take 1 1 3", "tell 3", "yield")
	n = risen(p)
	n.In[1].Items = [][]byte{{}}
	turns(t, p, n, sights{saw(impl.SawGot, 1), saw(impl.SawTold, 0, 1)})
}

func TestP36Sends(t *testing.T) {
	p := handPlan(16, false, "set 0 3", "set 1 2", "store 0 0", "send 0 0 1", "tell 0", "set 0 3", "send 0 0 2", "tell 0", "set 0 3", "send 0 0 1", "tell 0", "yield")
	n := turns(t, p, risen(p), sights{
		saw(impl.SawSent, 0, 3, 0), saw(impl.SawTold, 0, 1),
		saw(impl.SawSent, 0), saw(impl.SawTold, 0, 1),
		saw(impl.SawFull, 0, 3, 0), saw(impl.SawTold, 0, 0),
	})
	if !sameLists(n.Out[0].Items, [][]byte{{3, 0}, {}}) || len(n.In[0].Items) != 0 {
		t.Error(n.Out[0], n.In[0])
	}
	// The longest message; and the way that stays on the node has its own box.
	p = handPlan(6, false, "set 1 8", "send 2 0 1", "set 0 0", "send 2 0 1")
	n = risen(p)
	n.Cells[0].State.Mem = []int{1, 2, 3, 4, 5, 6, 7, 255}
	all := []byte{1, 2, 3, 4, 5, 6, 7, 255}
	n = turns(t, p, n, sights{saw(impl.SawSent, 2, all...), saw(impl.SawFull, 2, all...), saw(impl.SawStopped, 0)}, nil)
	if !sameLists(n.Out[2].Items, [][]byte{all}) || len(n.In[2].Items) != 0 || len(n.Out[0].Items) != 0 {
		t.Error(n.Out, n.In)
	}
}

func TestP36Takes(t *testing.T) {
	p := handPlan(16, false, "take 1 0 1", "tell 1", "take 1 0 1", "tell 1", "take 3 0 1", "take 1 2 1", "tell 1", "yield")
	n := risen(p)
	n.In[1].Items, n.Out[2].Items, n.In[3].Items = [][]byte{{9, 8, 7}, {6}}, [][]byte{{1}}, [][]byte{{5}}
	after := turns(t, p, n, sights{
		saw(impl.SawGot, 1, 9, 8, 7), saw(impl.SawTold, 0, 4), saw(impl.SawGot, 1, 6), saw(impl.SawTold, 0, 2),
		saw(impl.SawGot, 3, 5), saw(impl.SawNone, 1), saw(impl.SawTold, 0, 0),
	})
	if !slices.Equal(after.Cells[0].State.Mem, []int{5, 8, 7, 0, 0, 0, 0, 0}) || len(after.In[1].Items) != 0 || len(after.Out[2].Items) != 1 {
		t.Error(after)
	}
	// What waits to set out from the other end has not come yet.
	n = risen(p)
	n.Out[3].Items = [][]byte{{1}}
	after, seen := checkWindow(t, p, n, 0, 0)
	if !sameSights(seen[4:5], sights{saw(impl.SawNone, 3)}) || len(after.Out[3].Items) != 1 {
		t.Error(seen, after.Out[3])
	}
}

func TestP39ReadInOrder(t *testing.T) {
	p := handPlan(16, true, "read 0 1", "tell 1", "read 2 2", "tell 2", "read 0 3", "tell 0", "tell 3", "set 0 8", "load 0 0")
	n := risen(p)
	for _, v := range []int{200, 0, 7, 201} {
		n = impl.NodInput(p, n, 0, 0, v)
	}
	fell := saw(impl.SawFell, 0)
	n = turns(t, p, n, sights{saw(impl.SawByte, 0, 200), saw(impl.SawTold, 0, 1), saw(impl.SawByte, 0, 0), saw(impl.SawTold, 0, 1),
		saw(impl.SawByte, 0, 7), saw(impl.SawTold, 0, 7), saw(impl.SawTold, 0, 1), fell})
	if !same(n.Cells[0].In, []byte{201}) {
		t.Error(n.Cells[0])
	}
	// What waits is still there when the cell begins anew.
	n = impl.NodInput(p, n, 0, 0, 202)
	turns(t, p, n, sights{saw(impl.SawBegan, 0), saw(impl.SawByte, 0, 201), saw(impl.SawTold, 0, 1), saw(impl.SawByte, 0, 202), saw(impl.SawTold, 0, 1),
		saw(impl.SawQuiet, 0), saw(impl.SawTold, 0, 0), saw(impl.SawTold, 0, 0), fell})
}

func TestP36NobodysTurn(t *testing.T) {
	p := handPlan(6, true, "tell 0", "tell 0")
	n := handNode(p)
	for _, slot := range []int{2, 4} {
		if after, seen := checkWindow(t, p, n, 0, slot); len(seen) != 0 || !sameNode(after, n) {
			t.Error(slot, after, seen)
		}
	}
	if after, seen := checkWindow(t, p, n, 0, 1); !sameSights(seen, sights{saw(impl.SawStopped, 0)}) || after.Cells[1].State.Halt != 1 || !sameCell(after.Cells[0], n.Cells[0]) {
		t.Error("the other cell's turn:", after, seen)
	}
	for slot := range 6 {
		for _, boot := range []int{0, 7, 60000} {
			down := plainBegin(p, boot)
			if after, seen := checkWindow(t, p, down, 0, slot); len(seen) != 0 || !sameNode(after, down) {
				t.Error("a node that is down has a turn:", after, seen)
			}
		}
	}
	for _, slot := range append([]int{-6, -1, 6, 7, 255, 256}, farInts...) {
		for _, one := range []impl.NodNode{n, plainBegin(p, 3)} {
			if after, seen := checkWindow(t, p, one, 0, slot); len(seen) != 0 || !noNode(after) {
				t.Error("no such slot, but", slot, after, seen)
			}
		}
	}
}

// checkTouched says that a window of a cell changed nothing but that and its own boxes.
func checkTouched(t *testing.T, p impl.PlnPlan, was impl.NodNode, is impl.NodNode, cell int) {
	t.Helper()
	rest := copyNode(is)
	if cell >= 0 {
		rest.Cells[cell] = copyCell(was.Cells[cell])
	}
	for k, w := range p.Ways {
		if w.From == cell {
			rest.Out[k] = was.Out[k]
		}
		if w.To == cell {
			rest.In[k] = was.In[k]
		}
	}
	if !sameNode(rest, was) {
		t.Fatalf("the turn of %d touches more than that cell: %v, and then %v", cell, was, is)
	}
}

func TestP36Drawn(t *testing.T) {
	d := &draw{x: 36}
	kinds := make([]int, 11)
	for _, p := range nodePlans(d, 1500) {
		for at := range p.Nodes {
			n := drawNode(d, p, at)
			for range 2 {
				for slot := -1; slot <= len(p.Slots); slot++ {
					after, seen := checkWindow(t, p, n, at, slot)
					if len(seen) > 2*p.Fuel+2 {
						t.Fatalf("with the fuel %d it sees %v", p.Fuel, seen)
					}
					for _, s := range seen {
						kinds[s.Kind]++
						if !impl.CelSightOk(s) {
							t.Fatalf("%v is no sight", s)
						}
					}
					if slot < 0 || slot == len(p.Slots) {
						continue
					}
					checkTouched(t, p, n, after, p.Turns[at][slot])
					if !impl.NodOk(p, after, at) {
						t.Fatalf("%v is not ok behind a turn: %v", n, after)
					}
					n = after
				}
			}
		}
	}
	for kind := 1; kind <= 10; kind++ {
		if kinds[kind] < 100 {
			t.Errorf("the kind %d is seen %d times", kind, kinds[kind])
		}
	}
}

// alike makes a cell of a node, and the boxes of its ways, as they are in another one.
func alike(p impl.PlnPlan, n impl.NodNode, other impl.NodNode, cell int) {
	n.Cells[cell] = copyCell(other.Cells[cell])
	for k, w := range p.Ways {
		if w.From == cell {
			n.Out[k] = copyBoxes(other.Out[k : k+1])[0]
		}
		if w.To == cell {
			n.In[k] = copyBoxes(other.In[k : k+1])[0]
		}
	}
}

func TestP37ACellKnowsItsOwn(t *testing.T) {
	d := &draw{x: 37}
	for _, p := range nodePlans(d, 1200) {
		for at := range p.Nodes {
			for slot, cell := range p.Turns[at] {
				if cell < 0 {
					continue
				}
				// All else may differ: what the node has, and what others do.
				q := copyPlan(p)
				for k := range q.Cells {
					if k != cell {
						q.Cells[k].Code, q.Cells[k].Again = drawProgram(d, q.Ways, k), !q.Cells[k].Again
					}
				}
				one, other := drawUp(d, p, at), drawUp(d, q, at)
				alike(p, other, one, cell)
				first, seen := impl.NodWindow(p, one, at, slot)
				second, too := impl.NodWindow(q, other, at, slot)
				if noNode(first) || !sameSights(seen, too) {
					t.Fatalf("the cell %d sees %v in %v, but %v in %v", cell, seen, one, too, other)
				}
				left := copyNode(second)
				alike(p, left, first, cell)
				if !sameNode(left, second) {
					t.Fatalf("the cell %d leaves its own otherwise: %v and %v", cell, first, second)
				}
			}
		}
	}
}

// nothingOf says that all functions answer nothing of a node.
func nothingOf(t *testing.T, name string, p impl.PlnPlan, n impl.NodNode, at int) {
	t.Helper()
	if impl.NodOk(p, n, at) {
		t.Fatalf("%s: the node is ok", name)
	}
	for slot := -1; slot <= len(p.Slots); slot++ {
		if after, seen := impl.NodWindow(p, n, at, slot); !noNode(after) || len(seen) != 0 {
			t.Fatalf("%s: a turn leaves %v, and %v is seen", name, after, seen)
		}
	}
	for cell := -1; cell <= len(p.Cells); cell++ {
		if after := impl.NodInput(p, n, at, cell, 1); !noNode(after) {
			t.Fatalf("%s: a byte leaves %v", name, after)
		}
	}
	if rose, fell := impl.NodRise(p, n, at), impl.NodFall(p, n, at); !noNode(rose) || !noNode(fell) {
		t.Fatalf("%s: it rises as %v and falls as %v", name, rose, fell)
	}
}

func TestNodeNothingOfWrong(t *testing.T) {
	d := &draw{x: 352}
	for k, broken := range breaks() {
		p := basePlan()
		up, down := drawUp(d, p, 1), plainBegin(p, 4)
		broken(&p)
		nothingOf(t, "a wrong plan", p, up, 1)
		nothingOf(t, "a wrong plan", p, down, 1)
		for at := -1; at <= 4; at++ {
			if n := impl.NodNew(p, at); !noNode(n) {
				t.Fatal("NodNew of a plan with the code", k+1, n)
			}
		}
	}
	nothingOf(t, "nothing", impl.PlnPlan{}, impl.NodNode{}, 0)
	p := handPlan(6, true, "tell 0")
	for _, at := range append([]int{-1, 2, 3, 255, 256}, farInts...) {
		nothingOf(t, "no such place", p, handNode(p), at)
		nothingOf(t, "no such place", p, plainBegin(p, 3), at)
	}
	nothingOf(t, "another place", p, handNode(p), 1)
	nothingOf(t, "no node", p, impl.NodNode{}, 0)
	nothingOf(t, "a node of another plan", p, drawUp(d, basePlan(), 0), 0)
	wrong := 0
	for range 4000 {
		p := drawPlan(d)
		at := d.below(p.Nodes)
		n := copyNode(drawNode(d, p, at))
		bendNode(d, &n)
		if !plainNodeOk(p, n, at) {
			nothingOf(t, "a bent node", p, n, at)
			wrong++
		}
	}
	if wrong < 1500 {
		t.Error("too few wrong nodes:", wrong)
	}
}

// roomyNode is a copy of a node, and all memory that its lists lie in.
func roomyNode(n impl.NodNode) (impl.NodNode, []any) {
	var all []any
	n = copyNode(n)
	for k := range n.Cells {
		c := &n.Cells[k]
		c.State.Regs, c.State.Mem, c.In = roomy(c.State.Regs, -7, &all), roomy(c.State.Mem, -7, &all), roomy(c.In, 0xA5, &all)
	}
	for _, boxes := range [][]impl.BoxBox{n.Out, n.In} {
		for k := range boxes {
			for i := range boxes[k].Items {
				boxes[k].Items[i] = roomy(boxes[k].Items[i], 0xA5, &all)
			}
			boxes[k].Items = roomy(boxes[k].Items, []byte{0xA5}, &all)
		}
	}
	n.Cells = roomy(n.Cells, impl.CelCell{In: []byte{0xA5}}, &all)
	n.Out, n.In = roomy(n.Out, impl.BoxBox{Depth: -7}, &all), roomy(n.In, impl.BoxBox{Depth: -7}, &all)
	n.Outs, n.Ins = roomy(n.Outs, impl.OutOut{Boot: -7}, &all), roomy(n.Ins, impl.InIn{Boot: -7}, &all)
	n.Heard.Boots, n.Heard.Seqs = roomy(n.Heard.Boots, -7, &all), roomy(n.Heard.Seqs, -7, &all)
	return n, all
}

// scribbleNode writes over all memory of a node and of sights, spare room included, and finds out whether two lists share any.
func scribbleNode(t *testing.T, name string, n impl.NodNode, seen []impl.CelSight) {
	t.Helper()
	var held [][]byte
	ints := [][]int{n.Heard.Boots, n.Heard.Seqs}
	var items [][][]byte
	for _, c := range n.Cells {
		held, ints = append(held, c.In), append(ints, c.State.Regs, c.State.Mem)
	}
	for _, b := range append(slices.Clone(n.Out), n.In...) {
		held, items = append(held, b.Items...), append(items, b.Items)
	}
	for _, s := range seen {
		held = append(held, s.Bytes)
	}
	checkApart(t, name, held...)
	checkListsApart(t, name, ints, -5, slices.Equal[[]int])
	checkListsApart(t, name, items, []byte{0xEE}, sameLists)
	checkListsApart(t, name, [][]impl.BoxBox{n.Out, n.In}, impl.BoxBox{Depth: -9}, func(a []impl.BoxBox, b []impl.BoxBox) bool { return slices.EqualFunc(a, b, sameBox) })
	scribble(n.Cells, impl.CelCell{})
	scribble(n.Outs, impl.OutOut{Boot: -9})
	scribble(n.Ins, impl.InIn{Boot: -9})
	scribble(seen, impl.CelSight{Kind: -9})
}

// checkNodeMemory calls with a plan and a node of which nothing may be written into, writes over the answer, and calls again.
func checkNodeMemory(t *testing.T, name string, p impl.PlnPlan, n impl.NodNode, call func(p impl.PlnPlan, n impl.NodNode) (impl.NodNode, []impl.CelSight)) {
	t.Helper()
	checkPlanUntouched(t, p, func(p impl.PlnPlan) {
		given, all := roomyNode(n)
		_, was := roomyNode(n)
		first, seen := call(p, given)
		node, sights := copyNode(first), copySights(seen)
		scribbleNode(t, name, first, seen)
		if !reflect.DeepEqual(all, was) {
			t.Fatalf("%s: %v was written into, or is shared with the answer", name, n)
		}
		if again, too := call(p, given); !sameNode(again, node) || !sameSights(too, sights) {
			t.Fatalf("%s: %v, and then %v", name, node, again)
		}
	})
}

func TestNodeMemory(t *testing.T) {
	d := &draw{x: 353}
	for _, p := range nodePlans(d, 500) {
		at := d.below(p.Nodes)
		n := drawNode(d, p, at)
		if d.below(5) == 0 {
			bendNode(d, &n)
		}
		cell := d.below(len(p.Cells))
		checkNodeMemory(t, "NodNew", p, n, func(p impl.PlnPlan, n impl.NodNode) (impl.NodNode, []impl.CelSight) { return impl.NodNew(p, at), nil })
		checkNodeMemory(t, "NodRise", p, n, func(p impl.PlnPlan, n impl.NodNode) (impl.NodNode, []impl.CelSight) {
			return impl.NodRise(p, n, at), nil
		})
		checkNodeMemory(t, "NodFall", p, n, func(p impl.PlnPlan, n impl.NodNode) (impl.NodNode, []impl.CelSight) {
			return impl.NodFall(p, n, at), nil
		})
		checkNodeMemory(t, "NodInput", p, n, func(p impl.PlnPlan, n impl.NodNode) (impl.NodNode, []impl.CelSight) {
			return impl.NodInput(p, n, at, cell, 9), nil
		})
		checkNodeMemory(t, "NodOk", p, n, func(p impl.PlnPlan, n impl.NodNode) (impl.NodNode, []impl.CelSight) {
			return impl.NodNode{Up: impl.NodOk(p, n, at)}, nil
		})
		for slot := range p.Slots {
			checkNodeMemory(t, "NodWindow", p, n, func(p impl.PlnPlan, n impl.NodNode) (impl.NodNode, []impl.CelSight) {
				return impl.NodWindow(p, n, at, slot)
			})
		}
		down := impl.NodFall(p, n, at)
		checkNodeMemory(t, "NodRise of one that is down", p, down, func(p impl.PlnPlan, n impl.NodNode) (impl.NodNode, []impl.CelSight) {
			return impl.NodRise(p, n, at), nil
		})
	}
}

// One list may stand in several places of a node; each turn changes just what is its own.
func TestNodeOneListTwice(t *testing.T) {
	p := handPlan(6, true, "read 0 1", "set 2 3", "store 2 2", "take 1 0 3", "send 0 0 1")
	list := [][]byte{{1}, {2, 3}}
	n := handNode(p)
	n.Out[0].Items, n.In[1].Items = list, list
	n.Cells[1].State, n.Cells[1].In = n.Cells[0].State, n.Cells[0].In
	n.Cells[1].State.Pc = 0
	after, seen := checkWindow(t, p, n, 0, 0)
	if len(seen) == 0 || !sameLists(list, [][]byte{{1}, {2, 3}}) || !sameCell(after.Cells[1], n.Cells[1]) || !same(after.Cells[1].In, []byte{5, 6}) {
		t.Error(after, seen, list)
	}
}

func TestNodeCellsAllEnd(t *testing.T) {
	p := mostPlan()
	n := impl.NodRise(p, impl.NodNew(p, 0), 0)
	before := runtime.NumGoroutine()
	for k := range 500 {
		n, _ = impl.NodWindow(p, n, 0, k%len(p.Slots))
	}
	// Those that have just said that they end may still be counted for a moment.
	for range 1000 {
		if runtime.NumGoroutine() <= before {
			return
		}
		runtime.Gosched()
	}
	t.Errorf("%d goroutines, and then %d", before, runtime.NumGoroutine())
}

func TestNodeManyAtOnce(t *testing.T) {
	d := &draw{x: 354}
	plans := nodePlans(d, 12)
	var all sync.WaitGroup
	for _, p := range plans {
		at := d.below(p.Nodes)
		n := drawUp(d, p, at)
		for range 3 {
			all.Add(1)
			go func() {
				defer all.Done()
				for slot := range p.Slots {
					want, wants := plainWindow(p, n, at, slot)
					if after, seen := impl.NodWindow(p, n, at, slot); !sameNode(after, want) || !sameSights(seen, wants) {
						t.Errorf("the slot %d of %v: %v %v", slot, n, after, seen)
					}
				}
			}()
		}
	}
	all.Wait()
}
