package tests

import (
	"bytes"
	"encoding/hex"
	"slices"
	"sync"
	"testing"

	"loop.example/casemate/impl"
)

// busPlan is a plan of three nodes. The ways 0, 1 and 5 lead from the node 0 to others (1 is guarded), 2 leads back, 6 from the node
// 2 to the node 1; 3 and 4 stay on the node 0 (4 is guarded). The way 0 and the node 0's hello have two slots each.
func busPlan() impl.PlnPlan {
	second := impl.GrdRule{Min: 2, Max: 8, At: 1, High: 99, Zero: 0, Cut: 3}
	return impl.PlnPlan{
		Nodes: 3, Secret: 77, Fuel: 4,
		Cells: []impl.PlnCell{{}, {Node: 1}, {Node: 2}, {}},
		Ways: []impl.PlnWay{
			{From: 0, To: 1, Depth: 2},
			{From: 0, To: 1, Depth: 1, Guarded: true, Guard: []impl.GrdRule{second, okRules[1]}},
			{From: 1, To: 0, Depth: 1},
			{From: 0, To: 3, Depth: 2},
			{From: 3, To: 0, Depth: 1, Guarded: true, Guard: []impl.GrdRule{second, okRules[1]}},
			{From: 3, To: 2, Depth: 4},
			{From: 2, To: 1, Depth: 3},
		},
		Slots: slotsOf([2]int{0, -1}, [2]int{1, -1}, [2]int{2, -1}, [2]int{0, 0}, [2]int{0, 1}, [2]int{1, 2},
			[2]int{0, 3}, [2]int{0, 4}, [2]int{0, 5}, [2]int{2, 6}, [2]int{0, 0}, [2]int{0, -1}),
		Turns: [][]int{{0, 3, -1, -1, -1, -1, -1, -1, -1, -1, -1, -1}, {1, -1, -1, -1, -1, -1, -1, -1, -1, -1, -1, -1}, {2, -1, -1, -1, -1, -1, -1, -1, -1, -1, -1, -1}},
	}
}

// busFrom is the node 0 of that plan in its life 7: it knows the node 1 in its life 9, and has heard the node 2 never.
func busFrom(p impl.PlnPlan) impl.NodNode {
	n := plainRise(p, plainBegin(p, 6), 0)
	n.Hello, n.Heard = 3, impl.HrdBook{Boots: []int{0, 9, 0}, Seqs: []int{0, 4, 0}}
	n.Outs[0], n.Outs[1] = impl.OutOut{Boot: 7, Peer: 9, Epoch: 1, Seq: 15}, impl.OutOut{Boot: 7, Peer: 9}
	n.Ins[2] = impl.InIn{Boot: 9, Epoch: 2, Seq: 5}
	n.Cells[0] = impl.CelCell{State: machine(0, [4]int{1, 2, 3, 4}, [8]int{1, 2, 3, 4, 5, 6, 7, 8}), In: []byte{5, 6}}
	n.Out[0].Items, n.Out[3].Items, n.In[2].Items = [][]byte{{1, 2, 3}, {4}}, [][]byte{{7, 7}}, [][]byte{{8}}
	return n
}

// busTo is the node 1 of that plan in its life 9, which has heard the node 0 in its life 7.
func busTo(p impl.PlnPlan) impl.NodNode {
	n := plainRise(p, plainBegin(p, 8), 1)
	n.Hello, n.Heard = 5, impl.HrdBook{Boots: []int{7, 0, 4}, Seqs: []int{2, 0, 60000}}
	n.Outs[2] = impl.OutOut{Boot: 9, Peer: 7, Epoch: 2, Seq: 5}
	n.Ins[0], n.Ins[6] = impl.InIn{Boot: 7, Epoch: 1, Seq: 15}, impl.InIn{Boot: 4, Epoch: 200, Seq: 16}
	n.In[0].Items, n.Cells[1].In = [][]byte{{9, 9}}, []byte{1}
	return n
}

// plainFrameKey is the key of a frame, straight along the document.
func plainFrameKey(p impl.PlnPlan, h impl.FrmHead) int {
	if h.Kind == 1 {
		return plainKey(p.Secret, h.From, 200, h.Boot, 0, 0)
	}
	return plainKey(p.Secret, h.From, h.Way, h.Boot, h.Peer, h.Epoch)
}

// plainFrame is a frame with any key and any body.
func plainFrame(key int, h impl.FrmHead, body []byte) []byte {
	head := plainHeadBytes(h)
	return append(slices.Clone(head), plainShut(key, h.Seq, head, body)...)
}

// plainBody is the body of a message, or of none.
func plainBody(m []byte, real bool) []byte {
	body := make([]byte, 9)
	if real {
		body[0] = byte(len(m) + 1)
		copy(body[1:], m)
	}
	return body
}

// plainSaid is a frame as a node says it, with a message or none.
func plainSaid(p impl.PlnPlan, h impl.FrmHead, m []byte, real bool) []byte {
	return plainFrame(plainFrameKey(p, h), h, plainBody(m, real))
}

// plainOpened is the message in a frame, whether there is one, and whether the frame opens and has a body.
func plainOpened(p impl.PlnPlan, h impl.FrmHead, b []byte) ([]byte, bool, bool) {
	key, coded := plainFrameKey(p, h), b[11:20]
	if tag := plainTag(key, h.Seq, b[:11], coded); !same(b[20:], []byte{byte(tag >> 24), byte(tag >> 16), byte(tag >> 8), byte(tag)}) {
		return nil, false, false
	}
	body := plainHidden(key, h.Seq, coded)
	size := int(body[0]) - 1
	if size > 8 || slices.ContainsFunc(body[1+max(size, 0):], func(c byte) bool { return c != 0 }) {
		return nil, false, false
	}
	if size < 0 {
		return nil, false, true
	}
	return body[1 : 1+size], true, true
}

// plainArrives lets a message come by a way, straight along the document.
func plainArrives(p impl.PlnPlan, n *impl.NodNode, way int, m []byte) int {
	w, box := p.Ways[way], &n.In[way]
	if w.Guarded {
		through, fine := plainDo(w.Guard, m)
		if !fine {
			return 8
		}
		m = through
	}
	if len(box.Items) == box.Depth {
		return 9
	}
	box.Items = append(box.Items, bytes.Clone(m))
	return 10
}

// plainSays is what a node puts on the bus, straight along the document.
func plainSays(p impl.PlnPlan, n impl.NodNode, at int, slot int) (impl.NodNode, []byte, bool) {
	if !plainNodeOk(p, n, at) || slot < 0 || slot >= len(p.Slots) {
		return impl.NodNode{}, nil, false
	}
	n = copyNode(n)
	s := p.Slots[slot]
	if !n.Up || s.Node != at {
		return n, nil, false
	}
	if s.Way == -1 {
		if n.Hello == 60000 {
			return n, nil, false
		}
		n.Hello++
		return n, plainSaid(p, impl.FrmHead{Kind: 1, From: at, To: 255, Way: 255, Boot: n.Boot, Seq: n.Hello - 1}, nil, false), false
	}
	_, to := plainEnds(p, s.Way)
	o := &n.Outs[s.Way]
	if to == at || o.Epoch == 200 {
		return n, nil, false
	}
	h := impl.FrmHead{Kind: 2, From: at, To: to, Way: s.Way, Boot: n.Boot, Peer: o.Peer, Epoch: o.Epoch, Seq: o.Seq}
	if o.Seq++; o.Seq == 16 {
		o.Seq, o.Epoch = 0, o.Epoch+1
	}
	box := &n.Out[s.Way]
	if h.Peer == 0 || len(box.Items) == 0 {
		return n, plainSaid(p, h, nil, false), false
	}
	m := box.Items[0]
	box.Items = box.Items[1:]
	return n, plainSaid(p, h, m, true), true
}

// plainMoves lets a message go from box to box, straight along the document.
func plainMoves(p impl.PlnPlan, n impl.NodNode, at int, slot int) (impl.NodNode, int) {
	if !plainNodeOk(p, n, at) || slot < 0 || slot >= len(p.Slots) {
		return impl.NodNode{}, 0
	}
	n = copyNode(n)
	s := p.Slots[slot]
	if !n.Up || s.Node != at || s.Way == -1 {
		return n, 0
	}
	if _, to := plainEnds(p, s.Way); to != at {
		return n, 0
	}
	box := &n.Out[s.Way]
	if len(box.Items) == 0 {
		return n, 7
	}
	m := box.Items[0]
	box.Items = box.Items[1:]
	return n, plainArrives(p, &n, s.Way, m)
}

// plainNotFor is why a frame is not for a node in a slot: 2, 3, or 0, if it is.
func plainNotFor(p impl.PlnPlan, n impl.NodNode, at int, slot int, h impl.FrmHead) int {
	s := p.Slots[slot]
	if h.From != s.Node || s.Way == -1 && h.Kind != 1 {
		return 2
	}
	if s.Way != -1 {
		if _, to := plainEnds(p, s.Way); h.Kind != 2 || h.Way != s.Way || h.To != to {
			return 2
		}
	}
	if h.From == at || h.Kind == 2 && (h.To != at || h.Peer != n.Boot) {
		return 3
	}
	return 0
}

// plainHears is what becomes of bytes, straight along the document.
func plainHears(p impl.PlnPlan, n impl.NodNode, at int, slot int, b []byte) (impl.NodNode, int) {
	if !plainNodeOk(p, n, at) || slot < 0 || slot >= len(p.Slots) {
		return impl.NodNode{}, 0
	}
	n = copyNode(n)
	if !n.Up {
		return n, 0
	}
	if len(b) != 24 || !plainHeadOk(plainHeadOf(b)) {
		return n, 1
	}
	h := plainHeadOf(b)
	if code := plainNotFor(p, n, at, slot, h); code != 0 {
		return n, code
	}
	m, real, ok := plainOpened(p, h, b)
	if !ok {
		return n, 4
	}
	if h.Kind == 1 {
		book, code := plainHear(n.Heard, hello{node: h.From, boot: h.Boot, seq: h.Seq})
		if code == 0 || code == 3 {
			return n, 5
		}
		n.Heard = book
		for k := range p.Ways {
			if from, to := plainEnds(p, k); from == at && to == h.From {
				n.Outs[k].Peer = max(n.Outs[k].Peer, h.Boot)
			}
		}
		return n, 6
	}
	if !plainFresh(n.Ins[h.Way], number{boot: h.Boot, epoch: h.Epoch, seq: h.Seq}) {
		return n, 5
	}
	n.Ins[h.Way] = impl.InIn{Boot: h.Boot, Epoch: h.Epoch, Seq: h.Seq + 1}
	if !real {
		return n, 7
	}
	return n, plainArrives(p, &n, h.Way, m)
}

// checkSays calls NodSays, and holds it against the document; the answer.
func checkSays(t *testing.T, p impl.PlnPlan, n impl.NodNode, at int, slot int) (impl.NodNode, []byte, bool) {
	t.Helper()
	want, frame, took := plainSays(p, n, at, slot)
	after, b, yes := impl.NodSays(p, n, at, slot)
	if !sameNode(after, want) || !same(b, frame) || yes != took {
		t.Fatalf("the slot %d at %d of %v\nin %v:\nsays %v %v %v\nnot  %v %v %v", slot, at, n, p, after, b, yes, want, frame, took)
	}
	return after, b, yes
}

// checkMoves calls NodMoves, and holds it against the document; the answer.
func checkMoves(t *testing.T, p impl.PlnPlan, n impl.NodNode, at int, slot int) (impl.NodNode, int) {
	t.Helper()
	want, wants := plainMoves(p, n, at, slot)
	after, code := impl.NodMoves(p, n, at, slot)
	if !sameNode(after, want) || code != wants {
		t.Fatalf("the slot %d at %d of %v\nin %v:\nmoves %v %d\nnot   %v %d", slot, at, n, p, after, code, want, wants)
	}
	return after, code
}

// checkHears calls NodHears, and holds it against the document; the answer.
func checkHears(t *testing.T, p impl.PlnPlan, n impl.NodNode, at int, slot int, b []byte) (impl.NodNode, int) {
	t.Helper()
	want, wants := plainHears(p, n, at, slot, b)
	after, code := impl.NodHears(p, n, at, slot, b)
	if !sameNode(after, want) || code != wants {
		t.Fatalf("the slot %d at %d of %v\nin %v\nhears %v: %v %d\nnot %v %d", slot, at, n, p, b, after, code, want, wants)
	}
	return after, code
}

// codes asks for the code of bytes that a node hears in a slot; what the node is then.
func codes(t *testing.T, name string, p impl.PlnPlan, n impl.NodNode, at int, slot int, b []byte, want int) impl.NodNode {
	t.Helper()
	after, code := checkHears(t, p, n, at, slot, b)
	if code != want {
		t.Fatalf("%s: the code %d, not %d", name, code, want)
	}
	if code <= impl.BusOld && !sameNode(after, n) {
		t.Fatalf("%s: with the code %d %v becomes %v", name, code, n, after)
	}
	return after
}

func TestBusValues(t *testing.T) {
	got := []int{impl.BusDown, impl.BusNoFrame, impl.BusNotNow, impl.BusNotMine, impl.BusShut, impl.BusOld, impl.BusHello,
		impl.BusEmpty, impl.BusRefused, impl.BusNoRoom, impl.BusBrought, impl.BusNobody}
	if !slices.Equal(got, []int{0, 1, 2, 3, 4, 5, 6, 7, 8, 9, 10, 200}) {
		t.Error(got)
	}
}

func TestBusPlansAreOk(t *testing.T) {
	p := busPlan()
	if code, at := plainPlan(p); code != 0 {
		t.Fatal(code, at)
	}
	if !plainNodeOk(p, busFrom(p), 0) || !plainNodeOk(p, busTo(p), 1) {
		t.Fatal("the nodes by hand are not ok")
	}
}

// says asks for the bytes, in digits to the base 16, that the node 0 by hand says when it has been changed; what it is then.
func says(t *testing.T, name string, slot int, how func(n *impl.NodNode), want string, took bool) impl.NodNode {
	t.Helper()
	p := busPlan()
	n := busFrom(p)
	how(&n)
	after, frame, yes := checkSays(t, p, n, 0, slot)
	if hex.EncodeToString(frame) != want || yes != took {
		t.Errorf("%s: %x, %v, not %s, %v", name, frame, yes, want, took)
	}
	if want == "" && !sameNode(after, n) {
		t.Errorf("%s: %v becomes %v", name, n, after)
	}
	return after
}

// What the frames are was reckoned apart from the program, from the document's words.
func TestP29SaysHello(t *testing.T) {
	const first = "0100ffff00070000000003b81807433b4ce2d11d5788d291"
	n := says(t, "a hello", 0, func(n *impl.NodNode) {}, first, false)
	if n.Hello != 4 {
		t.Error("behind a hello the next one is", n.Hello)
	}
	n.Hello = 3
	if !sameNode(n, busFrom(busPlan())) {
		t.Error("a hello changes more than the number of the next one:", n)
	}
	says(t, "the node's other slot for a hello", 11, func(n *impl.NodNode) {}, first, false)
	last := func(n *impl.NodNode) {
		n.Boot, n.Hello = 60000, 59999
		n.Outs[0].Boot, n.Outs[1].Boot, n.Outs[5].Boot = 60000, 60000, 60000
	}
	n = says(t, "the last hello", 0, last, "0100ffffea60000000ea5fb06863a1f63da1969ac43128ca", false)
	if n.Hello != impl.HrdMaxSeq {
		t.Error("behind the last hello:", n.Hello)
	}
	says(t, "behind the last hello", 0, func(n *impl.NodNode) { n.Hello = impl.HrdMaxSeq }, "", false)
	says(t, "behind the last hello, a word", 4, func(n *impl.NodNode) {
		n.Hello, n.Out[1].Items, n.Outs[1] = impl.HrdMaxSeq, [][]byte{{1, 2, 3}}, n.Outs[0]
	},
		hex.EncodeToString(plainSaid(busPlan(), impl.FrmHead{Kind: 2, To: 1, Way: 1, Boot: 7, Peer: 9, Epoch: 1, Seq: 15}, []byte{1, 2, 3}, true)), true)
}

func TestP29SaysWord(t *testing.T) {
	n := says(t, "a word", 3, func(n *impl.NodNode) {}, "020001000007000901000fac71c8271596c69f0981c83094", true)
	if n.Outs[0] != (impl.OutOut{Boot: 7, Peer: 9, Epoch: 2}) || !sameLists(n.Out[0].Items, [][]byte{{4}}) {
		t.Error("behind a word:", n.Outs[0], n.Out[0])
	}
	n.Outs[0], n.Out[0].Items = impl.OutOut{Boot: 7, Peer: 9, Epoch: 1, Seq: 15}, [][]byte{{1, 2, 3}, {4}}
	if !sameNode(n, busFrom(busPlan())) {
		t.Error("a word changes more than its half and its box:", n)
	}
	says(t, "the way's other slot", 10, func(n *impl.NodNode) {}, "020001000007000901000fac71c8271596c69f0981c83094", true)
	half := func(seq int, items ...[]byte) func(n *impl.NodNode) {
		return func(n *impl.NodNode) {
			n.Heard.Boots[2], n.Outs[5], n.Out[5].Items = 60000, impl.OutOut{Boot: 7, Peer: 60000, Epoch: 199, Seq: seq}, items
		}
	}
	eight := slices.Repeat([]byte{255}, 8)
	n = says(t, "the last number, the longest message", 8, half(15, eight), "020002050007ea60c7000f6470cb679439eac46d54afd5db", true)
	if n.Outs[5] != (impl.OutOut{Boot: 7, Peer: 60000, Epoch: 200}) || len(n.Out[5].Items) != 0 {
		t.Error("behind the last number:", n.Outs[5], n.Out[5])
	}
	n = says(t, "a message of no byte, out of a full box", 8, half(14, nil, eight, nil, eight), "020002050007ea60c7000ec7e9c62e667e9db61644e6a424", true)
	if n.Outs[5] != (impl.OutOut{Boot: 7, Peer: 60000, Epoch: 199, Seq: 15}) || !sameLists(n.Out[5].Items, [][]byte{eight, nil, eight}) {
		t.Error("behind the last number but one:", n.Outs[5], n.Out[5])
	}
	n = says(t, "no message", 8, half(14), "020002050007ea60c7000ec6e9c62e667e9db616f14cc422", false)
	if n.Outs[5] != (impl.OutOut{Boot: 7, Peer: 60000, Epoch: 199, Seq: 15}) {
		t.Error("no message costs a number too:", n.Outs[5])
	}
}

// To nobody a word is said without a message, and what waits goes on waiting.
func TestP29SaysToNobody(t *testing.T) {
	const word = "0200010000070000000000bf95bf30e655ee09c98f219a28"
	for _, items := range [][][]byte{nil, {{1}}, {{1, 2}, nil}} {
		n := says(t, "to nobody", 3, func(n *impl.NodNode) { n.Outs[0], n.Out[0].Items = impl.OutOut{Boot: 7}, items }, word, false)
		if n.Outs[0] != (impl.OutOut{Boot: 7, Seq: 1}) || !sameLists(n.Out[0].Items, items) {
			t.Error("said to nobody:", n.Outs[0], n.Out[0])
		}
	}
	says(t, "to nobody, the book knows better", 3, func(n *impl.NodNode) { n.Outs[0], n.Heard.Boots[1] = impl.OutOut{Boot: 7}, 60000 }, word, false)
}

func TestP29SaysNothing(t *testing.T) {
	for _, seq := range []int{0, 1, 15} {
		says(t, "no number left", 3, func(n *impl.NodNode) { n.Outs[0].Epoch, n.Outs[0].Seq = 200, seq }, "", false)
		says(t, "no number left, to nobody", 3, func(n *impl.NodNode) { n.Outs[0] = impl.OutOut{Boot: 7, Epoch: 200, Seq: seq} }, "", false)
	}
	for _, slot := range []int{1, 2, 5, 6, 7, 9} {
		says(t, "another node's slot, or a way that stays", slot, func(n *impl.NodNode) { n.Out[4].Items = [][]byte{{1, 2}} }, "", false)
	}
	for slot := range 12 {
		for _, boot := range []int{0, 1, 60000} {
			says(t, "down", slot, func(n *impl.NodNode) { *n = plainBegin(busPlan(), boot) }, "", false)
		}
	}
	p := busPlan()
	for _, slot := range append([]int{-12, -1, 12, 13, 255, 256}, farInts...) {
		for _, n := range []impl.NodNode{busFrom(p), plainBegin(p, 3)} {
			if after, frame, took := impl.NodSays(p, n, 0, slot); !noNode(after) || len(frame) != 0 || took {
				t.Error("no such slot, but", slot, after, frame, took)
			}
		}
	}
}

// The secret goes into each frame, at its edges too.
func TestP29SaysBySecret(t *testing.T) {
	d, seen := &draw{x: 292}, map[string]bool{}
	for _, secret := range []int{0, 1, 77, 4294967295, 65536 + d.below(65536), 2147483648} {
		p := busPlan()
		p.Secret = secret
		for _, slot := range []int{0, 3} {
			_, frame, _ := checkSays(t, p, busFrom(p), 0, slot)
			if seen[string(frame)] {
				t.Error("two secrets say the same:", frame)
			}
			seen[string(frame)] = true
		}
	}
}

// otherBody gives a node cells and boxes of its own, and leaves all else.
func otherBody(d *draw, p impl.PlnPlan, n impl.NodNode, at int) impl.NodNode {
	other := drawUp(d, p, at)
	n = copyNode(n)
	n.Cells, n.Out, n.In = other.Cells, other.Out, other.In
	return n
}

func TestP29AHeadHangsOnNoCell(t *testing.T) {
	d, hellos, words, taken := &draw{x: 29}, 0, 0, 0
	for _, p := range append(nodePlans(d, 1200), busPlan()) {
		for at := range p.Nodes {
			for slot := range p.Slots {
				n := drawUp(d, p, at)
				first, one, took := checkSays(t, p, n, at, slot)
				second, other, too := checkSays(t, p, otherBody(d, p, n, at), at, slot)
				if len(one) != len(other) || len(one) > 0 && !same(one[:11], other[:11]) {
					t.Fatalf("the slot %d at %d of %v: %v and %v", slot, at, n, one, other)
				}
				second.Cells, second.Out, second.In = first.Cells, first.Out, first.In
				if !sameNode(first, second) || !impl.NodOk(p, first, at) {
					t.Fatalf("the slot %d at %d of %v leaves the tunnels %v and %v", slot, at, n, first, second)
				}
				switch {
				case len(one) == 0:
				case one[0] == 1:
					hellos++
				case took != too:
					taken++
				default:
					words++
				}
			}
		}
	}
	if hellos < 2000 || words < 1000 || taken < 300 {
		t.Error("too few of a sort:", hellos, words, taken)
	}
}

// moved asks for the code of the node 0 by hand, when it has been changed, in a slot; what it is then.
func moved(t *testing.T, name string, slot int, want int, how func(p *impl.PlnPlan, n *impl.NodNode)) impl.NodNode {
	t.Helper()
	p := busPlan()
	n := busFrom(p)
	how(&p, &n)
	after, code := checkMoves(t, p, n, 0, slot)
	if code != want {
		t.Errorf("%s: the code %d, not %d", name, code, want)
	}
	if want == impl.BusDown || want == impl.BusEmpty {
		if !sameNode(after, n) {
			t.Errorf("%s: %v becomes %v", name, n, after)
		}
	}
	return after
}

func TestP33MovesDownAndEmpty(t *testing.T) {
	full := func(p *impl.PlnPlan, n *impl.NodNode) { n.Out[4].Items = [][]byte{{1, 2}} }
	for _, slot := range []int{0, 1, 2, 3, 4, 5, 8, 9, 10, 11} {
		moved(t, "a hello's slot, another node's, or of a way that leads away", slot, impl.BusDown, full)
	}
	for slot := range 12 {
		moved(t, "down", slot, impl.BusDown, func(p *impl.PlnPlan, n *impl.NodNode) { *n = plainBegin(*p, 7) })
	}
	moved(t, "empty", 7, impl.BusEmpty, func(p *impl.PlnPlan, n *impl.NodNode) {})
	moved(t, "empty, with a message at the end", 6, impl.BusEmpty, func(p *impl.PlnPlan, n *impl.NodNode) { n.Out[3].Items, n.In[3].Items = nil, [][]byte{{1}} })
	p := busPlan()
	for _, slot := range append([]int{-12, -1, 12, 13, 255, 256}, farInts...) {
		for _, n := range []impl.NodNode{busFrom(p), plainBegin(p, 3)} {
			if after, code := impl.NodMoves(p, n, 0, slot); !noNode(after) || code != 0 {
				t.Error("no such slot, but", slot, after, code)
			}
		}
	}
}

func TestP33Moves(t *testing.T) {
	n := moved(t, "without a guard", 6, impl.BusBrought, func(p *impl.PlnPlan, n *impl.NodNode) {
		n.Out[3].Items, n.In[3].Items = [][]byte{{7, 7}, {6}}, [][]byte{{5}}
	})
	if !sameLists(n.Out[3].Items, [][]byte{{6}}) || !sameLists(n.In[3].Items, [][]byte{{5}, {7, 7}}) {
		t.Error("from box to box:", n.Out[3], n.In[3])
	}
	n = moved(t, "no room", 6, impl.BusNoRoom, func(p *impl.PlnPlan, n *impl.NodNode) { n.In[3].Items = [][]byte{{5}, nil} })
	if len(n.Out[3].Items) != 0 || !sameLists(n.In[3].Items, [][]byte{{5}, nil}) {
		t.Error("no room:", n.Out[3], n.In[3])
	}
	for _, m := range [][]byte{nil, {0}, {9}, upward(8)} {
		n = moved(t, "as it is", 6, impl.BusBrought, func(p *impl.PlnPlan, n *impl.NodNode) { n.Out[3].Items = [][]byte{m} })
		if !sameLists(n.In[3].Items, [][]byte{m}) {
			t.Error("as it is:", m, n.In[3])
		}
	}
}

func TestP33MovesThroughItsGuard(t *testing.T) {
	for _, c := range []struct {
		m    []byte
		code int
		in   [][]byte
	}{
		{[]byte{9, 99}, impl.BusBrought, [][]byte{{0, 99}}},
		{[]byte{9, 99, 8, 7}, impl.BusBrought, [][]byte{{0, 99, 8}}},
		{[]byte{9, 100}, impl.BusRefused, nil},
		{[]byte{9}, impl.BusRefused, nil},
		{nil, impl.BusBrought, [][]byte{nil}},
		{[]byte{1, 2, 3, 4, 5, 6, 7, 8}, impl.BusBrought, [][]byte{{0, 2, 3}}},
	} {
		n := moved(t, "guarded", 7, c.code, func(p *impl.PlnPlan, n *impl.NodNode) { n.Out[4].Items = [][]byte{c.m} })
		if len(n.Out[4].Items) != 0 || !sameLists(n.In[4].Items, c.in) {
			t.Error("guarded:", c, n.Out[4], n.In[4])
		}
		// A guard without rules lets nothing through; what is refused is so even if there is no room.
		n = moved(t, "shut", 7, impl.BusRefused, func(p *impl.PlnPlan, n *impl.NodNode) { p.Ways[4].Guard, n.Out[4].Items = nil, [][]byte{c.m} })
		if len(n.Out[4].Items) != 0 || len(n.In[4].Items) != 0 {
			t.Error("shut:", c, n.Out[4], n.In[4])
		}
		full := min(c.code, impl.BusNoRoom)
		n = moved(t, "guarded and full", 7, full, func(p *impl.PlnPlan, n *impl.NodNode) {
			n.Out[4].Items, n.In[4].Items = [][]byte{c.m}, [][]byte{{1}}
		})
		if len(n.Out[4].Items) != 0 || !sameLists(n.In[4].Items, [][]byte{{1}}) {
			t.Error("guarded and full:", c, n.Out[4], n.In[4])
		}
	}
}

func TestP33MovesDrawn(t *testing.T) {
	d := &draw{x: 33}
	kinds := make([]int, 11)
	for _, p := range append(nodePlans(d, 3000), busPlan()) {
		for at := range p.Nodes {
			n := drawNode(d, p, at)
			for slot := -1; slot <= len(p.Slots); slot++ {
				after, code := checkMoves(t, p, n, at, slot)
				kinds[code]++
				if slot < 0 || slot == len(p.Slots) {
					continue
				}
				if code == impl.BusDown || code == impl.BusEmpty {
					if !sameNode(after, n) {
						t.Fatalf("with the code %d %v becomes %v", code, n, after)
					}
					continue
				}
				way := p.Slots[slot].Way
				checkMoved(t, p, n, after, way, code)
				after.Out[way], after.In[way] = n.Out[way], n.In[way]
				if !sameNode(after, n) {
					t.Fatalf("the way %d moves more than its boxes: %v, and then %v", way, n, after)
				}
			}
		}
	}
	for code, many := range kinds {
		if (code == 0 || code >= 7) != (many > 50) || (code > 0 && code < 7) != (many == 0) {
			t.Errorf("the code %d comes %d times", code, many)
		}
	}
}

// checkMoved holds what has become of the boxes of a way against the promise.
func checkMoved(t *testing.T, p impl.PlnPlan, was impl.NodNode, is impl.NodNode, way int, code int) {
	t.Helper()
	m := was.Out[way].Items[0]
	through, fine := m, true
	if p.Ways[way].Guarded {
		through, fine = impl.GrdDo(p.Ways[way].Guard, m)
	}
	in, want := was.In[way].Items, impl.BusBrought
	switch {
	case !fine:
		want = impl.BusRefused
	case len(in) == p.Ways[way].Depth:
		want = impl.BusNoRoom
	default:
		in = append(slices.Clone(in), through)
	}
	if code != want || !sameLists(is.Out[way].Items, was.Out[way].Items[1:]) || !sameLists(is.In[way].Items, in) || !impl.NodOk(p, is, p.Cells[p.Ways[way].From].Node) {
		t.Fatalf("the way %d moves %v and %v to %v and %v, with the code %d", way, was.Out[way], was.In[way], is.Out[way], is.In[way], code)
	}
}

// busWord is the head of a word that the node 1 by hand awaits by the way 0.
var busWord = impl.FrmHead{Kind: 2, From: 0, To: 1, Way: 0, Boot: 7, Peer: 9, Epoch: 1, Seq: 15}

// busHello is the head of a hello that the node 1 by hand has not heard yet.
var busHello = impl.FrmHead{Kind: 1, From: 0, To: 255, Way: 255, Boot: 7, Seq: 3}

// heard asks for the code of bytes that the node 1 by hand hears in a slot; what it is then.
func heard(t *testing.T, name string, slot int, b []byte, want int) impl.NodNode {
	t.Helper()
	p := busPlan()
	return codes(t, name, p, busTo(p), 1, slot, b, want)
}

// The first code that holds is told: what is wrong in all ways is mended step by step.
func TestP31FirstCodeOfAWord(t *testing.T) {
	p := busPlan()
	p.Ways[0].Guarded, p.Ways[0].Guard = true, p.Ways[1].Guard
	n, down := busTo(p), plainBegin(p, 9)
	n.In[0].Items = [][]byte{{1}, {2}}
	refused, fine := plainBody([]byte{1, 100}, true), plainBody([]byte{1, 99}, true)
	h := impl.FrmHead{Kind: 2, From: 2, To: 0, Way: 1, Boot: 7, Peer: 8, Epoch: 1, Seq: 14}
	other := func(h impl.FrmHead, body []byte) []byte { return plainFrame(1, h, body) }
	codes(t, "down, and too short", p, down, 1, 3, other(h, refused)[:23], impl.BusDown)
	codes(t, "down", p, down, 1, 3, other(h, refused), impl.BusDown)
	codes(t, "too short", p, n, 1, 3, other(h, refused)[:23], impl.BusNoFrame)
	wrong := h
	wrong.To = h.From
	codes(t, "no head", p, n, 1, 3, other(wrong, refused), impl.BusNoFrame)
	codes(t, "from another node", p, n, 1, 3, other(h, refused), impl.BusNotNow)
	h.From, h.To = 0, 2
	codes(t, "by another way, and to another node", p, n, 1, 3, other(h, refused), impl.BusNotNow)
	h.Way = 0
	codes(t, "not to where the way ends", p, n, 1, 3, other(h, refused), impl.BusNotNow)
	h.To, h.Way = 1, 1
	codes(t, "by another way that ends here", p, n, 1, 3, other(h, refused), impl.BusNotNow)
	h.Way = 0
	codes(t, "for another life", p, n, 1, 3, other(h, refused), impl.BusNotMine)
	h.Peer = 9
	codes(t, "by another key", p, n, 1, 3, other(h, refused), impl.BusShut)
	codes(t, "no body", p, n, 1, 3, plainFrame(plainFrameKey(p, h), h, []byte{10, 1, 1, 1, 1, 1, 1, 1, 1}), impl.BusShut)
	codes(t, "old", p, n, 1, 3, plainFrame(plainFrameKey(p, h), h, refused), impl.BusOld)
	h.Seq = 15
	codes(t, "no message", p, n, 1, 3, plainSaid(p, h, nil, false), impl.BusEmpty)
	codes(t, "refused, and no room", p, n, 1, 3, plainFrame(plainFrameKey(p, h), h, refused), impl.BusRefused)
	codes(t, "no room", p, n, 1, 3, plainFrame(plainFrameKey(p, h), h, fine), impl.BusNoRoom)
	n.In[0].Items = n.In[0].Items[:1]
	codes(t, "refused", p, n, 1, 3, plainFrame(plainFrameKey(p, h), h, refused), impl.BusRefused)
	codes(t, "brought", p, n, 1, 3, plainFrame(plainFrameKey(p, h), h, fine), impl.BusBrought)
}

func TestP31FirstCodeOfAHello(t *testing.T) {
	p := busPlan()
	n, down := busTo(p), plainBegin(p, 9)
	h := busHello
	h.From, h.Seq = 2, 2
	other := plainFrame(1, h, plainBody(nil, false))
	codes(t, "down", p, down, 1, 0, other, impl.BusDown)
	codes(t, "too long", p, n, 1, 0, append(other, 0), impl.BusNoFrame)
	codes(t, "from another node", p, n, 1, 0, other, impl.BusNotNow)
	codes(t, "in a way's slot", p, n, 1, 9, other, impl.BusNotNow)
	own := busHello
	own.From = 1
	codes(t, "from itself, by another key", p, n, 1, 1, plainFrame(1, own, plainBody(nil, false)), impl.BusNotMine)
	codes(t, "from itself", p, n, 1, 1, plainSaid(p, own, nil, false), impl.BusNotMine)
	h.From = 0
	codes(t, "a word's slot", p, n, 1, 3, plainSaid(p, busHello, nil, false), impl.BusNotNow)
	codes(t, "a word in a hello's slot", p, n, 1, 0, plainSaid(p, busWord, nil, false), impl.BusNotNow)
	codes(t, "by another key", p, n, 1, 0, plainFrame(1, h, plainBody(nil, false)), impl.BusShut)
	codes(t, "by the key of a word", p, n, 1, 0, plainFrame(plainKey(77, 0, 0, 7, 0, 0), h, plainBody(nil, false)), impl.BusShut)
	codes(t, "no body", p, n, 1, 0, plainFrame(plainFrameKey(p, h), h, []byte{0, 0, 0, 0, 0, 0, 0, 0, 1}), impl.BusShut)
	codes(t, "old", p, n, 1, 0, plainSaid(p, h, nil, false), impl.BusOld)
	codes(t, "a hello", p, n, 1, 0, plainSaid(p, busHello, nil, false), impl.BusHello)
	codes(t, "a hello in the other slot", p, n, 1, 11, plainSaid(p, busHello, nil, false), impl.BusHello)
	codes(t, "a hello at another node", p, plainRise(p, plainBegin(p, 0), 2), 2, 0, plainSaid(p, busHello, nil, false), impl.BusHello)
}

// Words to somebody else, in a slot of their way and in one of another way.
func TestP31NotMine(t *testing.T) {
	p := busPlan()
	word := plainSaid(p, busWord, []byte{1}, true)
	third := plainRise(p, plainBegin(p, 8), 2)
	codes(t, "another node", p, third, 2, 3, word, impl.BusNotMine)
	codes(t, "the node that says it", p, busFrom(p), 0, 3, word, impl.BusNotMine)
	codes(t, "in the way's other slot", p, third, 2, 10, word, impl.BusNotMine)
	for _, peer := range []int{0, 1, 8, 10, 60000, 65535} {
		h := busWord
		h.Peer = peer
		heard(t, "another life", 3, plainSaid(p, h, []byte{1}, true), impl.BusNotMine)
	}
	for _, slot := range []int{0, 1, 2, 4, 5, 6, 7, 8, 9, 11} {
		heard(t, "in another slot", slot, word, impl.BusNotNow)
	}
}

func TestP31WhichNumberIsOld(t *testing.T) {
	p := busPlan()
	for _, c := range []struct {
		in    impl.InIn
		n     number
		fresh bool
	}{
		{impl.InIn{}, number{1, 0, 0}, true},
		{impl.InIn{Boot: 7, Epoch: 1, Seq: 5}, number{7, 1, 5}, true},
		{impl.InIn{Boot: 7, Epoch: 1, Seq: 5}, number{7, 1, 4}, false},
		{impl.InIn{Boot: 7, Epoch: 1, Seq: 5}, number{7, 1, 6}, true},
		{impl.InIn{Boot: 7, Epoch: 1, Seq: 5}, number{7, 1, 15}, true},
		{impl.InIn{Boot: 7, Epoch: 1, Seq: 5}, number{7, 1, 16}, false},
		{impl.InIn{Boot: 7, Epoch: 1, Seq: 5}, number{7, 0, 15}, false},
		{impl.InIn{Boot: 7, Epoch: 1, Seq: 5}, number{7, 2, 0}, true},
		{impl.InIn{Boot: 7, Epoch: 1, Seq: 5}, number{7, 255, 0}, false},
		{impl.InIn{Boot: 7, Epoch: 1, Seq: 5}, number{6, 200, 15}, false},
		{impl.InIn{Boot: 7, Epoch: 1, Seq: 5}, number{8, 0, 0}, true},
		{impl.InIn{Boot: 7, Epoch: 1, Seq: 16}, number{7, 1, 15}, false},
		{impl.InIn{Boot: 7, Epoch: 1, Seq: 16}, number{7, 2, 0}, true},
		{impl.InIn{Boot: 7, Epoch: 200, Seq: 15}, number{7, 200, 15}, true},
		{impl.InIn{Boot: 7, Epoch: 200, Seq: 16}, number{7, 200, 15}, false},
		{impl.InIn{Boot: 7, Epoch: 200, Seq: 15}, number{7, 201, 15}, false},
		{impl.InIn{Boot: 60000, Epoch: 200, Seq: 16}, number{60001, 0, 0}, false},
		{impl.InIn{Boot: 60000, Epoch: 200, Seq: 16}, number{65535, 0, 0}, false},
		{impl.InIn{Boot: 59999, Epoch: 200, Seq: 16}, number{60000, 0, 0}, true},
		{impl.InIn{}, number{1, 0, 65535}, false},
	} {
		n := busTo(p)
		n.Ins[0] = c.in
		h := busWord
		h.Boot, h.Epoch, h.Seq = c.n.boot, c.n.epoch, c.n.seq
		for _, real := range []bool{false, true} {
			code := impl.BusOld
			if c.fresh && real {
				code = impl.BusBrought
			} else if c.fresh {
				code = impl.BusEmpty
			}
			after := codes(t, "a number", p, n, 1, 3, plainSaid(p, h, nil, real), code)
			if c.fresh && after.Ins[0] != (impl.InIn{Boot: c.n.boot, Epoch: c.n.epoch, Seq: c.n.seq + 1}) {
				t.Error("behind", c, "is awaited", after.Ins[0])
			}
		}
	}
}

// A number is heard whatever becomes of its message.
func TestP31WhatDoesNotComeIsHeard(t *testing.T) {
	p := busPlan()
	h := busWord
	h.Way = 1
	for _, c := range []struct {
		m    []byte
		in   [][]byte
		code int
	}{
		{[]byte{1}, nil, impl.BusRefused}, {[]byte{1, 2}, [][]byte{{1}}, impl.BusNoRoom}, {[]byte{1, 2}, nil, impl.BusBrought},
	} {
		n := busTo(p)
		n.In[1].Items = c.in
		b := plainSaid(p, h, c.m, true)
		after := codes(t, "a word", p, n, 1, 4, b, c.code)
		if after.Ins[1] != (impl.InIn{Boot: 7, Epoch: 1, Seq: 16}) {
			t.Error(after.Ins[1])
		}
		codes(t, "once more", p, after, 1, 4, b, impl.BusOld)
		after.In[1].Items = nil
		codes(t, "once more, with room", p, after, 1, 4, b, impl.BusOld)
	}
}

func TestP31Hellos(t *testing.T) {
	p := busPlan()
	for _, c := range []struct {
		boot, seq int
		code      int
	}{
		{7, 1, impl.BusOld}, {7, 2, impl.BusOld}, {7, 3, impl.BusHello}, {7, 60000, impl.BusHello}, {7, 60001, impl.BusOld}, {7, 65535, impl.BusOld},
		{6, 60000, impl.BusOld}, {1, 3, impl.BusOld}, {8, 0, impl.BusHello}, {8, 2, impl.BusHello}, {60000, 0, impl.BusHello},
		{60000, 60000, impl.BusHello}, {60001, 3, impl.BusOld}, {65535, 0, impl.BusOld},
	} {
		h := busHello
		h.Boot, h.Seq = c.boot, c.seq
		b := plainSaid(p, h, nil, false)
		n := heard(t, "a hello", 0, b, c.code)
		codes(t, "the same hello", p, n, 1, 0, b, impl.BusOld)
		codes(t, "the same hello in the other slot", p, n, 1, 11, b, impl.BusOld)
		codes(t, "the same hello in another node's slot", p, n, 1, 2, b, impl.BusNotNow)
		codes(t, "the same hello in a way's slot", p, n, 1, 3, b, impl.BusNotNow)
		if c.code != impl.BusHello {
			continue
		}
		want := busTo(p)
		want.Heard.Boots[0], want.Heard.Seqs[0], want.Outs[2].Peer = c.boot, c.seq, c.boot
		if !sameNode(n, want) {
			t.Error("behind", c, "the node is", n)
		}
	}
}

// A hello says in which life a node is to all ways that lead there, and to no other one.
func TestP34AllWaysThere(t *testing.T) {
	p := busPlan()
	h := busHello
	h.From, h.Boot, h.Seq = 1, 12, 0
	n := busFrom(p)
	n.Outs[1].Peer = 0
	after := codes(t, "a later life", p, n, 0, 1, plainSaid(p, h, nil, false), impl.BusHello)
	want := copyNode(n)
	want.Heard.Boots[1], want.Heard.Seqs[1], want.Outs[0].Peer, want.Outs[1].Peer = 12, 0, 12, 12
	if !sameNode(after, want) {
		t.Error("a later life:", after)
	}
	// A later hello of the same life tells it to a way that has not learnt it.
	h.Boot, h.Seq = 9, 5
	after = codes(t, "the same life", p, n, 0, 1, plainSaid(p, h, nil, false), impl.BusHello)
	if after.Outs[0] != n.Outs[0] || after.Outs[1] != (impl.OutOut{Boot: 7, Peer: 9}) || after.Outs[5] != n.Outs[5] {
		t.Error("the same life:", after.Outs)
	}
	h.From, h.Boot, h.Seq = 2, 60000, 0
	after = codes(t, "the third node", p, n, 0, 2, plainSaid(p, h, nil, false), impl.BusHello)
	want = copyNode(n)
	want.Heard.Boots[2], want.Outs[5].Peer = 60000, 60000
	if !sameNode(after, want) {
		t.Error("the third node:", after)
	}
	// Who has no way to a node knows it all the same.
	third := plainRise(p, plainBegin(p, 8), 2)
	after = codes(t, "no way there", p, third, 2, 0, plainSaid(p, busHello, nil, false), impl.BusHello)
	third.Heard = impl.HrdBook{Boots: []int{7, 0, 0}, Seqs: []int{3, 0, 0}}
	if !sameNode(after, third) {
		t.Error("no way there:", after)
	}
}

// What a hello has in its body is a body, and no more: it comes nowhere.
func TestP32HelloWithAMessage(t *testing.T) {
	p := busPlan()
	plain := heard(t, "a hello", 0, plainSaid(p, busHello, nil, false), impl.BusHello)
	for _, m := range [][]byte{nil, {1}, {1, 2}, upward(8)} {
		if n := heard(t, "a hello with a message", 0, plainSaid(p, busHello, m, true), impl.BusHello); !sameNode(n, plain) {
			t.Errorf("a hello with %v: %v", m, n)
		}
	}
}

func TestP32Brings(t *testing.T) {
	p := busPlan()
	for _, m := range [][]byte{nil, {0}, {7}, {0, 0}, upward(8)} {
		n := heard(t, "a word", 3, plainSaid(p, busWord, m, true), impl.BusBrought)
		want := busTo(p)
		want.Ins[0], want.In[0].Items = impl.InIn{Boot: 7, Epoch: 1, Seq: 16}, [][]byte{{9, 9}, m}
		if !sameNode(n, want) {
			t.Errorf("the message %v: %v", m, n)
		}
		codes(t, "once more", p, n, 1, 3, plainSaid(p, busWord, m, true), impl.BusOld)
		codes(t, "once more in the other slot", p, n, 1, 10, plainSaid(p, busWord, m, true), impl.BusOld)
		next := busWord
		next.Epoch, next.Seq = 2, 0
		codes(t, "the next one", p, n, 1, 10, plainSaid(p, next, m, true), impl.BusNoRoom)
	}
	n := heard(t, "no message", 3, plainSaid(p, busWord, nil, false), impl.BusEmpty)
	if !sameLists(n.In[0].Items, [][]byte{{9, 9}}) {
		t.Error("no message:", n.In[0])
	}
}

func TestP32BringsThroughItsGuard(t *testing.T) {
	p := busPlan()
	h := busWord
	h.Way = 1
	for _, c := range []struct {
		m    []byte
		code int
		in   [][]byte
	}{
		{[]byte{9, 99}, impl.BusBrought, [][]byte{{0, 99}}}, {[]byte{9, 99, 8, 7}, impl.BusBrought, [][]byte{{0, 99, 8}}},
		{[]byte{9, 100}, impl.BusRefused, nil}, {[]byte{9}, impl.BusRefused, nil}, {nil, impl.BusBrought, [][]byte{nil}},
		{[]byte{1, 2, 3, 4, 5, 6, 7, 8}, impl.BusBrought, [][]byte{{0, 2, 3}}},
	} {
		n := heard(t, "guarded", 4, plainSaid(p, h, c.m, true), c.code)
		if !sameLists(n.In[1].Items, c.in) {
			t.Errorf("%v: %v", c, n.In[1])
		}
		shut := busPlan()
		shut.Ways[1].Guard = nil
		codes(t, "shut", shut, busTo(shut), 1, 4, plainSaid(p, h, c.m, true), impl.BusRefused)
	}
	if n := heard(t, "no message for a guard", 4, plainSaid(p, h, nil, false), impl.BusEmpty); len(n.In[1].Items) != 0 {
		t.Error(n.In[1])
	}
}

// wrongBodies are bytes of a body's length, one of which is not as FrmFill makes it.
func wrongBodies() [][]byte {
	var out [][]byte
	for _, first := range []byte{10, 11, 128, 255} {
		out = append(out, []byte{first, 0, 0, 0, 0, 0, 0, 0, 0}, []byte{first, 1, 2, 3, 4, 5, 6, 7, 8})
	}
	for size := range 8 {
		for at := 1 + size; at <= 8; at++ {
			body := plainBody(upward(size), true)
			body[at] = 1
			none := plainBody(nil, false)
			none[at] = 255
			out = append(out, body, none)
		}
	}
	return out
}

func TestP32OpensAndIsNoBody(t *testing.T) {
	p := busPlan()
	for _, body := range wrongBodies() {
		for _, c := range []struct {
			h    impl.FrmHead
			slot int
		}{{busHello, 0}, {busWord, 3}} {
			heard(t, "no body", c.slot, plainFrame(plainFrameKey(p, c.h), c.h, body), impl.BusShut)
		}
	}
}

// Whatever byte of a frame is turned, it does nothing.
func TestP32Bent(t *testing.T) {
	p := busPlan()
	for _, c := range []struct {
		b    []byte
		slot int
	}{{plainSaid(p, busHello, nil, false), 0}, {plainSaid(p, busWord, []byte{1, 2}, true), 3}, {plainSaid(p, busWord, nil, false), 3}} {
		for at := range c.b {
			for v := 1; v <= 255; v += 1 + at%3 {
				bent := slices.Clone(c.b)
				bent[at] ^= byte(v)
				if n, code := checkHears(t, p, busTo(p), 1, c.slot, bent); code > impl.BusShut || !sameNode(n, busTo(p)) {
					t.Fatalf("the byte %d turned by %d: %d", at, v, code)
				}
				if at >= 11 {
					heard(t, "bent behind its head", c.slot, bent, impl.BusShut)
				}
			}
		}
		for size := range 40 {
			if size != 24 {
				heard(t, "of another length", c.slot, append(slices.Clone(c.b), c.b...)[:size], impl.BusNoFrame)
			}
		}
		heard(t, "far too long", c.slot, slices.Repeat(c.b, 100), impl.BusNoFrame)
		heard(t, "of noughts", c.slot, make([]byte, 24), impl.BusNoFrame)
		heard(t, "of ones", c.slot, slices.Repeat([]byte{255}, 24), impl.BusNoFrame)
	}
}

// A frame opens by its own key alone, which all of its head but To goes into; and its head is tagged.
func TestP32SealedOtherwise(t *testing.T) {
	p := busPlan()
	for _, c := range []struct {
		h    impl.FrmHead
		slot int
	}{{busHello, 0}, {busWord, 3}} {
		h, seven := c.h, plainBody([]byte{7}, true)
		to := 200
		if h.Kind == 2 {
			to = h.Way
		}
		parts := [6]int{p.Secret, h.From, to, h.Boot, h.Peer, h.Epoch}
		for place := range parts {
			for _, more := range []int{1, 2, 100} {
				k := parts
				k[place] += more
				heard(t, "by another key", c.slot, plainFrame(plainKey(k[0], k[1], k[2], k[3], k[4], k[5]), h, seven), impl.BusShut)
			}
		}
		for _, key := range []int{0, 1, 4294967295} {
			heard(t, "by any key", c.slot, plainFrame(key, h, seven), impl.BusShut)
		}
		fields, _ := headFields(&h)
		for place, f := range fields {
			was := *f
			for _, n := range []int{was - 1, was + 1, 0, 1, 2, 3, 255} {
				*f = n
				if n == was || !plainHeadOk(h) {
					continue
				}
				// What was sealed for the right head, behind another one; and what is sealed for that.
				moved := append(plainHeadBytes(h), plainSaid(p, c.h, []byte{7}, true)[11:]...)
				if after, code := checkHears(t, p, busTo(p), 1, c.slot, moved); code > impl.BusShut || !sameNode(after, busTo(p)) {
					t.Errorf("the head %v: %d", h, code)
				}
				_, code := checkHears(t, p, busTo(p), 1, c.slot, plainSaid(p, h, []byte{7}, true))
				if place < 4 && code > impl.BusNotMine {
					t.Errorf("the head %v: %d", h, code)
				}
			}
			*f = was
		}
	}
}

// drawWord is the head of a word for a slot of a way, its numbers near to those that the node at its end awaits.
func drawWord(d *draw, p impl.PlnPlan, n impl.NodNode, s impl.PlnSlot) impl.FrmHead {
	from, to := plainEnds(p, s.Way)
	i := n.Ins[s.Way]
	near := func(at int, most int) int { return max(0, min(most, at+[]int{0, 0, 0, 1, -1, 2}[d.below(6)])) }
	return impl.FrmHead{Kind: 2, From: from, To: to, Way: s.Way, Boot: max(1, near(i.Boot, 65535)), Peer: n.Boot, Epoch: near(i.Epoch, 255), Seq: near(i.Seq, 20)}
}

// drawHello is the head of a hello for a slot, its numbers near to those that the node's book has.
func drawHello(d *draw, n impl.NodNode, s impl.PlnSlot) impl.FrmHead {
	boot, seq := n.Heard.Boots[s.Node], n.Heard.Seqs[s.Node]
	return impl.FrmHead{Kind: 1, From: s.Node, To: 255, Way: 255, Boot: max(1, boot+d.below(3)-1), Seq: max(0, seq+d.below(3)-1)}
}

// drawFrame is a frame that is about what a node may hear in a slot: the head of another slot now and then, one field changed, another
// key, any body, a byte turned.
func drawFrame(d *draw, p impl.PlnPlan, n impl.NodNode, slot int) []byte {
	if d.below(12) == 0 {
		slot = d.below(len(p.Slots))
	}
	s := p.Slots[slot]
	h := drawHello(d, n, s)
	if s.Way >= 0 {
		h = drawWord(d, p, n, s)
	}
	if d.below(10) == 0 {
		fields, _ := headFields(&h)
		*fields[d.below(8)] = []int{0, 1, 2, 3, 9, 255}[d.below(6)]
	}
	key, m := plainFrameKey(p, h), drawMessage(d)
	body := plainBody(m, true)
	switch d.below(12) {
	case 0, 1:
		body = plainBody(nil, false)
	case 2:
		body = d.bytes(9)
	case 3:
		key++
	}
	b := plainFrame(key, h, body)
	if d.below(12) == 0 {
		b[d.below(24)] ^= byte(1 + d.below(255))
	}
	if d.below(40) == 0 {
		b = b[:d.below(24)]
	}
	return b
}

// checkChanged holds what a node is behind NodHears against the promises.
func checkChanged(t *testing.T, p impl.PlnPlan, was impl.NodNode, is impl.NodNode, at int, slot int, b []byte, code int) {
	t.Helper()
	rest, way := copyNode(is), p.Slots[slot].Way
	switch {
	case code == impl.BusHello:
		h := plainHeadOf(b)
		for k := range p.Ways {
			if from, to := plainEnds(p, k); from == at && to == h.From {
				if is.Outs[k].Peer != h.Boot {
					t.Fatalf("the way %d has not learnt %v: %v", k, h, is.Outs[k])
				}
				rest.Outs[k].Peer = was.Outs[k].Peer
			}
		}
		if is.Heard.Boots[h.From] != h.Boot || is.Heard.Seqs[h.From] != h.Seq {
			t.Fatalf("the book has not noted %v: %v", h, is.Heard)
		}
		rest.Heard.Boots[h.From], rest.Heard.Seqs[h.From] = was.Heard.Boots[h.From], was.Heard.Seqs[h.From]
	case code >= impl.BusEmpty:
		rest.Ins[way] = was.Ins[way]
		if want := plainCame(p, was, way, b, code); !sameLists(is.In[way].Items, want) {
			t.Fatalf("the way %d brings %v, not %v, with the code %d", way, is.In[way].Items, want, code)
		}
		rest.In[way] = was.In[way]
	}
	if !sameNode(rest, was) || !impl.NodOk(p, is, at) {
		t.Fatalf("with the code %d %v becomes %v", code, was, is)
	}
}

// plainCame is what In of a way has behind a word that was heard with a code: a message more just with BusBrought.
func plainCame(p impl.PlnPlan, was impl.NodNode, way int, b []byte, code int) [][]byte {
	m, _, _ := plainOpened(p, plainHeadOf(b), b)
	if p.Ways[way].Guarded {
		m, _ = impl.GrdDo(p.Ways[way].Guard, m)
	}
	if code == impl.BusBrought {
		return append(copyLists(was.In[way].Items), m)
	}
	return was.In[way].Items
}

func TestP32HearsDrawn(t *testing.T) {
	d := &draw{x: 32}
	kinds := make([]int, 11)
	for _, p := range append(nodePlans(d, 1800), busPlan()) {
		for at := range p.Nodes {
			n := drawNode(d, p, at)
			for slot := range p.Slots {
				b := drawFrame(d, p, n, slot)
				after, code := checkHears(t, p, n, at, slot, b)
				kinds[code]++
				checkChanged(t, p, n, after, at, slot, b, code)
				if code < impl.BusHello {
					continue
				}
				for again := range p.Slots {
					want := impl.BusNotNow
					if p.Slots[again] == p.Slots[slot] {
						want = impl.BusOld
					}
					codes(t, "heard again", p, after, at, again, b, want)
				}
				n = after
			}
		}
	}
	for code, many := range kinds {
		if many < 60 {
			t.Errorf("the code %d comes %d times", code, many)
		}
	}
}

// talk is all nodes of a plan, and what has been said among them.
type talk struct {
	plan  impl.PlnPlan
	nodes []impl.NodNode
	said  [][]byte
}

// slot lets each node have its turn, and the slot's one move and say; what that says is heard by each other one, if it is not lost.
func (w *talk) slot(t *testing.T, d *draw, slot int, kinds []int) {
	t.Helper()
	for at := range w.nodes {
		w.nodes[at], _ = checkWindow(t, w.plan, w.nodes[at], at, slot)
	}
	node := w.plan.Slots[slot].Node
	var b []byte
	w.nodes[node], _ = checkMoves(t, w.plan, w.nodes[node], node, slot)
	w.nodes[node], b, _ = checkSays(t, w.plan, w.nodes[node], node, slot)
	if len(b) > 0 {
		w.said = append(w.said, b)
	}
	switch d.below(8) {
	case 0:
		return
	case 1:
		if len(w.said) > 0 {
			b = w.said[d.below(len(w.said))]
		}
	}
	for at := range w.nodes {
		if at != node && len(b) > 0 {
			after, code := checkHears(t, w.plan, w.nodes[at], at, slot, b)
			kinds[code]++
			w.nodes[at] = after
			if code >= impl.BusHello {
				codes(t, "at once again", w.plan, after, at, slot, b, impl.BusOld)
			}
		}
	}
}

// Nodes that talk for some rounds, fall and rise: all that is said has its own number, and nothing is heard twice.
func TestP31NodesTalk(t *testing.T) {
	d := &draw{x: 312}
	kinds := make([]int, 11)
	for _, p := range append(nodePlans(d, 400), busPlan(), examplePlan(), mostPlan()) {
		w := talk{plan: p}
		for at := range p.Nodes {
			w.nodes = append(w.nodes, impl.NodRise(p, impl.NodNew(p, at), at))
		}
		for now := range 6 * len(p.Slots) {
			if at := d.below(p.Nodes); d.below(12) == 0 {
				w.nodes[at] = impl.NodFall(p, w.nodes[at], at)
			}
			if at := d.below(p.Nodes); d.below(4) == 0 {
				w.nodes[at] = impl.NodRise(p, w.nodes[at], at)
			}
			w.slot(t, d, now%len(p.Slots), kinds)
		}
		numbers := map[impl.FrmHead]bool{}
		for _, b := range w.said {
			h := plainHeadOf(b)
			h.To, h.Peer = 0, 0
			if numbers[h] {
				t.Fatalf("the number of %v is used twice", plainHeadOf(b))
			}
			numbers[h] = true
		}
	}
	for _, code := range []int{impl.BusDown, impl.BusNotNow, impl.BusNotMine, impl.BusOld, impl.BusHello, impl.BusEmpty, impl.BusBrought} {
		if kinds[code] < 30 {
			t.Errorf("the code %d comes %d times", code, kinds[code])
		}
	}
}

// A slot of one's own has one frame that is right, with the node, its life and its number at its head; any other one has none.
func TestP28OneFrameInEachSlotOfOnesOwn(t *testing.T) {
	d, said, none := &draw{x: 28}, 0, 0
	for _, p := range append(nodePlans(d, 1200), busPlan()) {
		for at := range p.Nodes {
			n := drawNode(d, p, at)
			for slot, s := range p.Slots {
				w := impl.WldWorld{Plan: p, Nodes: make([]impl.NodNode, p.Nodes), Now: slot}
				w.Nodes[at] = n
				want := impl.FrmHead{}
				if s.Node == at {
					want = ownHead(w)
				}
				after, b, took := checkSays(t, p, n, at, slot)
				if want.Kind == 0 {
					if none++; len(b) != 0 || took || !sameNode(after, n) {
						t.Fatalf("the slot %d at %d of %v has the frame %v, and then it is %v", slot, at, n, b, after)
					}
					continue
				}
				if said++; len(b) != impl.FrmLen || !impl.WldRight(p, b) || !plainRight(p, b) || plainHeadOf(b) != want || want.From != at || want.Boot != n.Boot {
					t.Fatalf("the slot %d at %d of %v has the frame %v, not %v", slot, at, n, b, want)
				}
			}
		}
	}
	if said < 2000 || none < 5000 {
		t.Error("too few of a sort:", said, none)
	}
}

// A word that is right, and for this node in this life, is opened; what is not right changes nothing.
func TestP30WhatIsSaidIsOpened(t *testing.T) {
	d, opened, wrong := &draw{x: 30}, 0, 0
	for _, p := range append(nodePlans(d, 1500), busPlan()) {
		for at := range p.Nodes {
			n := drawNode(d, p, at)
			for slot, s := range p.Slots {
				b := drawFrame(d, p, n, slot)
				after, code := impl.NodHears(p, n, at, slot, b)
				if !impl.WldRight(p, b) {
					if wrong++; code > impl.BusShut || !sameNode(after, n) {
						t.Fatalf("%v is not right, and heard with %d: %v, and then %v", b, code, n, after)
					}
					continue
				}
				h := plainHeadOf(b)
				if n.Up && h.Kind == impl.FrmWord && h.Way == s.Way && h.From == s.Node && h.From != at && h.To == at && h.Peer == n.Boot {
					_, to := plainEnds(p, s.Way)
					if to != at {
						continue
					}
					if opened++; code != impl.BusOld && code < impl.BusEmpty {
						t.Fatalf("%v is for %v, but heard with %d", b, n, code)
					}
				}
			}
		}
	}
	if opened < 300 || wrong < 1000 {
		t.Error("too few of a sort:", opened, wrong)
	}
}

// What one node says in a slot its other end opens, from its first number to its last one.
func TestP30SaidAndOpened(t *testing.T) {
	d, p := &draw{x: 301}, busPlan()
	for range 400 {
		a, b := drawUp(d, p, 0), drawUp(d, p, 1)
		for k := range 2 {
			a.Heard.Boots[1], a.Outs[k].Peer = b.Boot, b.Boot
			b.Ins[k] = impl.InIn{Boot: a.Boot, Epoch: a.Outs[k].Epoch, Seq: a.Outs[k].Seq}
		}
		for _, slot := range []int{3, 4, 10} {
			after, frame, took := checkSays(t, p, a, 0, slot)
			a = after
			if len(frame) == 0 {
				continue
			}
			heard, code := checkHears(t, p, b, 1, slot, frame)
			if !impl.WldRight(p, frame) || code < impl.BusEmpty || took != (code > impl.BusEmpty) {
				t.Fatalf("%v is said, and heard with %d", frame, code)
			}
			b = heard
		}
	}
}

// silent says that the three functions answer nothing of a node.
func silent(t *testing.T, name string, p impl.PlnPlan, n impl.NodNode, at int, slot int, b []byte) {
	t.Helper()
	if after, frame, took := impl.NodSays(p, n, at, slot); !noNode(after) || len(frame) != 0 || took {
		t.Fatalf("%s: it says %v and %v, and is %v", name, frame, took, after)
	}
	if after, code := impl.NodMoves(p, n, at, slot); !noNode(after) || code != 0 {
		t.Fatalf("%s: it moves with %d, and is %v", name, code, after)
	}
	if after, code := impl.NodHears(p, n, at, slot, b); !noNode(after) || code != 0 {
		t.Fatalf("%s: it hears with %d, and is %v", name, code, after)
	}
}

func TestBusNothingOfWrongPlans(t *testing.T) {
	d := &draw{x: 313}
	p := basePlan()
	up, down := drawUp(d, p, 1), plainBegin(p, 4)
	hello := plainSaid(p, impl.FrmHead{Kind: 1, To: 255, Way: 255, Boot: 60000, Seq: 60000}, nil, false)
	for _, broken := range breaks() {
		wrong := basePlan()
		broken(&wrong)
		for slot := -1; slot < 8; slot++ {
			silent(t, "a wrong plan", wrong, up, 1, slot, hello)
			silent(t, "a wrong plan", wrong, down, 1, slot, hello)
		}
	}
	silent(t, "nothing", impl.PlnPlan{}, impl.NodNode{}, 0, 0, hello)
	silent(t, "nothing", impl.PlnPlan{}, impl.NodNode{}, 0, 0, nil)
}

func TestBusNothingOfWrongNodes(t *testing.T) {
	d, p := &draw{x: 314}, busPlan()
	hello, word := plainSaid(p, busHello, nil, false), plainSaid(p, busWord, []byte{1}, true)
	for _, at := range append([]int{-1, 3, 4, 255, 256}, farInts...) {
		silent(t, "no such place", p, busFrom(p), at, 0, hello)
		silent(t, "no such place", p, plainBegin(p, 3), at, 0, hello)
	}
	silent(t, "another place", p, busFrom(p), 1, 3, word)
	silent(t, "no node", p, impl.NodNode{}, 0, 0, hello)
	silent(t, "a node of another plan", p, drawUp(d, basePlan(), 0), 0, 0, hello)
	for _, slot := range append([]int{-12, -1, 12, 13, 24, 255, 256}, farInts...) {
		silent(t, "no such slot", p, busTo(p), 1, slot, word)
		silent(t, "no such slot, and down", p, plainBegin(p, 9), 1, slot, word)
	}
	wrong := 0
	for range 2500 {
		p := drawPlan(d)
		at := d.below(p.Nodes)
		n := copyNode(drawNode(d, p, at))
		b := drawFrame(d, p, n, d.below(len(p.Slots)))
		bendNode(d, &n)
		for slot := range p.Slots {
			checkSays(t, p, n, at, slot)
			checkMoves(t, p, n, at, slot)
			checkHears(t, p, n, at, slot, b)
			if !plainNodeOk(p, n, at) {
				silent(t, "a bent node", p, n, at, slot, b)
				wrong++
			}
		}
	}
	if wrong < 4000 {
		t.Error("too few wrong nodes:", wrong)
	}
}

// checkBusMemory calls with bytes too, of which nothing may be written into, or lie in the answer.
func checkBusMemory(t *testing.T, p impl.PlnPlan, n impl.NodNode, at int, slot int, b []byte) {
	t.Helper()
	checkNodeMemory(t, "NodSays", p, n, func(p impl.PlnPlan, n impl.NodNode) (impl.NodNode, []impl.CelSight) {
		after, frame, _ := impl.NodSays(p, n, at, slot)
		return after, sights{{Bytes: frame}}
	})
	checkNodeMemory(t, "NodMoves", p, n, func(p impl.PlnPlan, n impl.NodNode) (impl.NodNode, []impl.CelSight) {
		after, _ := impl.NodMoves(p, n, at, slot)
		return after, nil
	})
	given := fence(b, 0xA5)
	checkNodeMemory(t, "NodHears", p, n, func(p impl.PlnPlan, n impl.NodNode) (impl.NodNode, []impl.CelSight) {
		after, _ := impl.NodHears(p, n, at, slot, given.list)
		return after, nil
	})
	if !given.untouched() {
		t.Fatalf("the bytes %v were written into, or are shared with the answer", b)
	}
}

func TestBusMemory(t *testing.T) {
	d, p := &draw{x: 315}, busPlan()
	for slot := range p.Slots {
		checkBusMemory(t, p, busFrom(p), 0, slot, plainSaid(p, busHello, nil, false))
		checkBusMemory(t, p, busTo(p), 1, slot, plainSaid(p, busWord, []byte{1, 2, 3}, true))
		checkBusMemory(t, p, busTo(p), 1, slot, plainSaid(p, busHello, nil, false))
	}
	for _, p := range nodePlans(d, 250) {
		at := d.below(p.Nodes)
		n := drawNode(d, p, at)
		for slot := range p.Slots {
			checkBusMemory(t, p, n, at, slot, drawFrame(d, p, n, slot))
		}
		bendNode(d, &n)
		checkBusMemory(t, p, n, at, 0, d.bytes(24))
	}
}

// One list may stand in several places of a node: only the box that is meant changes.
func TestBusOneListTwice(t *testing.T) {
	p := busPlan()
	list := [][]byte{{1, 2}}
	n := busFrom(p)
	n.Out[0].Items, n.Out[1].Items, n.Out[3].Items, n.Out[4].Items, n.In[2].Items, n.In[3].Items = list, list, list, list, list, list
	after, _, took := checkSays(t, p, n, 0, 4)
	if !took || len(after.Out[1].Items) != 0 || len(after.Out[0].Items) != 1 {
		t.Error(after.Out)
	}
	after, code := checkMoves(t, p, n, 0, 6)
	if code != impl.BusBrought || len(after.Out[3].Items) != 0 || len(after.Out[4].Items) != 1 || len(after.In[2].Items) != 1 || len(after.In[3].Items) != 2 {
		t.Error(code, after.Out, after.In)
	}
	if !sameLists(list, [][]byte{{1, 2}}) {
		t.Error(list)
	}
}

func TestBusManyAtOnce(t *testing.T) {
	p := busPlan()
	from, to, word := busFrom(p), busTo(p), plainSaid(busPlan(), busWord, []byte{1}, true)
	var all sync.WaitGroup
	for range 8 {
		all.Add(1)
		go func() {
			defer all.Done()
			for slot := range p.Slots {
				want, frame, _ := plainSays(p, from, 0, slot)
				if after, b, _ := impl.NodSays(p, from, 0, slot); !sameNode(after, want) || !same(b, frame) {
					t.Errorf("the slot %d says %v", slot, b)
				}
				want, _ = plainMoves(p, from, 0, slot)
				if after, _ := impl.NodMoves(p, from, 0, slot); !sameNode(after, want) {
					t.Errorf("the slot %d moves %v", slot, after)
				}
				want, _ = plainHears(p, to, 1, slot, word)
				if after, _ := impl.NodHears(p, to, 1, slot, word); !sameNode(after, want) {
					t.Errorf("the slot %d hears %v", slot, after)
				}
			}
		}()
	}
	all.Wait()
}
