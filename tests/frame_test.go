package tests

import (
	"math"
	"testing"

	"loop.example/casemate/impl"
)

// A hello and a word, and the same with the least and with the greatest of each number.
var okHeads = []impl.FrmHead{
	{Kind: 1, From: 2, To: 255, Way: 255, Boot: 300, Seq: 258},
	{Kind: 1, From: 0, To: 255, Way: 255, Boot: 1, Seq: 0},
	{Kind: 1, From: 3, To: 255, Way: 255, Boot: 65535, Seq: 65535},
	{Kind: 2, From: 2, To: 1, Way: 7, Boot: 300, Peer: 513, Epoch: 9, Seq: 258},
	{Kind: 2, From: 1, To: 0, Way: 0, Boot: 1, Peer: 0, Epoch: 0, Seq: 0},
	{Kind: 2, From: 0, To: 3, Way: 9, Boot: 65535, Peer: 65535, Epoch: 255, Seq: 65535},
	{Kind: 2, From: 3, To: 2, Way: 9, Boot: 65535, Peer: 65535, Epoch: 255, Seq: 65535},
}

// headFields has a head's fields, in the order in which they are written, and how many bytes each one has.
func headFields(h *impl.FrmHead) ([]*int, []int) {
	return []*int{&h.Kind, &h.From, &h.To, &h.Way, &h.Boot, &h.Peer, &h.Epoch, &h.Seq}, []int{1, 1, 1, 1, 2, 2, 1, 2}
}

func plainBetween(n int, low int, high int) bool {
	return n >= low && n <= high
}

func plainHeadOk(h impl.FrmHead) bool {
	if !plainBetween(h.From, 0, 3) || !plainBetween(h.Boot, 1, 65535) || !plainBetween(h.Seq, 0, 65535) {
		return false
	}
	if h.Kind == 1 {
		return h.To == 255 && h.Way == 255 && h.Peer == 0 && h.Epoch == 0
	}
	return h.Kind == 2 && plainBetween(h.To, 0, 3) && h.To != h.From && plainBetween(h.Way, 0, 9) && plainBetween(h.Peer, 0, 65535) && plainBetween(h.Epoch, 0, 255)
}

func plainHeadBytes(h impl.FrmHead) []byte {
	var out []byte
	fields, sizes := headFields(&h)
	for k, f := range fields {
		if sizes[k] == 2 {
			out = append(out, byte(*f/256))
		}
		out = append(out, byte(*f%256))
	}
	return out
}

func plainHeadOf(b []byte) impl.FrmHead {
	var h impl.FrmHead
	fields, sizes := headFields(&h)
	for k, f := range fields {
		for range sizes[k] {
			*f = *f*256 + int(b[0])
			b = b[1:]
		}
	}
	return h
}

// nearHeads are the heads that are ok, and each with one or two fields at, next to and far from a bound.
func nearHeads() []impl.FrmHead {
	near := append([]int{-1, 0, 1, 2, 3, 4, 9, 10, 254, 255, 256, 65534, 65535, 65536}, farInts...)
	var out []impl.FrmHead
	for _, h := range okHeads {
		out = append(out, h)
		for place := range 8 {
			for _, n := range near {
				one := h
				fields, _ := headFields(&one)
				*fields[place] = n
				out = append(out, one)
				for other := range place {
					for _, m := range near {
						two := one
						fields, _ := headFields(&two)
						*fields[other] = m
						out = append(out, two)
					}
				}
			}
		}
	}
	return out
}

func TestFrameValues(t *testing.T) {
	if impl.FrmHello != 1 || impl.FrmWord != 2 || impl.FrmAll != 255 || impl.FrmHeadLen != 11 || impl.FrmBodyLen != 9 || impl.FrmLen != 24 || impl.FrmMaxNode != 3 || impl.FrmMaxWay != 9 {
		t.Error("the numbers of frames are not the document's")
	}
}

func TestFrameHeadOk(t *testing.T) {
	for _, h := range okHeads {
		if !impl.FrmHeadOk(h) {
			t.Errorf("%v is ok", h)
		}
	}
	for _, h := range nearHeads() {
		if impl.FrmHeadOk(h) != plainHeadOk(h) {
			t.Fatalf("%v: %v", h, impl.FrmHeadOk(h))
		}
	}
	for _, h := range []impl.FrmHead{{}, {Kind: 1, To: 255, Way: 255}, {Kind: 2, From: 1, To: 1, Boot: 1}, {Kind: math.MaxInt, From: 1, To: 2, Boot: 1}} {
		if impl.FrmHeadOk(h) {
			t.Errorf("%v is not ok", h)
		}
	}
}

func TestP48HeadBytes(t *testing.T) {
	want := []byte{2, 2, 1, 7, 1, 44, 2, 1, 9, 1, 2}
	if got := impl.FrmHeadBytes(okHeads[3]); !same(got, want) {
		t.Errorf("%v, not %v", got, want)
	}
	want = []byte{1, 2, 255, 255, 1, 44, 0, 0, 0, 1, 2}
	if got := impl.FrmHeadBytes(okHeads[0]); !same(got, want) {
		t.Errorf("%v, not %v", got, want)
	}
	for _, h := range nearHeads() {
		got := impl.FrmHeadBytes(h)
		if !plainHeadOk(h) {
			if len(got) != 0 {
				t.Fatalf("%v: %v", h, got)
			}
		} else if len(got) != 11 || !same(got, plainHeadBytes(h)) {
			t.Fatalf("%v: %v", h, got)
		}
	}
}

func TestP48TakeOfPut(t *testing.T) {
	shut := upward(13)
	for _, h := range nearHeads() {
		b := impl.FrmPut(h, shut)
		if !plainHeadOk(h) {
			if len(b) != 0 {
				t.Fatalf("%v: %v", h, b)
			}
			continue
		}
		if len(b) != 24 || !same(b[:11], plainHeadBytes(h)) || !same(b[11:], shut) {
			t.Fatalf("%v: %v", h, b)
		}
		if got, rest, ok := impl.FrmTake(b); !ok || got != h || !same(rest, shut) {
			t.Fatalf("%v is read as %v, %v, %v", h, got, rest, ok)
		}
	}
}

func TestP48PutOfOtherSizes(t *testing.T) {
	for _, h := range okHeads {
		for n := 0; n <= 30; n++ {
			if got := impl.FrmPut(h, make([]byte, n)); (len(got) == 24) != (n == 13) || n != 13 && len(got) != 0 {
				t.Errorf("%d bytes behind the head: %v", n, got)
			}
		}
		if got := impl.FrmPut(h, make([]byte, 0, 13)); len(got) != 0 {
			t.Errorf("spare room counts: %v", got)
		}
	}
}

// checkTake holds FrmTake of FrmLen bytes against what the document says.
func checkTake(t *testing.T, b []byte) {
	t.Helper()
	want := plainHeadOf(b)
	h, rest, ok := impl.FrmTake(b)
	if ok != plainHeadOk(want) {
		t.Fatalf("%v: %v", b, ok)
	}
	if !ok {
		if h != (impl.FrmHead{}) || len(rest) != 0 {
			t.Fatalf("%v is not read, but answers %v, %v", b, h, rest)
		}
		return
	}
	if h != want || !same(rest, b[11:]) {
		t.Fatalf("%v is read as %v, %v", b, h, rest)
	}
	if !same(impl.FrmPut(h, rest), b) {
		t.Fatalf("%v is written as %v", b, impl.FrmPut(h, rest))
	}
}

func TestP49PutOfTake(t *testing.T) {
	for _, h := range okHeads {
		b := append(plainHeadBytes(h), upward(13)...)
		for place := range b {
			for v := range 256 {
				one := append([]byte{}, b...)
				one[place] = byte(v)
				checkTake(t, one)
			}
		}
	}
	d := &draw{x: 49}
	for range 20000 {
		b := d.bytes(24)
		b[0], b[1], b[2], b[3] = byte(d.below(4)), byte(d.below(5)), byte(d.below(5)), byte(d.below(11))
		checkTake(t, b)
	}
}

func TestP49OtherSizes(t *testing.T) {
	for _, h := range okHeads {
		long := append(plainHeadBytes(h), upward(60)...)
		for n := 0; n <= len(long); n++ {
			got, rest, ok := impl.FrmTake(long[:n])
			if ok != (n == 24) || !ok && (got != (impl.FrmHead{}) || len(rest) != 0) {
				t.Errorf("%d bytes: %v, %v, %v", n, got, rest, ok)
			}
		}
	}
	if _, _, ok := impl.FrmTake(nil); ok {
		t.Error("nothing is a frame")
	}
}

func TestP50SpillOfFill(t *testing.T) {
	d := &draw{x: 50}
	for n := 0; n <= 12; n++ {
		for _, m := range [][]byte{make([]byte, n), upward(n), d.bytes(n)} {
			body := impl.FrmFill(m, true)
			if n > 8 {
				if len(body) != 0 {
					t.Errorf("%v makes the body %v", m, body)
				}
				continue
			}
			want := make([]byte, 9)
			want[0] = byte(n + 1)
			copy(want[1:], m)
			if !same(body, want) {
				t.Errorf("%v makes the body %v", m, body)
			}
			if got, real, ok := impl.FrmSpill(body); !ok || !real || !same(got, m) {
				t.Errorf("%v is read as %v, %v, %v", body, got, real, ok)
			}
		}
	}
}

func TestP50NoMessage(t *testing.T) {
	for _, m := range [][]byte{nil, {}, make([]byte, 0, 8)} {
		body := impl.FrmFill(m, false)
		if !same(body, make([]byte, 9)) {
			t.Errorf("none makes the body %v", body)
		}
		if got, real, ok := impl.FrmSpill(body); !ok || real || len(got) != 0 {
			t.Errorf("none is read as %v, %v, %v", got, real, ok)
		}
	}
	for n := 1; n <= 12; n++ {
		for _, m := range [][]byte{make([]byte, n), upward(n)} {
			if body := impl.FrmFill(m, false); len(body) != 0 {
				t.Errorf("%v, though none, makes the body %v", m, body)
			}
		}
	}
}

// checkSpill holds FrmSpill against what FrmFill makes by the document's words.
func checkSpill(t *testing.T, body []byte) {
	t.Helper()
	want := len(body) == 9 && body[0] <= 9
	for k := 1; want && k < 9; k++ {
		// Behind the message, or where there is none, noughts alone stand.
		want = body[k] == 0 || k < int(body[0])
	}
	m, real, ok := impl.FrmSpill(body)
	if ok != want {
		t.Fatalf("%v: %v", body, ok)
	}
	if !ok {
		if real || len(m) != 0 {
			t.Fatalf("%v is no body, but answers %v, %v", body, m, real)
		}
		return
	}
	if real != (body[0] > 0) || real && !same(m, body[1:body[0]]) || !real && len(m) != 0 {
		t.Fatalf("%v is read as %v, %v", body, m, real)
	}
	if !same(impl.FrmFill(m, real), body) {
		t.Fatalf("%v is made again as %v", body, impl.FrmFill(m, real))
	}
}

func TestP50FillOfSpill(t *testing.T) {
	for first := range 256 {
		for place := range 9 {
			for _, v := range []byte{0, 1, 9, 255} {
				body := make([]byte, 9)
				body[place] = v
				body[0] = byte(first)
				checkSpill(t, body)
				body = append([]byte{byte(first)}, upward(8)...)
				for k := max(place, 1); k < 9; k++ {
					body[k] = 0
				}
				checkSpill(t, body)
			}
		}
	}
	for n := 0; n <= 20; n++ {
		for first := range 12 {
			body := make([]byte, n)
			if n > 0 {
				body[0] = byte(first)
			}
			checkSpill(t, body)
		}
	}
	checkSpill(t, nil)
}

func TestFrameMemory(t *testing.T) {
	for _, h := range append(okHeads, impl.FrmHead{}) {
		checkMemory(t, "FrmHeadBytes", func([][]byte) []byte { return impl.FrmHeadBytes(h) })
		for _, n := range []int{0, 12, 13, 14} {
			checkMemory(t, "FrmPut", func(list [][]byte) []byte { return impl.FrmPut(h, list[0]) }, upward(n))
		}
		for _, n := range []int{0, 12, 13, 14} {
			checkMemory(t, "FrmTake", func(list [][]byte) []byte {
				_, rest, _ := impl.FrmTake(list[0])
				return rest
			}, append(plainHeadBytes(h), upward(n)...))
		}
	}
	for n := 0; n <= 10; n++ {
		for _, real := range []bool{true, false} {
			checkMemory(t, "FrmFill", func(list [][]byte) []byte { return impl.FrmFill(list[0], real) }, upward(n))
		}
		body := make([]byte, 9)
		body[0] = byte(n)
		for _, b := range [][]byte{body, upward(n), impl.FrmFill(upward(n), true)} {
			checkMemory(t, "FrmSpill", func(list [][]byte) []byte {
				m, _, _ := impl.FrmSpill(list[0])
				return m
			}, b)
		}
	}
}
