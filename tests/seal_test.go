package tests

import (
	"encoding/hex"
	"testing"

	"loop.example/casemate/impl"
)

// plainMix is Mix, word by word as the document has it.
func plainMix(x int, y int) int {
	const wide = 1 << 32
	x = (x ^ y) % wide
	x = (x*69069 + 1) % wide
	x = x ^ (x / 65536)
	x = (x*40503 + y + 7) % wide
	return x ^ (x / 8192)
}

func plainKey(secret, from, to, boot, peer, epoch int) int {
	x := plainMix(secret, 1+from)
	x = plainMix(x, 300+to)
	x = plainMix(x, 1000+boot)
	x = plainMix(x, 70000+peer)
	x = plainMix(x, 140000+epoch)
	return plainMix(x, 9)
}

func plainHidden(key int, seq int, body []byte) []byte {
	var out []byte
	for k, c := range body {
		out = append(out, c^byte(plainMix(plainMix(key, 500+seq), 200000+k)%256))
	}
	return out
}

func plainTag(key int, seq int, head []byte, coded []byte) int {
	x := plainMix(plainMix(key, 300000+seq), 11)
	x = plainMix(x, 400000+len(head))
	for _, h := range head {
		x = plainMix(x, 1+int(h))
	}
	x = plainMix(x, 500000+len(coded))
	for _, c := range coded {
		x = plainMix(x, 600+int(c))
	}
	return x
}

func plainShut(key int, seq int, head []byte, body []byte) []byte {
	coded := plainHidden(key, seq, body)
	tag := plainTag(key, seq, head, coded)
	return append(coded, byte(tag>>24), byte(tag>>16), byte(tag>>8), byte(tag))
}

// sealing is one thing that may be sealed.
type sealing struct {
	key  int
	seq  int
	head []byte
	body []byte
}

// sealings are things that may be sealed, at each size, with the least and the greatest of each bound.
func sealings() []sealing {
	out := []sealing{{}, {key: impl.SealMaxKey}, {seq: impl.SealMaxSeq}, {impl.SealMaxKey, impl.SealMaxSeq, upward(64), upward(64)}, {0, 0, upward(64), nil}, {0, 0, nil, upward(64)}}
	d := &draw{x: 45}
	for size := 0; size <= 64; size++ {
		key := d.below(65536)*65536 + d.below(65536)
		out = append(out, sealing{key, d.below(65536), d.bytes(size), d.bytes(d.below(65))})
		out = append(out, sealing{key, d.below(65536), d.bytes(d.below(65)), d.bytes(size)})
	}
	return out
}

// unsealable are things of which just one is beyond its bound.
func unsealable() []sealing {
	var out []sealing
	for _, far := range append([]int{-1, impl.SealMaxKey + 1}, farInts...) {
		if far != 2147483647 {
			out = append(out, sealing{far, 1, upward(2), upward(3)})
		}
	}
	for _, far := range append([]int{-1, impl.SealMaxSeq + 1}, farInts...) {
		out = append(out, sealing{1, far, upward(2), upward(3)}, sealing{0, far, nil, nil})
	}
	for _, size := range []int{65, 66, 1000} {
		out = append(out, sealing{1, 1, upward(size), nil}, sealing{1, 1, nil, upward(size)}, sealing{1, 1, upward(size), upward(size)})
	}
	return out
}

func TestSealValues(t *testing.T) {
	if impl.SealMaxKey != 4294967295 || impl.SealMaxSeq != 65535 || impl.SealTagLen != 4 {
		t.Error("the limits of seals are not the document's")
	}
}

func TestSealKey(t *testing.T) {
	// Reckoned apart from the program, from the document's words.
	for in, want := range map[[6]int]int{
		{0, 0, 0, 0, 0, 0}:                        215322504,
		{7, 0, 1, 1, 1, 0}:                        3484807486,
		{77, 1, 200, 1, 0, 0}:                     2579562785,
		{4294967295, 255, 255, 65535, 65535, 255}: 1856181242,
		{4294967295, 0, 0, 0, 0, 0}:               2223522286,
		{123456789, 3, 9, 60000, 59999, 200}:      2329484547,
	} {
		if got := impl.SealKey(in[0], in[1], in[2], in[3], in[4], in[5]); got != want {
			t.Errorf("key of %v: %d, not %d", in, got, want)
		}
	}
	d := &draw{x: 3}
	for range 2000 {
		secret, from, to, boot, peer, epoch := d.below(65536)*65536+d.below(65536), d.below(256), d.below(256), d.below(65536), d.below(65536), d.below(256)
		if got := impl.SealKey(secret, from, to, boot, peer, epoch); got != plainKey(secret, from, to, boot, peer, epoch) {
			t.Fatalf("key of %d %d %d %d %d %d: %d", secret, from, to, boot, peer, epoch, got)
		}
	}
}

func TestSealKeyBounds(t *testing.T) {
	most := [6]int{impl.SealMaxKey, 255, 255, 65535, 65535, 255}
	for place, high := range most {
		for _, n := range append([]int{-1, 0, high, high + 1}, farInts...) {
			in := [6]int{12345, 1, 2, 3, 4, 5}
			in[place] = n
			want := 0
			if n >= 0 && n <= high {
				want = plainKey(in[0], in[1], in[2], in[3], in[4], in[5])
			}
			if got := impl.SealKey(in[0], in[1], in[2], in[3], in[4], in[5]); got != want {
				t.Errorf("key of %v: %d, not %d", in, got, want)
			}
		}
	}
}

func TestSealTagAndShut(t *testing.T) {
	for _, s := range sealings() {
		if got, want := impl.SealTag(s.key, s.seq, s.head, s.body), plainTag(s.key, s.seq, s.head, s.body); got != want {
			t.Errorf("tag of %v: %d, not %d", s, got, want)
		}
		if got, want := impl.SealShut(s.key, s.seq, s.head, s.body), plainShut(s.key, s.seq, s.head, s.body); !same(got, want) {
			t.Errorf("%v sealed: %v, not %v", s, got, want)
		}
	}
	head := []byte{1, 2, 255, 255, 0, 1, 0, 0, 0, 1, 2}
	if impl.SealTag(0, 0, nil, nil) != 3428565296 || impl.SealTag(305419896, 258, head, make([]byte, 9)) != 2107500736 {
		t.Error("tags are not those that were reckoned apart")
	}
	if hex.EncodeToString(impl.SealShut(305419896, 258, head, make([]byte, 9))) != "b6b43aa4732ea9b883b6b227df" ||
		hex.EncodeToString(impl.SealShut(3484807486, 3, []byte{1}, []byte{5, 6})) != "fba7df7651ad" {
		t.Error("what is sealed is not what was reckoned apart")
	}
}

func TestSealNothing(t *testing.T) {
	for _, s := range unsealable() {
		if got := impl.SealTag(s.key, s.seq, s.head, s.body); got != 0 {
			t.Errorf("tag %d: %v", got, s)
		}
		if got := impl.SealShut(s.key, s.seq, s.head, s.body); len(got) != 0 {
			t.Errorf("sealed %v: %v", got, s)
		}
		// Nothing may be sealed, so not even the tag 0 opens it.
		for _, shut := range [][]byte{append(upward(len(s.body)), 0, 0, 0, 0), plainShut(s.key, s.seq, s.head, s.body), make([]byte, len(s.body)+4)} {
			if got, ok := impl.SealOpen(s.key, s.seq, s.head, shut); ok || len(got) != 0 {
				t.Errorf("opened %v, %v: %v", got, ok, s)
			}
		}
	}
}

func TestP45WhatWasSealedIsOpened(t *testing.T) {
	for _, s := range sealings() {
		shut := impl.SealShut(s.key, s.seq, s.head, s.body)
		if len(shut) != len(s.body)+4 {
			t.Fatalf("%v has %d bytes", s, len(shut))
		}
		if got, ok := impl.SealOpen(s.key, s.seq, s.head, shut); !ok || !same(got, s.body) {
			t.Fatalf("%v opens as %v, %v", s, got, ok)
		}
	}
}

// checkOpen holds SealOpen against the tag of what lies ahead of the last bytes.
func checkOpen(t *testing.T, key int, seq int, head []byte, shut []byte) {
	t.Helper()
	got, ok := impl.SealOpen(key, seq, head, shut)
	end := len(shut) - 4
	tag := plainTag(key, seq, head, shut[:end])
	if ok != same(shut[end:], []byte{byte(tag >> 24), byte(tag >> 16), byte(tag >> 8), byte(tag)}) {
		t.Fatalf("%v under %d, %d, %v: %v", shut, key, seq, head, ok)
	}
	if !ok && len(got) != 0 {
		t.Fatalf("%v under %d, %d, %v does not open, but answers %v", shut, key, seq, head, got)
	}
	if ok && !same(impl.SealShut(key, seq, head, got), shut) {
		t.Fatalf("%v under %d, %d, %v opens as %v, which is not sealed so", shut, key, seq, head, got)
	}
}

func TestP46OpensJustByItsTag(t *testing.T) {
	for _, s := range sealings() {
		shut := impl.SealShut(s.key, s.seq, s.head, s.body)
		for k := range shut {
			bent := append([]byte{}, shut...)
			bent[k] ^= byte(1 << (k % 8))
			checkOpen(t, s.key, s.seq, s.head, bent)
		}
		checkOpen(t, s.key, s.seq, s.head, shut)
		checkOpen(t, s.key^1, s.seq, s.head, shut)
		checkOpen(t, s.key, s.seq^1, s.head, shut)
		if len(s.head) > 0 {
			checkOpen(t, s.key, s.seq, s.head[1:], shut)
		}
		if len(s.body) > 0 {
			checkOpen(t, s.key, s.seq, s.head, shut[1:])
		}
	}
	d := &draw{x: 46}
	for range 2000 {
		checkOpen(t, d.below(65536), d.below(65536), d.bytes(d.below(65)), d.bytes(4+d.below(65)))
	}
}

func TestP46TooShort(t *testing.T) {
	tag := impl.BytPut(impl.SealTag(1, 1, nil, nil), 4)
	for n := range 4 {
		if got, ok := impl.SealOpen(1, 1, nil, tag[:n]); ok || len(got) != 0 {
			t.Errorf("%d bytes open as %v, %v", n, got, ok)
		}
	}
	if got, ok := impl.SealOpen(1, 1, nil, tag); !ok || len(got) != 0 {
		t.Errorf("a tag alone opens as %v, %v", got, ok)
	}
	if got, ok := impl.SealOpen(1, 1, nil, nil); ok || len(got) != 0 {
		t.Errorf("nothing opens as %v, %v", got, ok)
	}
}

func TestP47WhoHidesTwiceUncovers(t *testing.T) {
	for _, s := range sealings() {
		n := len(s.body)
		coded := impl.SealShut(s.key, s.seq, s.head, s.body)[:n]
		for _, head := range [][]byte{s.head, nil, upward(64)} {
			if got := impl.SealShut(s.key, s.seq, head, coded); !same(got[:n], s.body) {
				t.Fatalf("%v hidden twice is %v", s, got[:n])
			}
		}
	}
}

func TestSealMemory(t *testing.T) {
	for _, n := range []int{0, 1, 9, 60, 64, 65} {
		body, head := upward(n), upward(11)
		checkMemory(t, "SealTag", func(list [][]byte) []byte {
			return impl.BytPut(impl.SealTag(7, 8, list[0], list[1]), 4)
		}, head, body)
		checkMemory(t, "SealShut", func(list [][]byte) []byte {
			return impl.SealShut(7, 8, list[0], list[1])
		}, head, body)
		checkMemory(t, "SealShut of a long head", func(list [][]byte) []byte {
			return impl.SealShut(7, 8, list[1], list[0])
		}, head, body)
		checkMemory(t, "SealOpen", func(list [][]byte) []byte {
			got, _ := impl.SealOpen(7, 8, list[0], list[1])
			return got
		}, head, impl.SealShut(7, 8, head, body))
		checkMemory(t, "SealOpen of what does not open", func(list [][]byte) []byte {
			got, _ := impl.SealOpen(7, 8, list[0], list[1])
			return got
		}, head, body)
	}
}
