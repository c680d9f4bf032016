package tests

import (
	"bytes"
	"math"
	"slices"
	"testing"
)

// farInts are whole numbers at which a sum or a shift may go wrong.
var farInts = []int{math.MinInt, math.MinInt + 1, math.MinInt32, math.MaxInt32, math.MaxInt - 1, math.MaxInt}

// same says whether two lists of bytes are the same value; nil is the empty one.
func same(a []byte, b []byte) bool {
	return bytes.Equal(a, b)
}

// upward is n bytes that differ from each other, none of them 0.
func upward(n int) []byte {
	out := make([]byte, n)
	for k := range out {
		out[k] = byte(k*7 + 3)
		if out[k] == 0 {
			out[k] = 251
		}
	}
	return out
}

// draw gives the same row of numbers in each run.
type draw struct {
	x uint64
}

func (d *draw) below(n int) int {
	d.x = d.x*6364136223846793005 + 1442695040888963407
	return int((d.x >> 33) % uint64(n))
}

func (d *draw) bytes(n int) []byte {
	out := make([]byte, n)
	for k := range out {
		out[k] = byte(d.below(256))
	}
	return out
}

// fenced lies between things that nobody may touch, those behind it being its spare room.
type fenced[T comparable] struct {
	all  []T
	was  []T
	list []T
}

func fence[T comparable](list []T, mark T) *fenced[T] {
	all := slices.Repeat([]T{mark}, len(list)+64)
	copy(all[16:], list)
	return &fenced[T]{all: all, was: slices.Clone(all), list: all[16 : 16+len(list)]}
}

func (f *fenced[T]) untouched() bool {
	return slices.Equal(f.all, f.was)
}

// checkMemory calls with fenced arguments, writes all over the answer, spare
// room included, and calls again: the arguments must be as they were, and the
// second answer what the first one was.
func checkMemory(t *testing.T, name string, call func(list [][]byte) []byte, args ...[]byte) {
	t.Helper()
	var fences []*fenced[byte]
	var lists [][]byte
	for _, a := range args {
		f := fence(a, 0xA5)
		fences = append(fences, f)
		lists = append(lists, f.list)
	}
	first := call(lists)
	was := bytes.Clone(first)
	room := first[:cap(first)]
	for k := range room {
		room[k] ^= 0xFF
	}
	second := call(lists)
	for k, f := range fences {
		if !f.untouched() {
			t.Errorf("%s: argument %d was written into, or is shared with the answer", name, k)
		}
	}
	if !same(second, was) {
		t.Errorf("%s: the same call answers %v and then %v", name, was, second)
	}
}
