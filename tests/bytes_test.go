package tests

import (
	"bytes"
	"testing"

	"loop.example/casemate/impl"
)

// powers has 256^size at each size.
var powers = []int{1, 256, 65536, 16777216, 4294967296}

// numbersOf are numbers that have a place in size bytes, ascending, the least and the greatest among them.
func numbersOf(size int) []int {
	var out []int
	if size <= 2 {
		for n := range powers[size] {
			out = append(out, n)
		}
		return out
	}
	step := powers[size]/9973 | 1
	for n := 0; n < powers[size]-2; n += step {
		out = append(out, n)
	}
	return append(out, powers[size]-2, powers[size]-1)
}

func TestBytesValues(t *testing.T) {
	if impl.BytMaxMessage != 8 || impl.BytMaxRaw != 64 {
		t.Error("the limits of bytes are not the document's")
	}
}

func TestBytesMessage(t *testing.T) {
	if !impl.BytMessage(nil) {
		t.Error("the nil list is a message")
	}
	for n := 0; n <= 70; n++ {
		if impl.BytMessage(make([]byte, n)) != (n <= 8) {
			t.Errorf("%d bytes", n)
		}
	}
	if !impl.BytMessage(make([]byte, 8, 100)) {
		t.Error("spare room counts")
	}
}

func TestP44PutIsTaken(t *testing.T) {
	for size := 1; size <= 4; size++ {
		var last []byte
		for _, n := range numbersOf(size) {
			b := impl.BytPut(n, size)
			if len(b) != size {
				t.Fatalf("%d in %d bytes: %v", n, size, b)
			}
			for k, c := range b {
				if int(c) != n/powers[size-1-k]%256 {
					t.Fatalf("%d in %d bytes: %v", n, size, b)
				}
			}
			if last != nil && bytes.Compare(last, b) >= 0 {
				t.Fatalf("%d in %d bytes does not stand behind the one ahead of it", n, size)
			}
			if got, ok := impl.BytTake(b, 0, size); !ok || got != n {
				t.Fatalf("%d in %d bytes is read as %d, %v", n, size, got, ok)
			}
			last = b
		}
	}
}

func TestP44PutNothing(t *testing.T) {
	for size := 1; size <= 4; size++ {
		for _, n := range append([]int{-1, -256, -powers[size], powers[size], powers[size] + 1, 2 * powers[size]}, farInts...) {
			if n == 2147483647 && size == 4 {
				continue
			}
			if b := impl.BytPut(n, size); len(b) != 0 {
				t.Errorf("%d in %d bytes: %v", n, size, b)
			}
		}
	}
	for _, size := range append([]int{-4, -1, 0, 5, 6, 8, 9, 64}, farInts...) {
		for _, n := range append([]int{-1, 0, 1, 255, 256}, farInts...) {
			if b := impl.BytPut(n, size); len(b) != 0 {
				t.Errorf("%d in %d bytes: %v", n, size, b)
			}
		}
	}
}

func TestP44TakeAtEachPlace(t *testing.T) {
	list := []byte{255, 0, 1, 128, 7, 254, 255}
	for n := 0; n <= len(list); n++ {
		// The bytes behind the end are spare room, and must not be read.
		b := list[:n]
		for size := 1; size <= 4; size++ {
			for at := -5; at <= n+5; at++ {
				want, there := 0, at >= 0 && at+size <= n
				for k := 0; there && k < size; k++ {
					want = want*256 + int(b[at+k])
				}
				if got, ok := impl.BytTake(b, at, size); ok != there || got != want {
					t.Errorf("%v at %d in %d bytes: %d, %v", b, at, size, got, ok)
				}
			}
		}
	}
}

func TestP44TakeNothing(t *testing.T) {
	for _, b := range [][]byte{nil, {}, {9}, {9, 9, 9, 9}, bytes.Repeat([]byte{9}, 70)} {
		for _, size := range append([]int{-1, 0, 5, 8}, farInts...) {
			for _, at := range append([]int{-1, 0, 1, len(b)}, farInts...) {
				if got, ok := impl.BytTake(b, at, size); ok || got != 0 {
					t.Errorf("%v at %d in %d bytes: %d, %v", b, at, size, got, ok)
				}
			}
		}
		for size := 1; size <= 4; size++ {
			for _, at := range append([]int{-1, len(b), len(b) + 1}, farInts...) {
				if got, ok := impl.BytTake(b, at, size); ok || got != 0 {
					t.Errorf("%v at %d in %d bytes: %d, %v", b, at, size, got, ok)
				}
			}
		}
	}
}

func TestBytesMemory(t *testing.T) {
	for size := 1; size <= 4; size++ {
		checkMemory(t, "BytPut", func([][]byte) []byte { return impl.BytPut(200, size) })
		checkMemory(t, "BytTake", func(list [][]byte) []byte {
			impl.BytTake(list[0], 1, size)
			impl.BytTake(list[0], 4, size)
			return nil
		}, upward(5))
	}
	checkMemory(t, "BytMessage", func(list [][]byte) []byte {
		impl.BytMessage(list[0])
		return nil
	}, upward(9))
}
