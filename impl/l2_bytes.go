package impl

import (
	"errors"
	"strconv"
)

// Limits of bytes.
const (
	BytMaxMessage = 8
	BytMaxRaw     = 64
)

// bytMaxSize is how many bytes a number has at most.
const bytMaxSize = 4

// Codes of what cannot be read.
const (
	bytNoSize = 1
	bytNoRoom = 2
)

// bytFault says why a number cannot be read.
type bytFault struct {
	code int
}

// Error names the code.
func (f bytFault) Error() string {
	return "bytes " + strconv.Itoa(f.code)
}

// bytRow is a row of bytes that grows at its end.
type bytRow struct {
	held []byte
}

// lay puts the last size bytes of a number at the row's end.
func (r *bytRow) lay(n int, size int) {
	for k := size - 1; k >= 0; k-- {
		r.held = append(r.held, byte(n>>(8*k)))
	}
}

// bytRead reads a number from bytes, or tells why it can't.
func bytRead(b []byte, at int, size int) (int, error) {
	if !within(size, 1, bytMaxSize) {
		return 0, bytFault{code: bytNoSize}
	}
	// at + size could pass the greatest int; len(b) - size can't.
	if !within(at, 0, len(b)-size) {
		return 0, bytFault{code: bytNoRoom}
	}
	n := 0
	for _, c := range b[at : at+size] {
		n = n<<8 | int(c)
	}
	return n, nil
}

// BytMessage says whether bytes may be a message.
func BytMessage(m []byte) bool {
	return len(m) <= BytMaxMessage
}

// BytPut writes a number as bytes, the greatest first.
func BytPut(n int, size int) []byte {
	if !within(size, 1, bytMaxSize) || !within(n, 0, 1<<(8*size)-1) {
		return nil
	}
	var row bytRow
	row.lay(n, size)
	return row.held
}

// BytTake reads a number from bytes.
func BytTake(b []byte, at int, size int) (int, bool) {
	n, err := bytRead(b, at, size)
	var fault bytFault
	if errors.As(err, &fault) {
		return 0, false
	}
	return n, true
}
