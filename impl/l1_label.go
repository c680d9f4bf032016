package impl

import (
	"cmp"
	"strings"
)

// Limits of labels.
const (
	LblMaxLevel = 3
	LblMaxMarks = 15
)

// lblLetters has the letters of the marks, that of the least bit first.
const lblLetters = "abcd"

// LblLabel says how secret something is: a level, and marks as bits.
type LblLabel struct {
	Level int
	Marks int
}

// greater says whether the first of two is the greater one.
func greater[T cmp.Ordered](a T, b T) bool {
	return a > b
}

// within says whether n lies between two bounds, or is one of them.
func within[T cmp.Ordered](n T, low T, high T) bool {
	return !greater(low, n) && !greater(n, high)
}

// allUpTo says whether all numbers lie between 0 and a bound.
func allUpTo(high int, list ...int) bool {
	for _, n := range list {
		if !within(n, 0, high) {
			return false
		}
	}
	return true
}

func (a LblLabel) ok() bool {
	return within(a.Level, 0, LblMaxLevel) && within(a.Marks, 0, LblMaxMarks)
}

func (a LblLabel) flows(b LblLabel) bool {
	return !greater(a.Level, b.Level) && a.Marks&^b.Marks == 0
}

func (a LblLabel) text() string {
	var out strings.Builder
	out.WriteByte(byte('0' + a.Level))
	for bit := range len(lblLetters) {
		if a.Marks&(1<<bit) != 0 {
			out.WriteByte(lblLetters[bit])
		}
	}
	return out.String()
}

// LblOk says whether a label is ok.
func LblOk(a LblLabel) bool {
	return a.ok()
}

// LblFlows says whether what has the one label may go where the other one is.
func LblFlows(a LblLabel, b LblLabel) bool {
	return a.ok() && b.ok() && a.flows(b)
}

// LblBoth is the least label to which two flow.
func LblBoth(a LblLabel, b LblLabel) LblLabel {
	if !a.ok() || !b.ok() {
		return LblLabel{}
	}
	both := LblLabel{Level: b.Level, Marks: a.Marks | b.Marks}
	if greater(a.Level, b.Level) {
		both.Level = a.Level
	}
	return both
}

// LblCommon is the greatest label that flows to two.
func LblCommon(a LblLabel, b LblLabel) LblLabel {
	if !a.ok() || !b.ok() {
		return LblLabel{}
	}
	common := LblLabel{Level: a.Level, Marks: a.Marks & b.Marks}
	if greater(a.Level, b.Level) {
		common.Level = b.Level
	}
	return common
}

// LblText writes a label.
func LblText(a LblLabel) string {
	if !a.ok() {
		return ""
	}
	return a.text()
}

// LblRead reads a label.
func LblRead(s string) (LblLabel, bool) {
	if s == "" {
		return LblLabel{}, false
	}
	// A guess is enough, as it is held against the text: letters that are
	// unknown, stand twice or in another order do not come back in it.
	guess := LblLabel{Level: int(s[0]) - '0'}
	for bit := range len(lblLetters) {
		if strings.IndexByte(s, lblLetters[bit]) >= 0 {
			guess.Marks |= 1 << bit
		}
	}
	if LblText(guess) != s {
		return LblLabel{}, false
	}
	return guess, true
}
