package tests

import (
	"strconv"
	"strings"
	"testing"

	"loop.example/casemate/impl"
)

// orderForm is a line of the document's table of orders: a word, and the
// greatest number of each kind that it has.
type orderForm struct {
	word string
	most []int
}

// orderForms has the table, by Op.
var orderForms = map[int]orderForm{
	1:  {"set", []int{3, 255}},
	2:  {"move", []int{3, 3}},
	3:  {"add", []int{3, 3}},
	4:  {"sub", []int{3, 3}},
	5:  {"less", []int{3, 3, 3}},
	6:  {"load", []int{3, 3}},
	7:  {"store", []int{3, 3}},
	8:  {"jump", []int{24, 3}},
	9:  {"send", []int{9, 3, 3}},
	10: {"take", []int{9, 3, 3}},
	11: {"read", []int{3, 3}},
	12: {"tell", []int{3}},
	13: {"yield", nil},
	14: {"stop", nil},
}

// plainOrderOk says whether an order is ok, as the table has it.
func plainOrderOk(o impl.VmOrder) bool {
	form, known := orderForms[o.Op]
	if !known {
		return false
	}
	for k, n := range []int{o.A, o.B, o.C} {
		most := 0
		if k < len(form.most) {
			most = form.most[k]
		}
		if n < 0 || n > most {
			return false
		}
	}
	return true
}

func plainLine(o impl.VmOrder) string {
	form := orderForms[o.Op]
	words := []string{form.word}
	for k, n := range []int{o.A, o.B, o.C} {
		if k < len(form.most) {
			words = append(words, strconv.Itoa(n))
		}
	}
	return strings.Join(words, " ")
}

// okOrders are all orders that are ok.
func okOrders() []impl.VmOrder {
	var out []impl.VmOrder
	for op := 1; op <= 14; op++ {
		most := append(append([]int{}, orderForms[op].most...), 0, 0, 0)
		for a := 0; a <= most[0]; a++ {
			for b := 0; b <= most[1]; b++ {
				for c := 0; c <= most[2]; c++ {
					out = append(out, impl.VmOrder{Op: op, A: a, B: b, C: c})
				}
			}
		}
	}
	return out
}

// nearOrders are orders with an Op and numbers at, and just beyond, all bounds.
func nearOrders() []impl.VmOrder {
	var out []impl.VmOrder
	numbers := append([]int{-1, 0, 1, 3, 4, 9, 10, 24, 25, 255, 256}, farInts...)
	ops := append([]int{-1, 0, 15, 16, 255, 256, 257}, farInts...)
	for op := 1; op <= 14; op++ {
		ops = append(ops, op)
	}
	for _, op := range ops {
		for _, a := range numbers {
			for _, b := range numbers {
				for _, c := range numbers {
					out = append(out, impl.VmOrder{Op: op, A: a, B: b, C: c})
				}
			}
		}
	}
	return out
}

func TestCodeValues(t *testing.T) {
	ops := []int{impl.VmSet, impl.VmMove, impl.VmAdd, impl.VmSub, impl.VmLess, impl.VmLoad, impl.VmStore, impl.VmJump,
		impl.VmSend, impl.VmTake, impl.VmRead, impl.VmTell, impl.VmYield, impl.VmStop}
	for k, op := range ops {
		if op != k+1 {
			t.Error("Op", k+1, "is", op)
		}
	}
	if impl.CodMax != 24 || impl.CodRegs != 4 || impl.CodMem != 8 || impl.CodMaxOp != 14 {
		t.Error(impl.CodMax, impl.CodRegs, impl.CodMem, impl.CodMaxOp)
	}
}

func TestP51LineIsReadAsTheOrder(t *testing.T) {
	for _, o := range okOrders() {
		line := impl.CodLine(o)
		if line != plainLine(o) {
			t.Fatalf("%v is written %q, not %q", o, line, plainLine(o))
		}
		if got, ok := impl.CodRead(line); !ok || got != o {
			t.Fatalf("%q is read as %v %v", line, got, ok)
		}
	}
}

func TestP51OrdersThatAreNotOkHaveNoLine(t *testing.T) {
	for _, o := range nearOrders() {
		line := impl.CodLine(o)
		if (line != "") != plainOrderOk(o) {
			t.Fatalf("%v is written %q", o, line)
		}
	}
}

// nearLines are lines that differ little from an order's line.
func nearLines(line string) []string {
	out := []string{" " + line, line + " ", line + "\n", "\n" + line, line + "\t", line + "\x00", line + " 0", line + " 1", line + " 0 0", line + " 0 0 0", line + " 1 1 1", line + "0",
		line + "x", strings.ToUpper(line), strings.ToTitle(line[:1]) + line[1:], strings.ReplaceAll(line, " ", "  "), strings.ReplaceAll(line, " ", "\t"),
		strings.ReplaceAll(line, " ", ""), strings.ReplaceAll(line, " ", "\u00a0"), line[:len(line)-1], line[1:], line + " " + line}
	words := strings.Split(line, " ")
	for k := range words {
		for _, other := range []string{"", "-", "-0", "+0", "+" + words[k], "0" + words[k], "-" + words[k], words[k] + ".", words[k] + ".0", "0x1", "1_0", "1e0", "a", "é", "١",
			"4", "10", "25", "256", "-1", "9223372036854775807", "9223372036854775808", "18446744073709551616", "99999999999999999999", "-99999999999999999999"} {
			changed := append([]string{}, words...)
			changed[k] = other
			out = append(out, strings.Join(changed, " "))
		}
		out = append(out, strings.Join(words[:k], " "), strings.Join(append(append([]string{}, words[:k]...), words[k+1:]...), " "))
	}
	return out
}

func TestP51OtherLinesAreNotRead(t *testing.T) {
	orders := map[string]impl.VmOrder{}
	for _, o := range okOrders() {
		orders[plainLine(o)] = o
	}
	lines := []string{"", " ", "  ", "\n", "0", "0 0", "set", "set 0", "set 0 0 0", "nop", "stop stop", "yield 0", strings.Repeat(" ", 1000), strings.Repeat("set ", 1000), "set 0 " + strings.Repeat("0", 1000)}
	for _, o := range okOrders() {
		lines = append(lines, nearLines(plainLine(o))...)
	}
	for _, form := range orderForms {
		for _, text := range textsOf(" 013", 6) {
			lines = append(lines, form.word+text)
		}
	}
	for _, line := range lines {
		o, known := orders[line]
		got, ok := impl.CodRead(line)
		if ok != known || got != o {
			t.Fatalf("%q is read as %v %v", line, got, ok)
		}
		if ok && impl.CodLine(got) != line {
			t.Fatalf("%q is written again as %q", line, impl.CodLine(got))
		}
	}
}

// plainCodeOk says whether a program is ok, by what promise 52 says.
func plainCodeOk(code []impl.VmOrder) bool {
	for _, o := range code {
		if !plainOrderOk(o) || o.Op == 8 && o.A > len(code) {
			return false
		}
	}
	return len(code) <= 24
}

// yields is a program of n orders that are ok.
func yields(n int) []impl.VmOrder {
	code := make([]impl.VmOrder, n)
	for k := range code {
		code[k] = impl.VmOrder{Op: 13}
	}
	return code
}

func TestP52Sizes(t *testing.T) {
	if !impl.CodOk(nil) || !impl.CodOk([]impl.VmOrder{}) {
		t.Error("the empty program is not ok")
	}
	for _, n := range []int{0, 1, 2, 23, 24, 25, 26, 48, 256, 280, 1000} {
		if impl.CodOk(yields(n)) != (n <= 24) {
			t.Error(n, "orders:", impl.CodOk(yields(n)))
		}
	}
}

func TestP52Jumps(t *testing.T) {
	for size := 1; size <= 24; size++ {
		for at := 0; at < size; at++ {
			for to := -1; to <= 26; to++ {
				code := yields(size)
				code[at] = impl.VmOrder{Op: 8, A: to, B: 3}
				if impl.CodOk(code) != (to >= 0 && to <= size) {
					t.Fatalf("a jump at %d of %d to %d: %v", at, size, to, impl.CodOk(code))
				}
			}
			// What stands in A of other orders is no place in the program.
			code := yields(size)
			code[at] = impl.VmOrder{Op: 9, A: 9, B: 3, C: 3}
			if !impl.CodOk(code) {
				t.Fatalf("a send at %d of %d is not ok", at, size)
			}
		}
	}
}

func TestP52EachOrder(t *testing.T) {
	for k, o := range append(nearOrders(), okOrders()...) {
		size := 1 + k%24
		code := yields(size)
		code[k%size] = o
		want := (impl.CodLine(o) != "") && !(o.Op == 8 && o.A > size)
		if impl.CodOk(code) != want || want != plainCodeOk(code) {
			t.Fatalf("%v at %d of %d: %v", o, k%size, size, impl.CodOk(code))
		}
	}
}

func TestCodeMemory(t *testing.T) {
	code := fence(okOrders()[:24], impl.VmOrder{Op: -7, A: -7, B: -7, C: -7})
	if !impl.CodOk(code.list) || !code.untouched() {
		t.Error("the program was written into")
	}
}
