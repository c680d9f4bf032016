package tests

import (
	"bytes"
	"slices"
	"testing"

	"loop.example/casemate/impl"
)

// anyRule fits each message, and lets all of it through.
var anyRule = impl.GrdRule{Max: 8, At: -1, High: 255, Zero: -1, Cut: 8}

// Rules that are ok, the least and the greatest of each part among them.
var okRules = []impl.GrdRule{
	anyRule,
	{Min: 0, Max: 0, At: -1, Low: 0, High: 0, Zero: -1, Cut: 0},
	{Min: 8, Max: 8, At: 7, Low: 255, High: 255, Zero: 7, Cut: 8},
	{Min: 0, Max: 8, At: 0, Low: 0, High: 255, Zero: 0, Cut: 8},
	{Min: 2, Max: 5, At: 3, Low: 10, High: 20, Zero: 1, Cut: 4},
	{Min: 1, Max: 4, At: -1, Low: 9, High: 9, Zero: 3, Cut: 3},
}

// ruleFields has a rule's parts.
func ruleFields(r *impl.GrdRule) []*int {
	return []*int{&r.Min, &r.Max, &r.At, &r.Low, &r.High, &r.Zero, &r.Cut}
}

func plainRuleOk(r impl.GrdRule) bool {
	return r.Min >= 0 && r.Min <= 8 && r.Max >= r.Min && r.Max <= 8 && r.At >= -1 && r.At <= 7 && r.Low >= 0 && r.Low <= 255 &&
		r.High >= r.Low && r.High <= 255 && r.Zero >= -1 && r.Zero <= 7 && r.Cut >= 0 && r.Cut <= 8
}

// plainFits says of a rule that is ok whether it fits a message, as the document has it.
func plainFits(r impl.GrdRule, m []byte) bool {
	if len(m) < r.Min || len(m) > r.Max {
		return false
	}
	for k, c := range m {
		if k == r.At {
			return int(c) >= r.Low && int(c) <= r.High
		}
	}
	return r.At == -1
}

// plainThrough is what a rule lets through of a message that it fits.
func plainThrough(r impl.GrdRule, m []byte) []byte {
	var out []byte
	for k, c := range m {
		if k == r.Zero {
			c = 0
		}
		if k < r.Cut {
			out = append(out, c)
		}
	}
	return out
}

func plainDo(list []impl.GrdRule, m []byte) ([]byte, bool) {
	if len(list) > 4 || len(m) > 8 || slices.ContainsFunc(list, func(r impl.GrdRule) bool { return !plainRuleOk(r) }) {
		return nil, false
	}
	for _, r := range list {
		if plainFits(r, m) {
			return plainThrough(r, m), true
		}
	}
	return nil, false
}

// nearRules are the rules that are ok, and each with one or two parts at, next to and far from a bound.
func nearRules() []impl.GrdRule {
	near := append([]int{-2, -1, 0, 1, 4, 7, 8, 9, 10, 20, 254, 255, 256}, farInts...)
	var out []impl.GrdRule
	for _, r := range okRules {
		out = append(out, r)
		for place := range 7 {
			for _, n := range near {
				one := r
				*ruleFields(&one)[place] = n
				out = append(out, one)
				for other := range place {
					for _, m := range near {
						two := one
						*ruleFields(&two)[other] = m
						out = append(out, two)
					}
				}
			}
		}
	}
	return out
}

// wrongRules are rules of which one part is not ok.
func wrongRules() []impl.GrdRule {
	least, most := []int{0, 0, -1, 0, 0, -1, 0}, []int{8, 8, 7, 255, 255, 7, 8}
	var out []impl.GrdRule
	for place := range 7 {
		for _, n := range append([]int{least[place] - 1, least[place] - 2, most[place] + 1, most[place] + 2}, farInts...) {
			r := anyRule
			*ruleFields(&r)[place] = n
			out = append(out, r)
		}
	}
	for _, n := range []int{0, 1, 7} {
		r := anyRule
		r.Min, r.Max = n+1, n
		out = append(out, r)
	}
	for _, n := range []int{0, 1, 254} {
		r := anyRule
		r.Low, r.High = n+1, n
		out = append(out, r)
	}
	return out
}

// drawRule is a rule that is ok, with low and high bytes among those of drawMessage.
func drawRule(d *draw) impl.GrdRule {
	r := impl.GrdRule{Min: d.below(5), At: d.below(9) - 1, Low: []int{0, 1, 100, 254, d.below(256)}[d.below(5)], Zero: d.below(9) - 1, Cut: d.below(9)}
	r.Max = r.Min + d.below(9-r.Min)
	r.High = []int{r.Low, min(r.Low+1, 255), 255, r.Low + d.below(256-r.Low)}[d.below(4)]
	if d.below(3) == 0 {
		r.At = -1
	}
	return r
}

func drawGuard(d *draw, most int) []impl.GrdRule {
	var list []impl.GrdRule
	for range d.below(most + 1) {
		list = append(list, drawRule(d))
	}
	return list
}

func drawMessage(d *draw) []byte {
	m := d.bytes(d.below(9))
	for k := range m {
		m[k] = []byte{0, 1, 2, 99, 100, 101, 253, 254, 255, m[k]}[d.below(10)]
	}
	return m
}

// checkDo holds GrdDo against the plain one.
func checkDo(t *testing.T, list []impl.GrdRule, m []byte) ([]byte, bool) {
	t.Helper()
	got, fine := impl.GrdDo(list, m)
	if want, wants := plainDo(list, m); !same(got, want) || fine != wants {
		t.Fatalf("%v does with %v: %v %v, not %v %v", list, m, got, fine, want, wants)
	}
	return got, fine
}

func TestGuardValues(t *testing.T) {
	if impl.GrdMaxRules != 4 {
		t.Error(impl.GrdMaxRules)
	}
}

func TestGuardRuleOk(t *testing.T) {
	for _, r := range okRules {
		if !impl.GrdRuleOk(r) {
			t.Error(r, "is not ok")
		}
	}
	for _, r := range wrongRules() {
		if impl.GrdRuleOk(r) {
			t.Error(r, "is ok")
		}
	}
	for _, r := range nearRules() {
		if impl.GrdRuleOk(r) != plainRuleOk(r) {
			t.Fatal(r, impl.GrdRuleOk(r))
		}
	}
	for low := -1; low <= 9; low++ {
		for high := -1; high <= 9; high++ {
			r := anyRule
			r.Min, r.Max = low, high
			if impl.GrdRuleOk(r) != plainRuleOk(r) {
				t.Error(r)
			}
		}
	}
	for low := -1; low <= 256; low++ {
		for high := -1; high <= 256; high++ {
			r := anyRule
			r.Low, r.High = low, high
			if impl.GrdRuleOk(r) != plainRuleOk(r) {
				t.Error(r)
			}
		}
	}
}

func TestGuardOk(t *testing.T) {
	if !impl.GrdOk(nil) || !impl.GrdOk([]impl.GrdRule{}) {
		t.Error("a guard of no rule is not ok")
	}
	for n := 0; n <= 8; n++ {
		if list := slices.Repeat(okRules[4:5], n); impl.GrdOk(list) != (n <= 4) {
			t.Error(n, "rules:", impl.GrdOk(list))
		}
	}
	for _, n := range []int{256, 257, 260} {
		if impl.GrdOk(slices.Repeat(okRules[:1], n)) {
			t.Error(n, "rules are ok")
		}
	}
	for n := 1; n <= 5; n++ {
		for place := range n {
			for _, r := range wrongRules() {
				list := slices.Repeat(okRules[:1], n)
				list[place] = r
				if impl.GrdOk(list) {
					t.Error(list, "is ok")
				}
			}
		}
	}
	spare := append(slices.Repeat(okRules[:1], 4), wrongRules()[0])
	if !impl.GrdOk(spare[:4]) || !impl.GrdOk(spare[:0]) {
		t.Error("spare room counts")
	}
}

func TestGuardFitsBySize(t *testing.T) {
	for low := 0; low <= 8; low++ {
		for high := low; high <= 8; high++ {
			r := anyRule
			r.Min, r.Max = low, high
			for size := 0; size <= 8; size++ {
				if impl.GrdFits(r, upward(size)) != (size >= low && size <= high) {
					t.Errorf("%v and %d bytes: %v", r, size, impl.GrdFits(r, upward(size)))
				}
			}
		}
	}
}

func TestGuardFitsByByte(t *testing.T) {
	for at := 0; at <= 7; at++ {
		for size := 0; size <= 8; size++ {
			for _, bounds := range [][2]int{{0, 0}, {0, 255}, {255, 255}, {10, 20}, {10, 10}, {1, 254}} {
				r := anyRule
				r.At, r.Low, r.High = at, bounds[0], bounds[1]
				for v := range 256 {
					// The other bytes would lead astray whoever looks at them.
					m := slices.Repeat([]byte{byte(bounds[0])}, size)
					want := false
					if at < size {
						m[at] = byte(v)
						want = v >= bounds[0] && v <= bounds[1]
					}
					if impl.GrdFits(r, m) != want {
						t.Fatalf("%v and %v: %v", r, m, !want)
					}
				}
			}
		}
	}
	// Without a place no byte counts, whatever Low and High are.
	r := impl.GrdRule{Max: 8, At: -1, Low: 7, High: 7, Zero: -1, Cut: 8}
	for size := 0; size <= 8; size++ {
		if !impl.GrdFits(r, slices.Repeat([]byte{6}, size)) {
			t.Error(r, size)
		}
	}
}

func TestGuardFitsWrong(t *testing.T) {
	for _, r := range wrongRules() {
		for size := 0; size <= 9; size++ {
			if impl.GrdFits(r, upward(size)) {
				t.Errorf("%v fits %d bytes", r, size)
			}
		}
	}
	for _, r := range okRules {
		for _, size := range []int{9, 10, 64, 256, 264} {
			if impl.GrdFits(r, upward(size)) {
				t.Errorf("%v fits %d bytes", r, size)
			}
		}
	}
	if !impl.GrdFits(anyRule, make([]byte, 8, 64)) || !impl.GrdFits(anyRule, nil) {
		t.Error("spare room counts, or no message is none")
	}
	for _, r := range nearRules() {
		for _, m := range [][]byte{nil, {15}, upward(4), upward(8), upward(9)} {
			if impl.GrdFits(r, m) != (len(m) <= 8 && plainRuleOk(r) && plainFits(r, m)) {
				t.Fatal(r, m, impl.GrdFits(r, m))
			}
		}
	}
}

func TestGuardDoExamples(t *testing.T) {
	m := []byte{15, 7, 8, 9}
	for _, c := range []struct {
		zero int
		cut  int
		want []byte
	}{
		{-1, 8, []byte{15, 7, 8, 9}}, {-1, 4, []byte{15, 7, 8, 9}}, {-1, 5, []byte{15, 7, 8, 9}}, {-1, 3, []byte{15, 7, 8}}, {-1, 0, nil},
		{3, 8, []byte{15, 7, 8, 0}}, {3, 4, []byte{15, 7, 8, 0}}, {3, 3, []byte{15, 7, 8}}, {4, 8, []byte{15, 7, 8, 9}}, {7, 8, []byte{15, 7, 8, 9}},
		{0, 1, []byte{0}}, {0, 0, nil}, {1, 1, []byte{15}}, {2, 3, []byte{15, 7, 0}},
	} {
		r := anyRule
		r.Zero, r.Cut = c.zero, c.cut
		if got, fine := impl.GrdDo([]impl.GrdRule{r}, m); !fine || !same(got, c.want) {
			t.Errorf("%v: %v %v, not %v", r, got, fine, c.want)
		}
	}
	// At counts in the message as it came, not as it goes on.
	r := impl.GrdRule{Max: 8, At: 3, Low: 9, High: 9, Zero: 3, Cut: 2}
	if got, fine := impl.GrdDo([]impl.GrdRule{r}, m); !fine || !same(got, m[:2]) {
		t.Error(got, fine)
	}
	for _, list := range [][]impl.GrdRule{nil, {}} {
		for size := 0; size <= 8; size++ {
			if got, fine := impl.GrdDo(list, upward(size)); fine || len(got) != 0 {
				t.Error("a guard of no rule lets through", got, fine)
			}
		}
	}
}

func TestP60EachZeroAndCut(t *testing.T) {
	for zero := -1; zero <= 7; zero++ {
		for cut := 0; cut <= 8; cut++ {
			for size := 0; size <= 8; size++ {
				r, m := anyRule, upward(size)
				r.Zero, r.Cut = zero, cut
				got, fine := checkDo(t, []impl.GrdRule{r}, m)
				if !fine || len(got) != min(size, cut) {
					t.Fatal(r, m, got, fine)
				}
				for k, c := range got {
					if k == zero && c != 0 || k != zero && c != m[k] {
						t.Fatal(r, m, got)
					}
				}
			}
		}
	}
}

func TestP59FirstThatFits(t *testing.T) {
	d := &draw{x: 59}
	through := [5]int{}
	for range 40000 {
		list, m := drawGuard(d, 4), drawMessage(d)
		got, fine := checkDo(t, list, m)
		place := slices.IndexFunc(list, func(r impl.GrdRule) bool { return impl.GrdFits(r, m) })
		if fine != (place >= 0) || !fine && len(got) > 0 {
			t.Fatalf("%v does with %v: %v %v", list, m, got, fine)
		}
		if !fine {
			continue
		}
		through[place]++
		if alone, ok := impl.GrdDo(list[place:place+1], m); !ok || !same(alone, got) {
			t.Fatalf("%v does with %v: %v, but its rule %d alone %v %v", list, m, got, place, alone, ok)
		}
	}
	for place := range 4 {
		if through[place] < 100 {
			t.Error("too few let through by the rule", place, through)
		}
	}
}

func TestP59OrderOfRules(t *testing.T) {
	rules := []impl.GrdRule{anyRule, anyRule, anyRule, anyRule}
	for k := range rules {
		rules[k].Cut = k + 1
	}
	for n := 1; n <= 4; n++ {
		for first := range n {
			list := slices.Clone(rules[:n])
			for k := range first {
				list[k].Min = 8
			}
			if got, fine := impl.GrdDo(list, upward(7)); !fine || len(got) != first+1 {
				t.Error(list, got, fine)
			}
		}
	}
}

func TestP60BeginningButForOneByte(t *testing.T) {
	d := &draw{x: 60}
	for range 40000 {
		list, m := drawGuard(d, 4), drawMessage(d)
		got, fine := impl.GrdDo(list, m)
		if len(got) > len(m) || !fine && len(got) > 0 {
			t.Fatalf("%v does with %v: %v %v", list, m, got, fine)
		}
		other := 0
		for k, c := range got {
			if c != m[k] {
				other++
				if c != 0 {
					t.Fatalf("%v does with %v: %v", list, m, got)
				}
			}
		}
		if other > 1 {
			t.Fatalf("%v does with %v: %v", list, m, got)
		}
	}
}

func TestP61OneRuleMore(t *testing.T) {
	d := &draw{x: 61}
	for range 40000 {
		list, m, more := drawGuard(d, 3), drawMessage(d), drawRule(d)
		got, fine := impl.GrdDo(list, m)
		longer := append(slices.Clone(list), more)
		after, ok := checkDo(t, longer, m)
		if fine && (!ok || !same(got, after)) {
			t.Fatalf("%v does with %v: %v, but %v %v with %v", list, m, got, after, ok, more)
		}
		if !fine && ok != impl.GrdFits(more, m) {
			t.Fatalf("%v with %v does with %v: %v", list, more, m, ok)
		}
	}
}

func TestGuardDoWrong(t *testing.T) {
	for n := 1; n <= 4; n++ {
		for place := range n {
			for _, r := range wrongRules() {
				// A rule that fits ahead of the wrong one does not help.
				list := slices.Repeat(okRules[:1], n)
				list[place] = r
				for _, size := range []int{0, 1, 8} {
					if got, fine := impl.GrdDo(list, upward(size)); fine || len(got) != 0 {
						t.Fatal(list, got, fine)
					}
				}
			}
		}
	}
	for n := 0; n <= 8; n++ {
		for size := 0; size <= 10; size++ {
			got, fine := checkDo(t, slices.Repeat(okRules[:1], n), upward(size))
			if fine != (n >= 1 && n <= 4 && size <= 8) || !fine && len(got) != 0 {
				t.Error(n, size, got, fine)
			}
		}
	}
	for _, size := range []int{9, 10, 64, 256, 264} {
		for _, r := range okRules {
			if got, fine := impl.GrdDo([]impl.GrdRule{r}, upward(size)); fine || len(got) != 0 {
				t.Error(r, size, got, fine)
			}
		}
	}
}

func TestGuardDoMemory(t *testing.T) {
	d := &draw{x: 62}
	mark := impl.GrdRule{Min: -7, Max: -7, At: -7, Low: -7, High: -7, Zero: -7, Cut: -7}
	for k := range 4000 {
		list := fence(drawGuard(d, 5), mark)
		m := drawMessage(d)
		if k%50 == 0 {
			m = upward(9)
		}
		checkMemory(t, "GrdDo", func(args [][]byte) []byte {
			got, _ := impl.GrdDo(list.list, args[0])
			return got
		}, m)
		checkMemory(t, "GrdFits", func(args [][]byte) []byte {
			for _, r := range list.list {
				impl.GrdFits(r, args[0])
			}
			return nil
		}, m)
		impl.GrdOk(list.list)
		if !list.untouched() {
			t.Fatal("a guard was written into:", list.list)
		}
	}
}

func TestP60NothingBehindTheCut(t *testing.T) {
	for cut := 0; cut <= 8; cut++ {
		for size := 0; size <= 8; size++ {
			r := anyRule
			r.Cut = cut
			m := slices.Repeat([]byte{201}, size)
			got, _ := impl.GrdDo([]impl.GrdRule{r}, m)
			if bytes.IndexByte(got[len(got):cap(got)], 201) >= 0 {
				t.Errorf("what was cut from %d bytes to %d lies behind the answer", size, cut)
			}
		}
	}
}
