package tests

import (
	"strings"
	"testing"

	"loop.example/casemate/impl"
)

// okLabels are all labels that are ok.
func okLabels() []impl.LblLabel {
	var out []impl.LblLabel
	for level := 0; level <= 3; level++ {
		for marks := 0; marks <= 15; marks++ {
			out = append(out, impl.LblLabel{Level: level, Marks: marks})
		}
	}
	return out
}

// wrongLabels have a level or marks one beyond a bound, or far from it.
func wrongLabels() []impl.LblLabel {
	var out []impl.LblLabel
	for _, far := range append([]int{-1}, farInts...) {
		out = append(out, impl.LblLabel{Level: far}, impl.LblLabel{Marks: far}, impl.LblLabel{Level: far, Marks: far})
		out = append(out, impl.LblLabel{Level: 3, Marks: far}, impl.LblLabel{Level: far, Marks: 15})
	}
	return append(out, impl.LblLabel{Level: 4}, impl.LblLabel{Level: 4, Marks: 15}, impl.LblLabel{Marks: 16},
		impl.LblLabel{Level: 3, Marks: 16}, impl.LblLabel{Level: 1, Marks: 31}, impl.LblLabel{Level: 4, Marks: 16})
}

// mayFlow goes bit by bit.
func mayFlow(a impl.LblLabel, b impl.LblLabel) bool {
	for _, bit := range []int{1, 2, 4, 8} {
		if a.Marks/bit%2 == 1 && b.Marks/bit%2 == 0 {
			return false
		}
	}
	return a.Level <= b.Level
}

func TestLabelValues(t *testing.T) {
	if impl.LblMaxLevel != 3 || impl.LblMaxMarks != 15 {
		t.Error("the limits of labels are not the document's")
	}
}

func TestLabelOk(t *testing.T) {
	for _, a := range okLabels() {
		if !impl.LblOk(a) {
			t.Errorf("%v is ok", a)
		}
	}
	for _, a := range wrongLabels() {
		if impl.LblOk(a) {
			t.Errorf("%v is not ok", a)
		}
	}
}

func TestP40FlowsIsAnOrder(t *testing.T) {
	all := okLabels()
	for _, a := range all {
		if !impl.LblFlows(a, a) {
			t.Errorf("%v does not flow to itself", a)
		}
		for _, b := range all {
			ab := impl.LblFlows(a, b)
			if ab != mayFlow(a, b) {
				t.Fatalf("%v to %v: %v", a, b, ab)
			}
			if a != b && ab && impl.LblFlows(b, a) {
				t.Fatalf("%v and %v flow to each other", a, b)
			}
			for _, c := range all {
				if ab && impl.LblFlows(b, c) && !impl.LblFlows(a, c) {
					t.Fatalf("%v flows to %v, that to %v, but not all the way", a, b, c)
				}
			}
		}
	}
}

func TestP40WrongLabelsDoNotFlow(t *testing.T) {
	for _, w := range wrongLabels() {
		if impl.LblFlows(w, w) {
			t.Errorf("%v flows to itself", w)
		}
		for _, a := range okLabels() {
			if impl.LblFlows(a, w) || impl.LblFlows(w, a) {
				t.Errorf("%v and %v flow", a, w)
			}
		}
	}
}

func TestP41BothAndCommonAreBounds(t *testing.T) {
	all := okLabels()
	for _, a := range all {
		for _, b := range all {
			both, common := impl.LblBoth(a, b), impl.LblCommon(a, b)
			if !impl.LblOk(both) || !impl.LblOk(common) {
				t.Fatalf("%v and %v: %v and %v are not both ok", a, b, both, common)
			}
			for _, c := range all {
				if impl.LblFlows(both, c) != (impl.LblFlows(a, c) && impl.LblFlows(b, c)) {
					t.Fatalf("both of %v and %v is %v: wrong at %v", a, b, both, c)
				}
				if impl.LblFlows(c, common) != (impl.LblFlows(c, a) && impl.LblFlows(c, b)) {
					t.Fatalf("common of %v and %v is %v: wrong at %v", a, b, common, c)
				}
			}
		}
	}
}

func TestP42OrderAndBrackets(t *testing.T) {
	all := okLabels()
	for _, a := range all {
		for _, b := range all {
			both, common := impl.LblBoth(a, b), impl.LblCommon(a, b)
			if both != impl.LblBoth(b, a) || common != impl.LblCommon(b, a) {
				t.Fatalf("%v and %v: the order counts", a, b)
			}
			if impl.LblCommon(a, both) != a || impl.LblBoth(a, common) != a {
				t.Fatalf("%v and %v: the one does not take the other one up", a, b)
			}
			for _, c := range all {
				if impl.LblBoth(both, c) != impl.LblBoth(a, impl.LblBoth(b, c)) {
					t.Fatalf("both of %v, %v, %v: brackets count", a, b, c)
				}
				if impl.LblCommon(common, c) != impl.LblCommon(a, impl.LblCommon(b, c)) {
					t.Fatalf("common of %v, %v, %v: brackets count", a, b, c)
				}
			}
		}
	}
}

func TestP42NothingOfWrongLabels(t *testing.T) {
	nothing := impl.LblLabel{}
	all := append(okLabels(), wrongLabels()...)
	for _, w := range wrongLabels() {
		for _, a := range all {
			for _, got := range []impl.LblLabel{impl.LblBoth(a, w), impl.LblBoth(w, a), impl.LblCommon(a, w), impl.LblCommon(w, a)} {
				if got != nothing {
					t.Errorf("%v and %v: %v", a, w, got)
				}
			}
		}
	}
}

// labelTexts has the text of each label that is ok.
func labelTexts() map[string]impl.LblLabel {
	out := map[string]impl.LblLabel{}
	letters := []string{"", "a", "b", "ab", "c", "ac", "bc", "abc", "d", "ad", "bd", "abd", "cd", "acd", "bcd", "abcd"}
	for level, digit := range []string{"0", "1", "2", "3"} {
		for marks, text := range letters {
			out[digit+text] = impl.LblLabel{Level: level, Marks: marks}
		}
	}
	return out
}

func TestP43LabelIsReadAsItself(t *testing.T) {
	texts := labelTexts()
	if len(texts) != 64 {
		t.Fatal("there are 64 texts")
	}
	for text, a := range texts {
		if got := impl.LblText(a); got != text {
			t.Errorf("text of %v: %q, not %q", a, got, text)
		}
		if got, ok := impl.LblRead(text); !ok || got != a {
			t.Errorf("%q is read as %v, %v", text, got, ok)
		}
	}
	for _, w := range wrongLabels() {
		if got := impl.LblText(w); got != "" {
			t.Errorf("text of %v: %q", w, got)
		}
	}
}

// textsOf are all texts of up to so many of the bytes.
func textsOf(alphabet string, most int) []string {
	out := []string{""}
	from := 0
	for range most {
		end := len(out)
		for _, s := range out[from:end] {
			for k := range len(alphabet) {
				out = append(out, s+alphabet[k:k+1])
			}
		}
		from = end
	}
	return out
}

func TestP43OtherTextsAreNotRead(t *testing.T) {
	texts := labelTexts()
	list := textsOf("034/abde -\x00", 5)
	list = append(list, textsOf("2abcd", 6)...)
	for k := range 256 {
		b := string([]byte{byte(k)})
		list = append(list, b, b+"a", "1"+b, "1a"+b, "1"+b+"d", "1abcd"+b)
	}
	list = append(list, "01", "+1", "-1", "1A", "1é", "１", "1ａ", " 1", "1 ", "1\n", "1ab cd", "10", strings.Repeat("1", 5000), "1"+strings.Repeat("a", 5000))
	for _, s := range list {
		want, there := texts[s]
		got, ok := impl.LblRead(s)
		if ok != there || got != want {
			t.Fatalf("%q is read as %v, %v", s, got, ok)
		}
		if ok && impl.LblText(got) != s {
			t.Fatalf("%q is the text of %v", s, got)
		}
	}
}
