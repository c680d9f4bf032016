package tests

import (
	"bytes"
	"encoding/hex"
	"fmt"
	"math"
	"regexp"
	"slices"
	"strconv"
	"strings"
	"sync"
	"testing"

	"loop.example/casemate/impl"
)

// plainEvents says how a line looks that is one, by its first word.
var plainEvents = func() map[string]*regexp.Regexp {
	forms := map[string]*regexp.Regexp{}
	for word, form := range map[string]string{
		"pass": "", "lost": "", "bent": " N N", "earlier": " N", "made": " ([0-9a-f][0-9a-f]){0,64}", "fall": " N", "rise": " N", "input": " N N",
	} {
		forms[word] = regexp.MustCompile("^" + word + strings.ReplaceAll(form, "N", "(0|[1-9][0-9]{0,9})") + "$")
	}
	return forms
}()

// plainEventOf is what a line is, straight along the document.
func plainEventOf(line string) (impl.WldEvent, bool) {
	words := strings.Split(line, " ")
	form := plainEvents[words[0]]
	if len(line) > 80 || form == nil || !form.MatchString(line) {
		return impl.WldEvent{}, false
	}
	switch words[0] {
	case "lost":
		return impl.WldEvent{Kind: 1, N: 1}, true
	case "bent":
		return impl.WldEvent{Kind: 1, N: 2, At: plainNumber(words[1]), V: plainNumber(words[2])}, true
	case "earlier":
		return impl.WldEvent{Kind: 1, N: 3, At: plainNumber(words[1])}, true
	case "made":
		held, _ := hex.DecodeString(words[1])
		return impl.WldEvent{Kind: 1, N: 4, Bytes: held}, true
	case "fall":
		return impl.WldEvent{Kind: 2, At: plainNumber(words[1])}, true
	case "rise":
		return impl.WldEvent{Kind: 3, At: plainNumber(words[1])}, true
	case "input":
		return impl.WldEvent{Kind: 4, At: plainNumber(words[1]), N: plainNumber(words[2])}, true
	}
	return impl.WldEvent{Kind: 1}, true
}

// plainSight writes a sight, straight along the document.
func plainSight(s impl.CelSight) string {
	if !plainSightOk(s) {
		return ""
	}
	out := []string{"sent", "full", "got", "none", "byte", "quiet", "told", "fell", "stopped", "began"}[s.Kind-1]
	if s.Kind <= 4 {
		out += fmt.Sprintf(" %d", s.Way)
	}
	if len(s.Bytes) > 0 {
		out += fmt.Sprintf(" %x", s.Bytes)
	}
	return out
}

// plainSeen writes what all cells have seen, cell by cell.
func plainSeen(seen [][]impl.CelSight) []string {
	var out []string
	for cell, list := range seen {
		out = append(out, "cell "+strconv.Itoa(cell))
		for _, s := range list {
			out = append(out, plainSight(s))
		}
	}
	return out
}

// plainDesk is what DskRun answers, straight along the document.
func plainDesk(plan []string, lines []string) []string {
	p, wrong := plainParse(plan)
	if wrong != 0 {
		return []string{fmt.Sprintf("plan %d", wrong)}
	}
	if len(lines) > 500 {
		return []string{"long"}
	}
	var out []string
	w := plainWorld(p)
	for k, line := range lines {
		if e, ok := plainEventOf(line); ok {
			w = plainEvent(w, e)
		} else {
			out = append(out, fmt.Sprintf("line %d", k+1))
		}
	}
	return append(out, plainSeen(w.Seen)...)
}

func sameEvent(a impl.WldEvent, b impl.WldEvent) bool {
	return a.Kind == b.Kind && a.At == b.At && a.N == b.N && a.V == b.V && same(a.Bytes, b.Bytes)
}

// checkLine calls DskEvent, and holds it against the document; whether the line is one.
func checkLine(t *testing.T, line string) bool {
	t.Helper()
	e, ok := impl.DskEvent(line)
	want, wants := plainEventOf(line)
	if ok != wants || !sameEvent(e, want) {
		t.Fatalf("%q is %v %v, not %v %v", line, e, ok, want, wants)
	}
	return ok
}

// checkNoLine asks that a line is none, and for nothing beside it.
func checkNoLine(t *testing.T, line string) {
	t.Helper()
	if e, ok := impl.DskEvent(line); ok || !sameEvent(e, impl.WldEvent{}) {
		t.Errorf("%q is %v %v", line, e, ok)
	}
	checkLine(t, line)
}

// checkDesk calls DskRun, and holds it against the document; the answer.
func checkDesk(t *testing.T, plan []string, lines []string) []string {
	t.Helper()
	out := impl.DskRun(plan, lines)
	if want := plainDesk(plan, lines); !slices.Equal(out, want) {
		t.Fatalf("%q with %q:\nare %q\nnot %q", plan, lines, out, want)
	}
	return out
}

// eventLine is the line of an event, if there is one.
func eventLine(e impl.WldEvent) (string, bool) {
	line := ""
	switch {
	case e.Kind == 1 && e.N == 0:
		line = "pass"
	case e.Kind == 1 && e.N == 1:
		line = "lost"
	case e.Kind == 1 && e.N == 2:
		line = fmt.Sprint("bent ", e.At, " ", e.V)
	case e.Kind == 1 && e.N == 3:
		line = fmt.Sprint("earlier ", e.At)
	case e.Kind == 1 && e.N == 4:
		line = fmt.Sprintf("made %x", e.Bytes)
	case e.Kind == 2:
		line = fmt.Sprint("fall ", e.At)
	case e.Kind == 3:
		line = fmt.Sprint("rise ", e.At)
	case e.Kind == 4:
		line = fmt.Sprint("input ", e.At, " ", e.N)
	}
	_, ok := plainEventOf(line)
	return line, ok
}

// drawLines are so many lines, all of them ones, of what may happen in a plan's world, and that world behind these WldSteps.
func drawLines(d *draw, p impl.PlnPlan, many int) ([]string, impl.WldWorld) {
	var lines []string
	w := impl.WldNew(p)
	for len(lines) < many {
		e := drawEvent(d, w)
		if line, ok := eventLine(e); ok {
			lines, w = append(lines, line), impl.WldStep(w, e)
		}
	}
	return lines, w
}

// eventLines are lines that are ones, of each word with each kind of what may stand behind it.
var eventLines = []string{
	"pass", "lost", "bent 0 0", "bent 11 1", "bent 23 255", "bent 9999999999 9999999999", "bent 0 4294967296", "earlier 0", "earlier 3", "earlier 11", "earlier 12", "earlier 9999999999",
	"made ", "made 00", "made 0a", "made ff", "made 0123456789abcdef", "made " + strings.Repeat("5f", 24), "made " + strings.Repeat("0", 74), "fall 0", "fall 3", "fall 10", "fall 9999999999",
	"rise 0", "rise 1", "rise 1000000000", "input 0 0", "input 7 255", "input 1 256", "input 9999999999 9999999999", "input 0 65",
}

// noLines are lines that are none.
var noLines = []string{
	"", " ", "  ", "pas", "passs", "pass ", " pass", "pass 0", "pass pass", "PASS", "Pass", "pass\n", "pass\x00", "\xffpass", "pa ss", "lost ", " lost", "lost 1", "Lost", "los",
	"bent", "bent ", "bent 0", "bent 0 ", "bent  0 0", "bent 0  0", "bent 0 0 ", "bent 0 0 0", " bent 0 0", "Bent 0 0", "bent 00 0", "bent 0 01", "bent -1 0", "bent 0 -1", "bent - 0", "bent 0 -", "bent +1 0", "bent 0 a", "bent0 0", "bent\t0\t0",
	"bent 10000000000 0", "bent 0 10000000000", "earlier", "earlier ", "earlier  0", "earlier 0 ", "earlier 0 0", "earlier 00", "earlier -1", "earlier -", "earlier 10000000000", "earlier 0x1", "earlier 1_0", "earlier 1.0", "early 0", "EARLIER 0",
	"made", "made  ", "made 0", "made 000", "made 0g", "made g0", "made 0A", "made A0", "made aB", "made 00 ", "made  00", "made 00 00", "made 0x", "made 0x00", "made -1", "made +1", "made 0 0", "made \xff\xff", "made é", "made éé", "made 00\n", "Made 00", "made00", "made 0/", "made 0:", "made 0`",
	"fall", "fall ", "fall 0 0", "fall  0", "fall 0 ", "fall 01", "fall -1", "fall x", "fall 10000000000", "falls 0", "Fall 0", "fell 0", "rise", "rise ", "rise 0 0", "rise 01", "rise -0", "rise x", "rise 10000000000", "rises 0", "RISE 0",
	"input", "input ", "input 0", "input 0 ", "input  0 0", "input 0  0", "input 0 0 0", "input 0 0 ", "input 00 0", "input 0 00", "input -1 0", "input 0 -1", "input - 0", "input 0 -", "input 0 41a", "input 10000000000 0", "input 0 10000000000", "inputs 0 0", "Input 0 0",
	"line 1", "cell 0", "plan 1", "long", "nodes 1", "slot", "0", "1 1 1", "-", "\x00", "\n", "\xff", "é", "pass\xc2\xa0", "fall\xc2\xa00", "fall \u0661", "fall \uff11", "rise 1\u0300", "input 0 ６５",
}

// beginnings says whether what each cell has seen by one answer is a beginning of what it has by the other one; both tell no line that is none.
func beginnings(t *testing.T, first []string, all []string) {
	t.Helper()
	one, other := cellParts(first), cellParts(all)
	if len(one) != len(other) || len(one) == 0 {
		t.Fatalf("so many cells: %d and %d", len(one), len(other))
	}
	for cell := range one {
		if len(one[cell]) > len(other[cell]) || !slices.Equal(one[cell], other[cell][:len(one[cell])]) {
			t.Fatalf("the cell %d has seen %q, and later %q", cell, one[cell], other[cell])
		}
	}
}

// cellParts are the lines of an answer, for each cell those behind its own one.
func cellParts(out []string) [][]string {
	var parts [][]string
	for _, line := range out {
		switch {
		case line == "cell "+strconv.Itoa(len(parts)):
			parts = append(parts, nil)
		case len(parts) > 0:
			parts[len(parts)-1] = append(parts[len(parts)-1], line)
		}
	}
	return parts
}

// numberedPlans are plans of one node to four, several of each.
func numberedPlans(d *draw, each int) []impl.PlnPlan {
	var out []impl.PlnPlan
	for nodes := 1; nodes <= 4; nodes++ {
		for many := 0; many < each; {
			if p := livelyPlan(d); p.Nodes == nodes {
				out, many = append(out, p), many+1
			}
		}
	}
	return out
}

func TestDeskExample(t *testing.T) {
	lines := []string{"input 0 65", "pass", "pass", "pass", "pass", "lost", "pass", "fall 1", "rise 1", "input 0 200", "pass", "pass", "pass", "pass", "pass", "bent 11 1", "earlier 3"}
	want := []string{
		"cell 0", "byte 41", "sent 0 0041", "quiet", "sent 0 0000", "byte c8", "sent 0 00c8", "quiet", "sent 0 0000", "quiet",
		"cell 1", "none 0", "told 00", "none 0", "told 00", "got 0 0041", "told 03", "none 0", "told 00", "none 0", "told 00", "none 0", "told 00", "none 0", "told 00", "none 0", "told 00",
	}
	if out := checkDesk(t, exampleLines, lines); !slices.Equal(out, want) {
		t.Errorf("%q", out)
	}
}

func TestDeskSightWords(t *testing.T) {
	for _, c := range []struct {
		s    impl.CelSight
		want string
	}{
		{saw(impl.SawSent, 0), "sent 0"}, {saw(impl.SawSent, 9, 0), "sent 9 00"}, {saw(impl.SawSent, 3, 1, 2, 3, 4, 5, 6, 7, 8), "sent 3 0102030405060708"},
		{saw(impl.SawFull, 0), "full 0"}, {saw(impl.SawFull, 9, 255), "full 9 ff"}, {saw(impl.SawGot, 2, 10, 255), "got 2 0aff"}, {saw(impl.SawGot, 9), "got 9"}, {saw(impl.SawGot, 0, 160), "got 0 a0"},
		{saw(impl.SawNone, 0), "none 0"}, {saw(impl.SawNone, 9), "none 9"}, {saw(impl.SawNone, 4, 15, 16), "none 4 0f10"},
		{saw(impl.SawByte, 0, 65), "byte 41"}, {saw(impl.SawByte, 0), "byte"}, {saw(impl.SawQuiet, 0), "quiet"}, {saw(impl.SawQuiet, 0, 0), "quiet 00"},
		{saw(impl.SawTold, 0, 9), "told 09"}, {saw(impl.SawTold, 0, 255, 255, 255, 255, 255, 255, 255, 255), "told ffffffffffffffff"},
		{saw(impl.SawFell, 0), "fell"}, {saw(impl.SawFell, 0, 171, 205, 239), "fell abcdef"}, {saw(impl.SawStopped, 0), "stopped"}, {saw(impl.SawStopped, 0, 1), "stopped 01"},
		{saw(impl.SawBegan, 0), "began"}, {saw(impl.SawBegan, 0, 128, 127), "began 807f"},
		{saw(impl.SawSent, 10), ""}, {saw(impl.SawSent, -1), ""}, {saw(impl.SawByte, 1, 65), ""}, {saw(impl.SawBegan, 1), ""}, {saw(0, 0), ""}, {saw(11, 0), ""}, {saw(impl.SawTold, 0, 1, 2, 3, 4, 5, 6, 7, 8, 9), ""}, {impl.CelSight{}, ""},
	} {
		if out := impl.DskSight(c.s); out != c.want {
			t.Errorf("%v: %q, not %q", c.s, out, c.want)
		}
	}
}

func TestDeskSightEach(t *testing.T) {
	d, fine := &draw{x: 200}, 0
	for _, kind := range append([]int{-2, -1, 0, 1, 2, 3, 4, 5, 6, 7, 8, 9, 10, 11, 12, 255, 257}, farInts...) {
		for _, way := range append([]int{-2, -1, 0, 1, 2, 3, 4, 5, 6, 7, 8, 9, 10, 11, 255, 256}, farInts...) {
			for _, size := range []int{0, 1, 2, 3, 4, 5, 6, 7, 8, 9, 10, 255, 256, 264} {
				s := impl.CelSight{Kind: kind, Way: way, Bytes: d.bytes(size)}
				out := impl.DskSight(s)
				if out != plainSight(s) || (out != "") != impl.CelSightOk(s) {
					t.Fatalf("%v: %q, not %q", s, out, plainSight(s))
				}
				if out != "" {
					fine++
				}
			}
		}
	}
	if fine != (4*10+6)*9 {
		t.Error("so many sights have a line:", fine)
	}
	for b := range 256 {
		if out := impl.DskSight(saw(impl.SawTold, 0, byte(b))); out != fmt.Sprintf("told %02x", b) {
			t.Errorf("%d: %q", b, out)
		}
	}
}

func TestDeskEventWords(t *testing.T) {
	for _, c := range []struct {
		line string
		want impl.WldEvent
	}{
		{"pass", impl.WldEvent{Kind: impl.WldSlot, N: impl.WldPass}}, {"lost", impl.WldEvent{Kind: impl.WldSlot, N: impl.WldLost}},
		{"bent 3 255", impl.WldEvent{Kind: impl.WldSlot, N: impl.WldBent, At: 3, V: 255}}, {"bent 0 0", impl.WldEvent{Kind: impl.WldSlot, N: impl.WldBent}},
		{"bent 9999999999 1000000000", impl.WldEvent{Kind: impl.WldSlot, N: impl.WldBent, At: 9999999999, V: 1000000000}},
		{"earlier 0", impl.WldEvent{Kind: impl.WldSlot, N: impl.WldEarlier}}, {"earlier 11", impl.WldEvent{Kind: impl.WldSlot, N: impl.WldEarlier, At: 11}}, {"earlier 9999999999", impl.WldEvent{Kind: impl.WldSlot, N: impl.WldEarlier, At: 9999999999}},
		{"made ", impl.WldEvent{Kind: impl.WldSlot, N: impl.WldMade}}, {"made 0a", impl.WldEvent{Kind: impl.WldSlot, N: impl.WldMade, Bytes: []byte{10}}},
		{"made 09afff00", impl.WldEvent{Kind: impl.WldSlot, N: impl.WldMade, Bytes: []byte{9, 175, 255, 0}}},
		{"fall 0", impl.WldEvent{Kind: impl.WldFalls}}, {"fall 3", impl.WldEvent{Kind: impl.WldFalls, At: 3}}, {"rise 0", impl.WldEvent{Kind: impl.WldRises}}, {"rise 2147483648", impl.WldEvent{Kind: impl.WldRises, At: 2147483648}},
		{"input 0 65", impl.WldEvent{Kind: impl.WldInput, N: 65}}, {"input 7 256", impl.WldEvent{Kind: impl.WldInput, At: 7, N: 256}}, {"input 9999999999 0", impl.WldEvent{Kind: impl.WldInput, At: 9999999999}},
	} {
		if e, ok := impl.DskEvent(c.line); !ok || !sameEvent(e, c.want) {
			t.Errorf("%q is %v %v", c.line, e, ok)
		}
		checkLine(t, c.line)
	}
	for _, line := range eventLines {
		if !checkLine(t, line) {
			t.Errorf("%q is none", line)
		}
	}
}

func TestDeskEventNone(t *testing.T) {
	for _, line := range noLines {
		checkNoLine(t, line)
	}
	// Each word without what must stand behind it, and with what may not.
	for word := range plainEvents {
		for n := range 5 {
			for _, gap := range []string{" ", "  ", "\t", ""} {
				checkLine(t, word+strings.Repeat(gap+"0", n))
				checkLine(t, word+strings.Repeat(gap+"00", n))
				checkLine(t, word+strings.Repeat("0"+gap, n))
			}
		}
	}
}

func TestDeskEventNumbers(t *testing.T) {
	forms := []string{"bent %s 1", "bent 1 %s", "earlier %s", "fall %s", "rise %s", "input %s 1", "input 1 %s"}
	for _, form := range forms {
		for _, text := range []string{"0", "1", "9", "10", "11", "99", "100", "255", "256", "1000000000", "2147483647", "2147483648", "4294967295", "4294967296", "9999999998", "9999999999"} {
			if line := fmt.Sprintf(form, text); !checkLine(t, line) {
				t.Errorf("%q is none", line)
			}
		}
		for _, text := range []string{"", "00", "01", "09", "010", "0000000000", "0000000001", "00000000001", "-0", "-1", "+0", "+1", "-", "--", "10000000000", "99999999999", "12345678901", "9223372036854775807", "18446744073709551616",
			"0x1", "1_0", "1e1", "1.0", ".1", "a", "f", "1a", "a1", "/", ":", "1/", "1:", "\x00", "1\x00", "\xff", "1\xff", "\u0661", "\uff11", "1 ", " 1", "1\n", "\n1", "one"} {
			checkNoLine(t, fmt.Sprintf(form, text))
		}
	}
	// Each byte as a number, and behind one, and ahead of one.
	for b := range 256 {
		for _, form := range forms {
			for _, text := range []string{string([]byte{byte(b)}), string([]byte{'1', byte(b)}), string([]byte{byte(b), '1'})} {
				checkLine(t, strings.Replace(form, "%s", text, 1))
			}
		}
	}
}

func TestDeskEventMade(t *testing.T) {
	for size := range 400 {
		for _, digit := range []string{"0", "9", "a", "f"} {
			line := "made " + strings.Repeat(digit, size)
			if checkLine(t, line) != (size%2 == 0 && size <= 74) {
				t.Errorf("%d digits", size)
			}
		}
	}
	for _, size := range []int{126, 128, 130, 160, 4096, 100000} {
		checkNoLine(t, "made "+strings.Repeat("0", size))
	}
	fine := 0
	for high := range 256 {
		for low := range 256 {
			pair := string([]byte{byte(high), byte(low)})
			if checkLine(t, "made "+pair) {
				fine++
			}
			if checkLine(t, "made 00"+pair+"ff") != checkLine(t, "made "+pair+pair) {
				t.Errorf("%q", pair)
			}
		}
	}
	if fine != 256 {
		t.Error("so many pairs of digits are ones:", fine)
	}
	for size := range 38 {
		held := upward(size)
		if e, ok := impl.DskEvent(fmt.Sprintf("made %x", held)); !ok || !same(e.Bytes, held) {
			t.Error(size, e, ok)
		}
		if size > 4 {
			checkNoLine(t, strings.ToUpper(fmt.Sprintf("made %x", held)))
			checkNoLine(t, fmt.Sprintf("made %X", held))
			checkNoLine(t, fmt.Sprintf("made % x", held))
		}
	}
}

func TestDeskEventLineSizes(t *testing.T) {
	// A line of 79 bytes is the longest that is one; of 80 bytes there is none, as digits come by two.
	for size := 70; size <= 90; size++ {
		line := "made " + strings.Repeat("c", size-5)
		if len(line) != size || checkLine(t, line) != (size <= 80 && size%2 == 1) {
			t.Error("a line of so many bytes:", size)
		}
		for _, other := range []string{"pass", "lost", "fall ", "rise ", "bent 1 ", "input 1 ", "earlier "} {
			checkNoLine(t, other+strings.Repeat("1", size-len(other)))
			checkNoLine(t, other+strings.Repeat(" ", size-len(other)))
		}
		checkNoLine(t, strings.Repeat(" ", size))
		checkNoLine(t, strings.Repeat("é", size/2))
	}
	checkNoLine(t, strings.Repeat("pass", 1<<16))
	checkNoLine(t, "pass"+strings.Repeat(" 1", 1<<16))
	checkNoLine(t, strings.Repeat(" ", 1<<18))
}

func TestDeskEventDrawn(t *testing.T) {
	d, fine, none := &draw{x: 201}, 0, 0
	parts := []string{"pass", "lost", "bent", "earlier", "made", "fall", "rise", "input", " ", " ", " ", " ", "  ", "0", "1", "00", "ff", "0a", "9999999999", "65", "-", "x", "\xff", "\n"}
	for range 200000 {
		line := ""
		for range 1 + d.below(6) {
			line += parts[d.below(len(parts))]
		}
		if checkLine(t, line) {
			fine++
		}
	}
	for range 20000 {
		held := []byte(eventLines[d.below(len(eventLines))])
		for range 1 + d.below(2) {
			if at := d.below(len(held)); d.below(2) == 0 {
				held[at] = byte(d.below(256))
			} else {
				held = slices.Delete(held, at, at+1)
			}
		}
		if !checkLine(t, string(held)) {
			none++
		}
	}
	for _, line := range eventLines {
		for _, near := range nearLines(line) {
			if !checkLine(t, near) {
				none++
			}
		}
	}
	if fine < 2000 || none < 10000 {
		t.Error("too few of a kind:", fine, none)
	}
}

func TestP25WithMoreBehindItNoLineIsOne(t *testing.T) {
	d := &draw{x: 25}
	lines := slices.Concat(eventLines, noLines, exampleLines)
	for _, line := range eventLines {
		lines = append(lines, nearLines(line)...)
	}
	for word := range plainEvents {
		for n := range 6 {
			lines = append(lines, word+strings.Repeat(" 1", n), word+strings.Repeat("1 ", n), strings.Repeat(" ", n)+word)
		}
	}
	for size := range 90 {
		lines = append(lines, "made "+strings.Repeat("a", size), string(d.bytes(size)), strings.Repeat("1", size))
	}
	for _, line := range lines {
		checkNoLine(t, line+" 1 1 1")
	}
}

// A line that is one is so one thing: what has other words, or stands for something else, is another line.
func TestP25OneThing(t *testing.T) {
	for _, line := range eventLines {
		e, ok := impl.DskEvent(line)
		again, has := eventLine(e)
		if !ok || !has || again != line {
			t.Errorf("%q is %v, whose line is %q", line, e, again)
		}
	}
}

func TestP26ByLinesAsByEvents(t *testing.T) {
	t.Parallel()
	d, sights, kinds := &draw{x: 26}, map[string]int{}, map[string]int{}
	plans := append(numberedPlans(d, 20), livelyPlans(d, 20)...)
	for k, p := range plans {
		many := []int{0, 1, 30, 100, 250, 499, 500}[k%7]
		lines, w := drawLines(d, p, many)
		out := impl.DskRun(impl.PlnPrint(p), lines)
		if want := plainSeen(w.Seen); !slices.Equal(out, want) {
			t.Fatalf("%q with %q:\nare %q\nnot %q", impl.PlnPrint(p), lines, out, want)
		}
		var byHand []string
		for cell, list := range w.Seen {
			byHand = append(byHand, fmt.Sprint("cell ", cell))
			for _, s := range list {
				byHand = append(byHand, impl.DskSight(s))
			}
		}
		if !slices.Equal(out, byHand) {
			t.Fatalf("%q\nnot %q", out, byHand)
		}
		for _, line := range out {
			sights[strings.Split(line, " ")[0]]++
		}
		for _, line := range lines {
			kinds[strings.Split(line, " ")[0]]++
		}
	}
	for _, word := range []string{"sent", "full", "got", "none", "byte", "quiet", "told", "fell", "stopped", "began", "cell"} {
		if sights[word] < 20 {
			t.Error("too few sights:", word, sights[word])
		}
	}
	for word := range plainEvents {
		if kinds[word] < 50 {
			t.Error("too few lines:", word, kinds[word])
		}
	}
}

func TestP26LinesThatAreNone(t *testing.T) {
	t.Parallel()
	d := &draw{x: 126}
	for k, p := range append(numberedPlans(d, 10), livelyPlans(d, 10)...) {
		plan := impl.PlnPrint(p)
		lines, w := drawLines(d, p, []int{0, 1, 20, 60}[k%4])
		mixed, told := slices.Clone(lines), []string(nil)
		for range 1 + d.below(12) {
			mixed = slices.Insert(mixed, d.below(len(mixed)+1), noLines[d.below(len(noLines))])
		}
		if d.below(2) == 0 {
			mixed = slices.Concat([]string{""}, mixed, []string{"pass "})
		}
		for at, line := range mixed {
			if _, ok := plainEventOf(line); !ok {
				told = append(told, fmt.Sprint("line ", at+1))
			}
		}
		if out := checkDesk(t, plan, mixed); !slices.Equal(out, append(told, plainSeen(w.Seen)...)) {
			t.Fatalf("%q with %q: %q", plan, mixed, out)
		}
	}
}

func TestDeskRunNoneByHand(t *testing.T) {
	plan := []string{"nodes 1", "secret 9", "fuel 6", "cell 0 1", "do read 0 1", "do tell 0", "do yield", "slot 0 hello", "turn 0"}
	cells := []string{"cell 0", "byte 41", "told 41"}
	for _, c := range []struct {
		lines []string
		told  []string
	}{
		{[]string{"input 0 65", "pass"}, nil},
		{[]string{"input 0 65", "pass", "pas"}, []string{"line 3"}},
		{[]string{"pas", "input 0 65", "pass"}, []string{"line 1"}},
		{[]string{"input 0 65", "", "pass"}, []string{"line 2"}},
		{[]string{"", "input 0 65", "input 0 65 ", "PASS", "pass", "lost 1"}, []string{"line 1", "line 3", "line 4", "line 6"}},
		{[]string{"x", "x", "x", "x", "x", "x", "x", "x", "x", "x", "input 0 65", "x", "pass"}, []string{"line 1", "line 2", "line 3", "line 4", "line 5", "line 6", "line 7", "line 8", "line 9", "line 10", "line 12"}},
	} {
		if out := checkDesk(t, plan, c.lines); !slices.Equal(out, append(c.told, cells...)) {
			t.Errorf("%q: %q", c.lines, out)
		}
	}
	if out := checkDesk(t, plan, []string{"x", "pass 1"}); !slices.Equal(out, []string{"line 1", "line 2", "cell 0"}) {
		t.Errorf("%q", out)
	}
}

func TestDeskRunNoLines(t *testing.T) {
	d := &draw{x: 202}
	for _, p := range append(numberedPlans(d, 4), mostPlan(), basePlan()) {
		var want []string
		for cell := range p.Cells {
			want = append(want, fmt.Sprint("cell ", cell))
		}
		for _, lines := range [][]string{nil, {}} {
			if out := checkDesk(t, impl.PlnPrint(p), lines); !slices.Equal(out, want) {
				t.Errorf("%q", out)
			}
		}
	}
}

func TestP27TheFirstLines(t *testing.T) {
	t.Parallel()
	d, more := &draw{x: 27}, 0
	for k, p := range append(numberedPlans(d, 8), livelyPlans(d, 16)...) {
		plan := impl.PlnPrint(p)
		lines, _ := drawLines(d, p, []int{40, 90, 160, 500}[k%4])
		if k%3 == 0 {
			for range 6 {
				lines[d.below(len(lines))] = noLines[d.below(len(noLines))]
			}
		}
		all := impl.DskRun(plan, lines)
		for n := 0; n <= len(lines); n += 1 + len(lines)/30 {
			first := impl.DskRun(plan, lines[:n])
			beginnings(t, first, all)
			if len(first) < len(all) {
				more++
			}
		}
	}
	if more < 300 {
		t.Error("too few runs go on:", more)
	}
}

func TestDeskRunWrongPlan(t *testing.T) {
	d, wrongs := &draw{x: 203}, 0
	for n := range exampleLines {
		if out := checkDesk(t, exampleLines[:n], []string{"pass"}); !slices.Equal(out, []string{fmt.Sprint("plan ", n+1)}) {
			t.Errorf("%q", out)
		}
		for _, lines := range [][]string{nil, {""}, {"pass"}, make([]string, 500), make([]string, 501), make([]string, 5000)} {
			bent := changedLines(exampleLines, n, 1, "no line")
			if out := checkDesk(t, bent, lines); !slices.Equal(out, []string{fmt.Sprint("plan ", n+1)}) {
				t.Errorf("%q", out)
			}
		}
	}
	for range 3000 {
		plan := bendLines(d, bendLines(d, exampleLines))
		if _, wrong := plainParse(plan); wrong != 0 {
			wrongs++
		}
		checkDesk(t, plan, []string{"input 0 7", "pass", "pass", "none", "pass"})
	}
	if wrongs < 1000 {
		t.Error("too few plans are wrong:", wrongs)
	}
	for _, plan := range [][]string{nil, {}, {""}, eventLines} {
		if out := checkDesk(t, plan, make([]string, 501)); !slices.Equal(out, []string{"plan 1"}) {
			t.Errorf("%q", out)
		}
	}
	if out := checkDesk(t, make([]string, 301), nil); !slices.Equal(out, []string{"plan 301"}) {
		t.Errorf("%q", out)
	}
	// A plan whose lines are fine, and which is not ok, is told at its end.
	if out := checkDesk(t, changedLines(exampleLines, 0, 1, "nodes 3"), make([]string, 501)); !slices.Equal(out, []string{"plan 28"}) {
		t.Errorf("%q", out)
	}
}

func TestDeskRunLong(t *testing.T) {
	for _, line := range []string{"pass", "no line", "", "fall 0", "input 1 1", "made "} {
		for _, many := range []int{501, 502, 512, 1000, 20001, 65536} {
			if out := impl.DskRun(exampleLines, slices.Repeat([]string{line}, many)); !slices.Equal(out, []string{"long"}) {
				t.Errorf("%d of %q: %q", many, line, out)
			}
		}
		for _, many := range []int{498, 499, 500} {
			out := checkDesk(t, exampleLines, slices.Repeat([]string{line}, many))
			if slices.Contains(out, "long") || !slices.Contains(out, "cell 1") {
				t.Errorf("%d of %q: %q", many, line, out)
			}
		}
	}
	// Lines that are none count.
	mixed := append(slices.Repeat([]string{"no line"}, 500), "pass")
	if out := checkDesk(t, exampleLines, mixed); !slices.Equal(out, []string{"long"}) {
		t.Errorf("%q", out)
	}
	if out := checkDesk(t, exampleLines, mixed[1:]); len(out) < 501 || out[498] != "line 499" || out[499] != "cell 0" {
		t.Errorf("%q", out)
	}
}

// As much as a cell may have seen is told, and no more.
func TestDeskRunFull(t *testing.T) {
	plan := impl.PlnPrint(countPlan())
	out := checkDesk(t, plan, slices.Repeat([]string{"pass"}, 500))
	for cell, part := range cellParts(out) {
		if len(part) != impl.CelMaxSeen {
			t.Errorf("the cell %d: %d lines", cell, len(part))
		}
	}
}

func TestDeskSightMemory(t *testing.T) {
	for kind := -1; kind <= 11; kind++ {
		for _, size := range []int{0, 1, 8, 9} {
			held := fence(upward(size), 0xA5)
			s := impl.CelSight{Kind: kind, Bytes: held.list}
			first := impl.DskSight(s)
			if !held.untouched() || first != plainSight(s) {
				t.Fatalf("%v: %q", s, first)
			}
			// A text that lay in the sight's memory would change with it.
			scribble(held.list[:size:size], 0xEE)
			if want := plainSight(impl.CelSight{Kind: kind, Bytes: upward(size)}); first != want {
				t.Fatalf("%v: %q, and then %q", s, want, first)
			}
		}
	}
}

func TestDeskEventMemory(t *testing.T) {
	for size := range 38 {
		line := fmt.Sprintf("made %x", upward(size))
		first, _ := impl.DskEvent(line)
		other, _ := impl.DskEvent(line)
		checkApart(t, line, first.Bytes, other.Bytes)
		scribble(first.Bytes, 0xEE)
		if again, ok := impl.DskEvent(line); !ok || !same(again.Bytes, upward(size)) || line != fmt.Sprintf("made %x", upward(size)) {
			t.Fatalf("%q is %v later", line, again)
		}
	}
	// What one line says is not there in the next one.
	for _, line := range append(slices.Clone(eventLines), noLines...) {
		for _, ahead := range []string{"made ff00", "bent 7 8", "input 3 9", "bent 7 x", "made 00g0"} {
			impl.DskEvent(ahead)
			checkLine(t, line)
		}
	}
}

func TestDeskRunMemory(t *testing.T) {
	d := &draw{x: 204}
	for k, p := range numberedPlans(d, 12) {
		lines, _ := drawLines(d, p, 40)
		lines[d.below(40)] = "no line"
		plan := impl.PlnPrint(p)
		if k%4 == 0 {
			plan = bendLines(d, plan)
		}
		if k%7 == 0 {
			lines = slices.Repeat(lines, 20)
		}
		givenPlan, givenLines := fence(plan, "no plan"), fence(lines, "no line at all")
		first := impl.DskRun(givenPlan.list, givenLines.list)
		was := slices.Clone(first)
		scribble(first, "scribble")
		second := impl.DskRun(givenPlan.list, givenLines.list)
		if !givenPlan.untouched() || !givenLines.untouched() || !slices.Equal(second, was) {
			t.Fatalf("%q with %q: %q, and then %q", plan, lines, was, second)
		}
	}
}

// Events that were read are the world's alone: what is written into them later does not change what was told.
func TestDeskEventsInAWorld(t *testing.T) {
	w := impl.WldNew(examplePlan())
	e, _ := impl.DskEvent("made " + strings.Repeat("5f", 24))
	held := bytes.Clone(e.Bytes)
	after := impl.WldStep(w, e)
	was := copyWorld(after)
	if !same(e.Bytes, held) {
		t.Error("the event was written into")
	}
	scribble(e.Bytes, 0xEE)
	if !sameWorld(after, was) {
		t.Error("the world holds the event's bytes")
	}
}

// Lines with the greatest numbers do in a world what such events do.
func TestDeskFarNumbers(t *testing.T) {
	far := strconv.Itoa(math.MaxInt32) + " 9999999999"
	lines := []string{"bent 9999999999 1", "bent 0 9999999999", "earlier 9999999999", "fall 9999999999", "rise 9999999999", "input " + far, "input 0 9999999999", "input 0 256", "bent 24 1", "bent 0 256", "bent 0 0", "fall 2", "rise 2", "input 2 1"}
	for _, line := range lines {
		out := checkDesk(t, exampleLines, []string{"pass", line, "pass", line, "pass", "pass", "pass", "pass"})
		if strings.HasPrefix(out[0], "line") {
			t.Errorf("%q is none", line)
		}
	}
}

func TestDeskManyAtOnce(t *testing.T) {
	d := &draw{x: 205}
	p := livelyPlans(d, 6)[5]
	plan := impl.PlnPrint(p)
	lines, _ := drawLines(d, p, 60)
	lines[7] = "no line"
	want := impl.DskRun(plan, lines)
	var running sync.WaitGroup
	for range 8 {
		running.Add(1)
		go func() {
			defer running.Done()
			for range 5 {
				if out := impl.DskRun(plan, lines); !slices.Equal(out, want) {
					t.Errorf("%q, not %q", out, want)
				}
				for _, line := range eventLines {
					if _, ok := impl.DskEvent(line); !ok {
						t.Errorf("%q is none", line)
					}
				}
			}
		}()
	}
	running.Wait()
}
