package tests

import (
	"regexp"
	"slices"
	"strconv"
	"strings"
	"testing"

	"loop.example/casemate/impl"
)

// exampleLines is the plan of the document's example.
var exampleLines = []string{
	"nodes 2", "secret 77", "fuel 6",
	"cell 0 2a", "do read 2 3", "do set 0 1", "do store 0 2", "do set 0 0", "do set 1 2", "do send 0 0 1", "do yield", "do set 3 0", "do jump 0 3",
	"cell 1 0 again", "do set 0 0", "do take 0 0 3", "do tell 3", "do yield", "do set 3 0", "do jump 0 3",
	"way 0 1 2 guarded", "rule 2 8 1 0 99 0 8",
	"slot 0 hello", "slot 1 hello", "slot 0 0",
	"turn 0 0 -", "turn - 1 1",
}

// examplePlan is what the example's lines say.
func examplePlan() impl.PlnPlan {
	return impl.PlnPlan{
		Nodes: 2, Secret: 77, Fuel: 6,
		Cells: []impl.PlnCell{
			{Node: 0, Label: impl.LblLabel{Level: 2, Marks: 1}, Code: []impl.VmOrder{{Op: 11, A: 2, B: 3}, {Op: 1, A: 0, B: 1}, {Op: 7, A: 0, B: 2},
				{Op: 1}, {Op: 1, A: 1, B: 2}, {Op: 9, A: 0, B: 0, C: 1}, {Op: 13}, {Op: 1, A: 3}, {Op: 8, A: 0, B: 3}}},
			{Node: 1, Again: true, Code: []impl.VmOrder{{Op: 1}, {Op: 10, A: 0, B: 0, C: 3}, {Op: 12, A: 3}, {Op: 13}, {Op: 1, A: 3}, {Op: 8, A: 0, B: 3}}},
		},
		Ways:  []impl.PlnWay{{From: 0, To: 1, Depth: 2, Guarded: true, Guard: []impl.GrdRule{{Min: 2, Max: 8, At: 1, Low: 0, High: 99, Zero: 0, Cut: 8}}}},
		Slots: slotsOf([2]int{0, -1}, [2]int{1, -1}, [2]int{0, 0}),
		Turns: [][]int{{0, 0, -1}, {-1, 1, 1}},
	}
}

// partLines has lines of each form, in an order in which none of them is wrong; no plan is ok that has them all.
var partLines = []string{
	"nodes 3", "secret 0", "fuel 16",
	"cell 0 3abcd", "cell 2 0 again", "do set 3 255", "do stop",
	"way 0 1 4", "way 1 0 1 guarded", "rule 0 8 - 0 255 - 8", "rule 3 3 7 9 9 7 0",
	"slot 0 hello", "slot 2 1", "slot 1 0",
	"turn", "turn -", "turn 0", "turn - 1 - 0 7",
}

// plainForms says how a line looks, by its first word.
var plainForms = func() map[string]*regexp.Regexp {
	forms := map[string]*regexp.Regexp{}
	for word, form := range map[string]string{
		"nodes": " N", "secret": " N", "fuel": " N", "cell": " N [0-3]a?b?c?d?( again)?", "do": " .*", "way": " N N N( guarded)?",
		"rule": " N N D N N D N", "slot": " N (N|hello)", "turn": "( D)*",
	} {
		form = strings.ReplaceAll(form, "D", "(N|-)")
		forms[word] = regexp.MustCompile("^" + word + strings.ReplaceAll(form, "N", "(0|[1-9][0-9]{0,9})") + "$")
	}
	return forms
}()

// plainOrders has all orders that are ok, by their lines.
var plainOrders = func() map[string]impl.VmOrder {
	orders := map[string]impl.VmOrder{}
	for _, o := range okOrders() {
		orders[plainLine(o)] = o
	}
	return orders
}()

// plainNumber is a number of a line that has its form; a dash is -1.
func plainNumber(word string) int {
	if word == "-" || word == "hello" {
		return -1
	}
	n, _ := strconv.Atoi(word)
	return n
}

func plainRule(words []string) impl.GrdRule {
	var r impl.GrdRule
	for k, place := range ruleFields(&r) {
		*place = plainNumber(words[k+1])
	}
	return r
}

// plainStands says whether a line may stand behind those words.
func plainStands(ahead []string, word string) bool {
	parts := map[string]int{"cell": 1, "do": 1, "way": 2, "rule": 2, "slot": 3, "turn": 4}
	if len(ahead) < 3 {
		return word == []string{"nodes", "secret", "fuel"}[len(ahead)]
	}
	part, known := parts[word]
	for _, w := range ahead {
		known = known && parts[w] <= part
	}
	return known && (word != "do" || slices.Contains(ahead, "cell")) && (word != "rule" || slices.Contains(ahead, "way"))
}

// plainLineFine says whether a line has one of the forms.
func plainLineFine(line string, words []string) bool {
	form := plainForms[words[0]]
	if len(line) > 80 || form == nil || !form.MatchString(line) {
		return false
	}
	_, order := plainOrders[strings.TrimPrefix(line, "do ")]
	return (words[0] != "do" || order) && (words[0] != "rule" || plainRuleOk(plainRule(words)))
}

// plainAdd adds to a plan what a line says that is not wrong.
func plainAdd(p *impl.PlnPlan, line string, words []string) {
	switch words[0] {
	case "nodes":
		p.Nodes = plainNumber(words[1])
	case "secret":
		p.Secret = plainNumber(words[1])
	case "fuel":
		p.Fuel = plainNumber(words[1])
	case "cell":
		c := impl.PlnCell{Node: plainNumber(words[1]), Label: labelTexts()[words[2]], Again: len(words) == 4}
		p.Cells = append(p.Cells, c)
	case "do":
		c := &p.Cells[len(p.Cells)-1]
		c.Code = append(c.Code, plainOrders[line[3:]])
	case "way":
		w := impl.PlnWay{From: plainNumber(words[1]), To: plainNumber(words[2]), Depth: plainNumber(words[3]), Guarded: len(words) == 5}
		p.Ways = append(p.Ways, w)
	case "rule":
		w := &p.Ways[len(p.Ways)-1]
		w.Guard = append(w.Guard, plainRule(words))
	case "slot":
		p.Slots = append(p.Slots, impl.PlnSlot{Node: plainNumber(words[1]), Way: plainNumber(words[2])})
	case "turn":
		var turns []int
		for _, word := range words[1:] {
			turns = append(turns, plainNumber(word))
		}
		p.Turns = append(p.Turns, turns)
	}
}

// plainParse reads lines, straight along the document.
func plainParse(lines []string) (impl.PlnPlan, int) {
	if len(lines) > 300 {
		return impl.PlnPlan{}, 301
	}
	var p impl.PlnPlan
	var ahead []string
	for k, line := range lines {
		words := strings.Split(line, " ")
		if !plainLineFine(line, words) || !plainStands(ahead, words[0]) {
			return impl.PlnPlan{}, k + 1
		}
		plainAdd(&p, line, words)
		ahead = append(ahead, words[0])
	}
	if code, _ := plainPlan(p); code != 0 {
		return impl.PlnPlan{}, len(lines) + 1
	}
	return p, 0
}

// checkParse holds PlnParse against the plain one, and against the promises.
func checkParse(t *testing.T, lines []string) int {
	t.Helper()
	p, wrong := impl.PlnParse(lines)
	want, wants := plainParse(lines)
	if wrong != wants || !samePlan(p, want) {
		t.Fatalf("%q: %d %v, not %d %v", lines, wrong, p, wants, want)
	}
	if wrong == 0 && (!impl.PlnOk(p) || !slices.Equal(impl.PlnPrint(p), lines)) {
		t.Fatalf("%q is printed as %q", lines, impl.PlnPrint(p))
	}
	return wrong
}

// checkWrong asks for the line that is told, and for nothing beside it.
func checkWrong(t *testing.T, name string, lines []string, want int) {
	t.Helper()
	p, wrong := impl.PlnParse(lines)
	if wrong != want || !samePlan(p, impl.PlnPlan{}) {
		t.Errorf("%s: %d, not %d, with %v: %q", name, wrong, want, p, lines)
	}
	checkParse(t, lines)
}

// changedLines is a copy of lines in which those from a place on, so many, are others.
func changedLines(lines []string, at int, many int, others ...string) []string {
	return slices.Concat(lines[:at], others, lines[at+many:])
}

func TestTextExample(t *testing.T) {
	p, wrong := impl.PlnParse(exampleLines)
	if wrong != 0 || !samePlan(p, examplePlan()) {
		t.Error(wrong, p)
	}
	if lines := impl.PlnPrint(examplePlan()); !slices.Equal(lines, exampleLines) {
		t.Errorf("%q", lines)
	}
	checkParse(t, exampleLines)
}

func TestTextPrintNothing(t *testing.T) {
	for k, do := range breaks() {
		p := basePlan()
		do(&p)
		if lines := impl.PlnPrint(p); len(lines) != 0 {
			t.Errorf("the code %d: %q", k+1, lines)
		}
	}
	if lines := impl.PlnPrint(impl.PlnPlan{}); len(lines) != 0 {
		t.Errorf("nothing: %q", lines)
	}
	d := &draw{x: 10}
	for range 5000 {
		p := copyPlan(drawPlan(d))
		bend(d, &p)
		if lines := impl.PlnPrint(p); (len(lines) > 0) != impl.PlnOk(p) {
			t.Fatalf("%v: %q", p, lines)
		}
	}
}

func TestP65ParseOfPrint(t *testing.T) {
	d := &draw{x: 65}
	plans := []impl.PlnPlan{basePlan(), mostPlan(), examplePlan(), layPlan(1, spread(1, 1), nil, 0), layPlan(4, spread(8, 4), nil, 0)}
	for range 3000 {
		plans = append(plans, drawPlan(d))
	}
	for _, p := range plans {
		lines := impl.PlnPrint(p)
		got, wrong := impl.PlnParse(lines)
		if wrong != 0 || !samePlan(got, p) {
			t.Fatalf("%v is printed as %q, and read as %d %v", p, lines, wrong, got)
		}
		checkParse(t, lines)
	}
	if lines := impl.PlnPrint(mostPlan()); len(lines) != 3+8*25+10*5+12+2 {
		t.Error(len(lines))
	}
}

func TestP65EachLabelAndOrder(t *testing.T) {
	for text, label := range labelTexts() {
		p := layPlan(1, spread(1, 1), nil, 0)
		p.Cells[0].Label = label
		if lines := impl.PlnPrint(p); len(lines) != 6 || lines[3] != "cell 0 "+text {
			t.Errorf("%q", lines)
		}
		checkParse(t, impl.PlnPrint(p))
	}
	for line, o := range plainOrders {
		p := layPlan(1, spread(1, 1), nil, 0)
		if p.Cells[0].Code = append(yields(23), o); o.Op == 9 || o.Op == 10 {
			continue
		}
		if lines := impl.PlnPrint(p); len(lines) != 30 || lines[27] != "do "+line {
			t.Errorf("%q", lines)
		}
		checkParse(t, impl.PlnPrint(p))
	}
}

// bendLines changes something in lines.
func bendLines(d *draw, lines []string) []string {
	if len(lines) == 0 {
		return []string{partLines[d.below(len(partLines))]}
	}
	at, other := d.below(len(lines)), d.below(len(lines))
	switch d.below(8) {
	case 0:
		return changedLines(lines, at, 1)
	case 1:
		return changedLines(lines, at, 0, lines[other])
	case 2:
		return changedLines(lines, at, 0, partLines[d.below(len(partLines))])
	case 3:
		out := slices.Clone(lines)
		out[at], out[other] = out[other], out[at]
		return out
	case 4:
		return slices.Clone(lines[:at])
	case 5:
		words := strings.Split(lines[at], " ")
		words[d.below(len(words))] = []string{"0", "1", "2", "3", "9", "10", "16", "-", "hello", "again", "guarded", "0ab", "4294967295", "4294967296", "9999999999"}[d.below(15)]
		return changedLines(lines, at, 1, strings.Join(words, " "))
	case 6:
		return changedLines(lines, at, 1, partLines[d.below(len(partLines))])
	}
	if lines[at] == "" {
		return lines
	}
	near := nearLines(lines[at])
	return changedLines(lines, at, 1, near[d.below(len(near))])
}

// checkFirstWrong asks for what the document promises of the line that is told.
func checkFirstWrong(t *testing.T, lines []string, wrong int) {
	t.Helper()
	if wrong < 0 || wrong > len(lines)+1 {
		t.Fatalf("%q: %d", lines, wrong)
	}
	if wrong == 0 || wrong > len(lines) {
		return
	}
	if _, again := impl.PlnParse(lines[:wrong]); again != wrong {
		t.Fatalf("%q: %d, and of the lines up to it %d", lines, wrong, again)
	}
	for n := range wrong {
		if _, ahead := impl.PlnParse(lines[:n]); ahead != 0 && ahead != n+1 {
			t.Fatalf("%q: %d, and of the first %d lines %d", lines, wrong, n, ahead)
		}
	}
}

func TestP66AndP67BentLines(t *testing.T) {
	d := &draw{x: 66}
	fine, within, beyond := 0, 0, 0
	for range 12000 {
		lines := [][]string{exampleLines, partLines, impl.PlnPrint(drawPlan(d))}[d.below(3)]
		for range d.below(4) {
			lines = bendLines(d, lines)
		}
		wrong := checkParse(t, lines)
		checkFirstWrong(t, lines, wrong)
		switch {
		case wrong == 0:
			fine++
		case wrong <= len(lines):
			within++
		default:
			beyond++
		}
	}
	if fine < 500 || within < 500 || beyond < 500 {
		t.Error("too few of a kind:", fine, within, beyond)
	}
}

func TestP66NearLines(t *testing.T) {
	for _, lines := range [][]string{exampleLines, impl.PlnPrint(basePlan()), partLines} {
		for at, line := range lines {
			for _, near := range nearLines(line) {
				bent := changedLines(lines, at, 1, near)
				checkFirstWrong(t, bent, checkParse(t, bent))
			}
		}
	}
}

func TestP67EndsTooEarly(t *testing.T) {
	checkWrong(t, "no lines", nil, 1)
	checkWrong(t, "no lines", []string{}, 1)
	for n := range exampleLines {
		checkWrong(t, "too early", exampleLines[:n], n+1)
	}
	for n := range len(partLines) + 1 {
		checkWrong(t, "the parts", partLines[:n], n+1)
	}
	checkWrong(t, "a turn too many", append(slices.Clone(exampleLines), "turn - - -"), len(exampleLines)+2)
}

func TestP67FirstOfSeveral(t *testing.T) {
	for at := range exampleLines {
		for other := at; other < len(exampleLines); other++ {
			lines := slices.Clone(exampleLines)
			lines[at], lines[other] = "no line", "no line"
			checkWrong(t, "two wrong lines", lines, at+1)
		}
	}
}

func TestTextForms(t *testing.T) {
	for _, c := range []struct {
		at    int
		lines string
	}{
		{0, "|nodes|nodes |nodes  2| nodes 2|nodes 2 |nodes 02|nodes 00|nodes -|nodes -1|nodes +2|nodes 2 2|Nodes 2|nodes 0x2|nodes two|nodes 12345678901|nodes 2\n|node 2|nodes2|nodes\t2|nodes \u0662|nodes \xff|nodes 2\x00"},
		{1, "secret|secret |secret -|secret 077|secret -1|secret 77 0|secret 10000000000|secret 00|secret 4294967296.0"},
		{2, "fuel|fuel 06|fuel -|fuel 6 6|fuel six|fuel 1e1"},
		{3, "cell|cell 0|cell 0 |cell 0 4|cell 0 2e|cell 0 2ba|cell 0 2aa|cell 0 a|cell 0  2a|cell 00 2a|cell - 2a|cell 0 2a |cell 0 2a Again|cell 0 2a again |cell 0 2a  again|cell 0 2a again again|cell 0 again|cell 0 again 2a|cell 0 2a guarded|cell -1 2a|cell 0 02|cell 0 2a 0|cell again"},
		{4, "do|do |do  read 2 3|do read 2 3 |do read 2|do read 2 4|do read 02 3|do set 0 256|do jump 25 0|do send 10 0 0|do nop|do yield 0|do do yield|do Set 0 0|read 2 3|do read  2 3|do take 0 0|do store 0 -"},
		{20, "way|way 0 1|way 0 1 |way 0 1 2 |way 0 1 2 2|way 0 1 2 Guarded|way 0 1 2 guarded |way 0 1 2 guarded guarded|way 0 1 guarded|way 0 1 guarded 2|way - 1 2|way 0 - 2|way 0 1 -|way 00 1 2|way 0 1 02|way 0  1 2|way 0 1 2 again|way 0 -1 2|way 0 1 2  guarded"},
		{21, "rule|rule 2 8 1 0 99 0|rule 2 8 1 0 99 0 8 8|rule - 8 1 0 99 0 8|rule 2 - 1 0 99 0 8|rule 2 8 1 - 99 0 8|rule 2 8 1 0 - 0 8|rule 2 8 1 0 99 0 -|rule 2 8 -1 0 99 0 8|rule 2 8 1 0 99 -1 8|" +
			"rule 9 9 1 0 99 0 8|rule 3 2 1 0 99 0 8|rule 2 9 1 0 99 0 8|rule 2 8 8 0 99 0 8|rule 2 8 1 100 99 0 8|rule 2 8 1 0 256 0 8|rule 2 8 1 0 99 8 8|rule 2 8 1 0 99 0 9|rule 02 8 1 0 99 0 8|rule 2 8 1  0 99 0 8|rule 2 8 1 0 99 0 8 |rule 2 8 -- 0 99 0 8"},
		{22, "slot|slot 0|slot 0 |slot hello|slot 0 -|slot 0 -1|slot 0 Hello|slot 0 hello |slot 0 hello hello|slot - hello|slot 00 hello|slot 0 00|slot 0  hello|slot 0 0 hello|slot 0 hello 0|slot hello 0"},
		{25, "turn |turn  0 0 -|turn 0 0 - |turn 0 0 -1|turn 0 00 -|turn 0 0 --|turn 0 hello -|turn 0 0  -|turn 0 0 12345678901|turns 0 0 -|turn 0,0,-|turn 0 -0 -"},
	} {
		for _, line := range strings.Split(c.lines, "|") {
			checkWrong(t, "a form", changedLines(exampleLines, c.at, 1, line), c.at+1)
		}
	}
}

func TestTextLinesThatOnlyThePlanMinds(t *testing.T) {
	// These have their form; what they say is asked of the whole plan alone.
	end := len(exampleLines) + 1
	for _, c := range []struct {
		at    int
		lines string
	}{
		{0, "nodes 0|nodes 1|nodes 3|nodes 5|nodes 9999999999"},
		{1, "secret 4294967296|secret 9999999999"},
		{2, "fuel 0|fuel 17|fuel 1234567890"},
		{3, "cell 2 2a|cell 1 2a|cell 9999999999 2a"},
		{4, "do jump 10 0|do send 1 0 0|do take 0 0 0|do send 9 0 0"},
		{20, "way 0 1 2|way 0 0 2 guarded|way 0 2 2 guarded|way 2 1 2 guarded|way 0 1 0 guarded|way 0 1 5 guarded|way 1 0 2 guarded|way 9999999999 9999999999 9999999999"},
		{22, "slot 1 hello|slot 0 0|slot 2 hello|slot 0 1|slot 1 0|slot 9999999999 9999999999"},
		{25, "turn|turn 0|turn 0 0|turn 0 0 - -|turn - - -|turn 1 0 0|turn 0 0 2|turn 9999999999 0 0|turn 0 0 0 0 0 0 0 0 0 0 0 0 0"},
	} {
		for _, line := range strings.Split(c.lines, "|") {
			checkWrong(t, "a plan", changedLines(exampleLines, c.at, 1, line), end)
		}
	}
	for _, c := range []struct {
		at   int
		line string
	}{{1, "secret 0"}, {1, "secret 4294967295"}, {2, "fuel 1"}, {2, "fuel 16"}, {3, "cell 0 2a again"}, {3, "cell 0 0"}, {13, "cell 1 3abcd"}, {20, "way 0 1 1 guarded"}, {20, "way 0 1 4 guarded"},
		{21, "rule 0 0 - 0 0 - 0"}, {21, "rule 8 8 7 255 255 7 8"}, {25, "turn 0 - -"}, {4, "do stop"}} {
		if wrong := checkParse(t, changedLines(exampleLines, c.at, 1, c.line)); wrong != 0 {
			t.Errorf("%q: %d", c.line, wrong)
		}
	}
}

func TestTextLineSizes(t *testing.T) {
	for size := 76; size <= 84; size++ {
		line := "turn" + strings.Repeat(" 0", (size-4)/2)
		if len(line) < size {
			line = strings.TrimSuffix(line, "0") + "10"
		}
		want := len(exampleLines) + 1
		if size > 80 {
			want = 26
		}
		if len(line) != size {
			t.Fatal(len(line), size)
		}
		checkWrong(t, "a size", changedLines(exampleLines, 25, 1, line), want)
	}
	for _, line := range []string{strings.Repeat(" ", 80), strings.Repeat("é", 40), strings.Repeat("x", 100000), "turn" + strings.Repeat(" 0", 100000)} {
		checkWrong(t, "a long line", changedLines(exampleLines, 25, 1, line), 26)
	}
}

func TestTextOrder(t *testing.T) {
	words := []string{"nodes", "secret", "fuel", "cell", "do", "way", "rule", "slot", "turn"}
	lines := []string{"nodes 2", "secret 77", "fuel 6", "cell 0 2a", "do yield", "way 0 1 2 guarded", "rule 2 8 1 0 99 0 8", "slot 0 hello", "turn 0 0 -"}
	// All rows of up to three lines, behind the first three and alone: what stands ahead tells what may follow.
	for n := 1; n <= 3; n++ {
		eachRow(len(words), n, func(row []int) {
			given, told := lines[:3:3], 0
			var ahead []string
			ahead = append(ahead, words[:3]...)
			for _, k := range row {
				if told == 0 && !plainStands(ahead, words[k]) {
					told = len(given) + 1
				}
				given, ahead = append(given, lines[k]), append(ahead, words[k])
			}
			if told == 0 {
				told = len(given) + 1
			}
			checkWrong(t, "a row", given, told)
		})
		eachRow(len(words), n, func(row []int) {
			var given []string
			for _, k := range row {
				given = append(given, lines[k])
			}
			checkParse(t, given)
		})
	}
}

// eachRow tells each row of n numbers below most.
func eachRow(most int, n int, tell func(row []int)) {
	row := make([]int, n)
	for {
		tell(row)
		at := n - 1
		for at >= 0 && row[at] == most-1 {
			row[at] = 0
			at--
		}
		if at < 0 {
			return
		}
		row[at]++
	}
}

func TestTextPlaces(t *testing.T) {
	for _, c := range []struct {
		name string
		at   int
		line string
		want int
	}{
		{"an order ahead of all cells", 3, "do yield", 4},
		{"a rule ahead of all ways", 20, "rule 2 8 1 0 99 0 8", 21},
		{"a rule ahead of all cells", 3, "rule 2 8 1 0 99 0 8", 4},
		{"an order behind a way", 21, "do yield", 22},
		{"an order behind a rule", 22, "do yield", 23},
		{"a cell behind a way", 22, "cell 0 2a", 23},
		{"a way behind a slot", 23, "way 0 1 2 guarded", 24},
		{"a rule behind a slot", 23, "rule 2 8 1 0 99 0 8", 24},
		{"a slot behind a turn", 26, "slot 0 hello", 27},
		{"a cell at the end", 27, "cell 0 2a", 28},
		{"nodes again", 1, "nodes 2", 2},
		{"nodes later", 3, "nodes 2", 4},
		{"secret later", 13, "secret 77", 14},
		{"fuel later", 3, "fuel 6", 4},
		{"fuel at the end", 27, "fuel 6", 28},
		{"secret ahead", 0, "secret 77", 1},
		{"a cell ahead", 0, "cell 0 2a", 1},
		{"a cell ahead of fuel", 2, "cell 0 2a", 3},
		{"an empty line", 5, "", 6},
		{"an empty line at the end", 27, "", 28},
		{"a turn among cells", 13, "turn 0 0 -", 15},
		{"a slot among cells", 13, "slot 0 hello", 15},
		{"a way among cells", 13, "way 0 1 2", 15},
		{"a way too many", 20, "way 0 1 2 guarded", 29},
		{"a rule too many", 21, "rule 2 8 1 0 99 0 8", 0},
	} {
		lines := changedLines(exampleLines, c.at, 0, c.line)
		if _, wrong := impl.PlnParse(lines); wrong != c.want {
			t.Errorf("%s: %d, not %d", c.name, wrong, c.want)
		}
		checkParse(t, lines)
	}
	for at := range 3 {
		for other := range 3 {
			lines := slices.Clone(exampleLines)
			lines[at], lines[other] = lines[other], lines[at]
			if at != other {
				checkWrong(t, "changed places", lines, min(at, other)+1)
			}
		}
		checkWrong(t, "one of the first three is missing", changedLines(exampleLines, at, 1), at+1)
	}
	// A rule of a way that is not guarded has its place; the plan minds it.
	checkWrong(t, "a rule without a guard", changedLines(exampleLines, 20, 1, "way 0 1 2"), 28)
}

func TestTextTooManyOfAPart(t *testing.T) {
	for _, c := range []struct {
		at   int
		line string
		many int
		fine int
	}{{4, "do stop", 24, 15}, {21, "rule 0 8 - 0 255 - 8", 8, 3}, {20, "way 0 1 1", 14, -1}, {3, "cell 0 1", 12, -1}} {
		for n := range c.many {
			lines := changedLines(exampleLines, c.at, 0, slices.Repeat([]string{c.line}, n)...)
			want := len(lines) + 1
			if n <= max(0, c.fine) {
				want = 0
			}
			if wrong := checkParse(t, lines); wrong != want {
				t.Errorf("%d of %q: %d, not %d", n, c.line, wrong, want)
			}
		}
	}
}

func TestTextTooManyLines(t *testing.T) {
	for n := 297; n <= 303; n++ {
		orders := append(slices.Clone(exampleLines[:4]), slices.Repeat([]string{"do yield"}, n-4)...)
		// Up to 300 lines it is the plan that is not ok; that is told alike.
		checkWrong(t, "orders", orders, min(n+1, 301))
		wrong := slices.Clone(orders)
		wrong[4] = ""
		want := 5
		if n > 300 {
			want = 301
		}
		checkWrong(t, "a wrong line among them", wrong, want)
	}
	for _, n := range []int{301, 512, 1000, 65536} {
		checkWrong(t, "empty lines", make([]string, n), 301)
		checkWrong(t, "an example, and more", append(slices.Clone(exampleLines), make([]string, n)...), 301)
	}
	checkWrong(t, "300 empty lines", make([]string, 300), 1)
	long := append(slices.Clone(exampleLines[:3]), slices.Repeat([]string{"cell 0 2a"}, 297)...)
	checkWrong(t, "300 lines", long, 301)
	long[299] = "cell 0 2A"
	checkWrong(t, "the last of 300", long, 300)
}

// scribbleAll writes over all lists of a plan, spare room included.
func scribbleAll(p impl.PlnPlan) {
	for _, c := range p.Cells {
		scribble(c.Code, impl.VmOrder{Op: -9})
	}
	for _, w := range p.Ways {
		scribble(w.Guard, impl.GrdRule{Min: -9})
	}
	for _, list := range p.Turns {
		scribble(list, -9)
	}
	scribble(p.Cells, impl.PlnCell{Node: -9})
	scribble(p.Ways, impl.PlnWay{From: -9})
	scribble(p.Slots, impl.PlnSlot{Node: -9})
	scribble(p.Turns, nil)
}

// checkListsApart writes over one list behind the other, spare room included: no other one may change by that.
func checkListsApart[T any](t *testing.T, name string, lists [][]T, mark T, same func(a []T, b []T) bool) {
	t.Helper()
	for k := range lists {
		var was [][]T
		for _, list := range lists {
			was = append(was, slices.Clone(list))
		}
		scribble(lists[k], mark)
		for other := range lists {
			if other != k && !same(lists[other], was[other]) {
				t.Fatalf("%s: the lists %d and %d share memory", name, k, other)
			}
		}
	}
}

func TestTextParseMemory(t *testing.T) {
	d := &draw{x: 68}
	for k := range 1500 {
		lines := impl.PlnPrint(drawPlan(d))
		if k%4 == 0 {
			lines = bendLines(d, lines)
		}
		given := fence(lines, "no line")
		first, wrong := impl.PlnParse(given.list)
		was := copyPlan(first)
		scribbleAll(first)
		second, again := impl.PlnParse(given.list)
		if !given.untouched() || wrong != again || !samePlan(second, was) {
			t.Fatalf("%q: %d %v, and then %d %v", lines, wrong, was, again, second)
		}
		var codes [][]impl.VmOrder
		var guards [][]impl.GrdRule
		for _, c := range second.Cells {
			codes = append(codes, c.Code)
		}
		for _, w := range second.Ways {
			guards = append(guards, w.Guard)
		}
		checkListsApart(t, "programs", codes, impl.VmOrder{Op: -9}, slices.Equal[[]impl.VmOrder])
		checkListsApart(t, "guards", guards, impl.GrdRule{Min: -9}, slices.Equal[[]impl.GrdRule])
		checkListsApart(t, "turns", second.Turns, -9, slices.Equal[[]int])
	}
}

func TestTextPrintMemory(t *testing.T) {
	d := &draw{x: 69}
	for range 1000 {
		p := copyPlan(drawPlan(d))
		for range d.below(2) {
			bend(d, &p)
		}
		checkPlanUntouched(t, p, func(p impl.PlnPlan) {
			first := impl.PlnPrint(p)
			was := slices.Clone(first)
			scribble(first, "no line")
			if !slices.Equal(impl.PlnPrint(p), was) {
				t.Fatal("an answer is kept:", p)
			}
		})
	}
}

func TestTextKeepsNothing(t *testing.T) {
	// What was read of one list of lines is not there in the next one.
	for n := range exampleLines {
		impl.PlnParse(exampleLines[:n])
		if wrong := checkParse(t, exampleLines); wrong != 0 {
			t.Fatal(n, wrong)
		}
	}
}
