package tests

import (
	"fmt"
	"math"
	"math/rand"
	"regexp"
	"slices"
	"strconv"
	"strings"
	"testing"

	"loop.example/g00247/impl"
)

// The document's numbers, told anew: what the program calls them may be wrong.
const (
	lnExists   = 1
	lnExpunge  = 2
	lnFetch    = 3
	lnVanished = 4
	lnValid    = 5
	lnSearch   = 6
	lnOk       = 7
	lnNo       = 8
	lnBye      = 9
)

// lineRule has the least and the greatest of each field of a right line; a field that is not used is 0 .. 0.
type lineRule struct {
	num, uid, flags, mod, ranges [2]int
	all                          bool
}

// lineRules has the rule of each Kind.
func lineRules() map[int]lineRule {
	return map[int]lineRule{
		lnExists:   {num: [2]int{0, 30}},
		lnExpunge:  {num: [2]int{1, 30}},
		lnFetch:    {num: [2]int{1, 30}, uid: [2]int{1, 9999}, flags: [2]int{0, 31}, mod: [2]int{1, 100000}},
		lnVanished: {ranges: [2]int{1, 40}},
		lnValid:    {num: [2]int{1, 9999}, mod: [2]int{1, 100000}, all: true},
		lnSearch:   {ranges: [2]int{0, 40}},
		lnOk:       {},
		lnNo:       {num: [2]int{1, 9}},
		lnBye:      {},
	}
}

func between(n int, ends [2]int) bool { return ends[0] <= n && n <= ends[1] }

func plainLineOk(x impl.Line) bool {
	rule, ok := lineRules()[x.Kind]
	numbers := between(x.Num, rule.num) && between(x.Uid, rule.uid) && between(x.Flags, rule.flags) && between(x.Mod, rule.mod)
	return ok && numbers && between(len(x.Set), rule.ranges) && plainSetOk(x.Set) && (rule.all || !x.All)
}

func plainFlagsText(bits int) string {
	var words []string
	for i, word := range flagWords() {
		if bits/flagBits()[i]%2 == 1 {
			words = append(words, word)
		}
	}
	return textOf(words...)
}

// lineTextOf has the line's text by its form, whether the line is right or not; the set and the flags are told by their texts.
func lineTextOf(x impl.Line, set string, flags string) string {
	switch x.Kind {
	case lnExists:
		return fmt.Sprintf("* %d exists", x.Num)
	case lnExpunge:
		return fmt.Sprintf("* %d expunge", x.Num)
	case lnFetch:
		return fmt.Sprintf("* %d fetch (uid %d flags %s modseq %d)", x.Num, x.Uid, flags, x.Mod)
	case lnVanished:
		return "* vanished " + set
	case lnValid:
		return fmt.Sprintf("* valid %d modseq %d", x.Num, x.Mod) + strings.Repeat(" all", boolNumber(x.All))
	case lnSearch:
		return "* search" + strings.Repeat(" ", boolNumber(set != "")) + set
	case lnNo:
		return fmt.Sprintf("no %d", x.Num)
	case lnBye:
		return "bye"
	case lnOk:
		return "ok"
	}
	return ""
}

func plainLineText(x impl.Line) string {
	return lineTextOf(x, plainSetText(x.Set), plainFlagsText(x.Flags))
}

// lineForms has the form of each Kind's text, with a group a field.
var lineForms = [10]*regexp.Regexp{
	lnExists:   regexp.MustCompile(`\A\* (0|[1-9][0-9]{0,5}) exists\z`),
	lnExpunge:  regexp.MustCompile(`\A\* ([1-9][0-9]{0,5}) expunge\z`),
	lnFetch:    regexp.MustCompile(`\A\* ([1-9][0-9]{0,5}) fetch \(uid ([1-9][0-9]{0,5}) flags (\([a-z ]*\)) modseq ([1-9][0-9]{0,5})\)\z`),
	lnVanished: regexp.MustCompile(`\A\* vanished ([0-9,:]+)\z`),
	lnValid:    regexp.MustCompile(`\A\* valid ([1-9][0-9]{0,5}) modseq ([1-9][0-9]{0,5})( all)?\z`),
	lnSearch:   regexp.MustCompile(`\A\* search(?: ([0-9,:]+))?\z`),
	lnOk:       regexp.MustCompile(`\Aok\z`),
	lnNo:       regexp.MustCompile(`\Ano ([1-9])\z`),
	lnBye:      regexp.MustCompile(`\Abye\z`),
}

func plainFlagsOf(text string) int {
	for bits := range 32 {
		if plainFlagsText(bits) == text {
			return bits
		}
	}
	return -1
}

// lineOfGroups is the line that the groups of its Kind's form tell.
func lineOfGroups(kind int, g []string) impl.Line {
	x := impl.Line{Kind: kind}
	number := func(at int) int {
		n, _ := strconv.Atoi(g[at])
		return n
	}
	switch kind {
	case lnExists, lnExpunge, lnNo:
		x.Num = number(1)
	case lnFetch:
		x.Num, x.Uid, x.Flags, x.Mod = number(1), number(2), plainFlagsOf(g[3]), number(4)
	case lnVanished, lnSearch:
		x.Set, _ = plainReadSet(g[1], topUid)
	case lnValid:
		x.Num, x.Mod, x.All = number(1), number(2), g[3] != ""
	}
	return x
}

// plainReadLine is the document's rule: of the lines that the text may tell, the right one that has this text.
func plainReadLine(text string) (impl.Line, bool) {
	for kind, form := range lineForms {
		if form == nil {
			continue
		}
		g := form.FindStringSubmatch(text)
		if g == nil {
			continue
		}
		if x := lineOfGroups(kind, g); plainLineOk(x) && plainLineText(x) == text {
			return x, true
		}
	}
	return impl.Line{}, false
}

// plainTakeLine goes from place to place, and puts what stands there then into the new list.
func plainTakeLine(list []impl.Seen, x impl.Line) []impl.Seen {
	size := len(list)
	if x.Kind == lnExists && x.Num >= 0 && x.Num <= 30 {
		size = x.Num
	}
	out := []impl.Seen{}
	for place := 1; place <= size; place++ {
		one := impl.Seen{}
		if place <= len(list) {
			one = list[place-1]
		}
		if x.Kind == lnFetch && x.Num == place {
			one = impl.Seen{Uid: x.Uid, Flags: x.Flags, Mod: x.Mod}
		}
		if x.Kind == lnBye || x.Kind == lnExpunge && x.Num == place {
			continue
		}
		out = append(out, one)
	}
	return out
}

func sameLine(a impl.Line, b impl.Line) bool {
	return a.Kind == b.Kind && a.Num == b.Num && a.Uid == b.Uid && a.Flags == b.Flags && a.Mod == b.Mod && slices.Equal(a.Set, b.Set) && a.All == b.All
}

func lineTold(x impl.Line) string {
	return fmt.Sprintf("kind %d num %d uid %d flags %d mod %d set %v all %v", x.Kind, x.Num, x.Uid, x.Flags, x.Mod, x.Set, x.All)
}

// wantRightLine asks that the line is right, has this text, and comes back from it.
func wantRightLine(t *testing.T, x impl.Line, want string) {
	t.Helper()
	if !impl.LineOk(x) {
		t.Fatalf("LineOk(%s) is false", lineTold(x))
	}
	text, ok := impl.LineText(x)
	if !ok || text != want {
		t.Fatalf("LineText(%s) = %q, %v; want %q, true", lineTold(x), text, ok, want)
	}
	if back, ok := impl.ReadLine(want); !ok || !sameLine(back, x) {
		t.Fatalf("ReadLine(%q) = %s, %v; want %s, true", want, lineTold(back), ok, lineTold(x))
	}
}

func wantWrongLine(t *testing.T, x impl.Line) {
	t.Helper()
	if impl.LineOk(x) {
		t.Fatalf("LineOk(%s) is true", lineTold(x))
	}
	if text, ok := impl.LineText(x); ok || text != "" {
		t.Fatalf("LineText(%s) = %q, %v; want nothing, false", lineTold(x), text, ok)
	}
}

// wantLineAsPlain tells whether the line is right, too.
func wantLineAsPlain(t *testing.T, x impl.Line) bool {
	t.Helper()
	if plainLineOk(x) {
		wantRightLine(t, x, plainLineText(x))
		return true
	}
	wantWrongLine(t, x)
	return false
}

func wantNoLine(t *testing.T, text string) {
	t.Helper()
	if x, ok := impl.ReadLine(text); ok || !sameLine(x, impl.Line{}) {
		t.Fatalf("ReadLine(%.200q) = %s, %v; want nothing, false", text, lineTold(x), ok)
	}
}

// wantTextAsPlain tells whether the text is that of a line, too.
func wantTextAsPlain(t *testing.T, text string) bool {
	t.Helper()
	x, ok := plainReadLine(text)
	if ok {
		wantRightLine(t, x, text)
		return true
	}
	wantNoLine(t, text)
	return false
}

func wantTaken(t *testing.T, list []impl.Seen, x impl.Line, want []impl.Seen) []impl.Seen {
	t.Helper()
	got := impl.TakeLine(list, x)
	if !slices.Equal(got, want) {
		t.Fatalf("TakeLine(%v, %s) = %v; want %v", list, lineTold(x), got, want)
	}
	return got
}

func wantTakenAsPlain(t *testing.T, list []impl.Seen, x impl.Line) []impl.Seen {
	t.Helper()
	return wantTaken(t, list, x, plainTakeLine(list, x))
}

func numLine(kind int, num int) impl.Line { return impl.Line{Kind: kind, Num: num} }

func setLine(kind int, s ...impl.Range) impl.Line { return impl.Line{Kind: kind, Set: s} }

func fetchLine(num int, uid int, flags int, mod int) impl.Line {
	return impl.Line{Kind: lnFetch, Num: num, Uid: uid, Flags: flags, Mod: mod}
}

func validLine(num int, mod int, all bool) impl.Line {
	return impl.Line{Kind: lnValid, Num: num, Mod: mod, All: all}
}

// someLines has a right line of each Kind, in their order.
func someLines() []impl.Line {
	return []impl.Line{
		numLine(lnExists, 12), numLine(lnExpunge, 3), fetchLine(2, 7, 9, 4), setLine(lnVanished, span(1, 3), span(7, 7)),
		validLine(3, 8, false), setLine(lnSearch, span(2, 2), span(30, 45)), {Kind: lnOk}, numLine(lnNo, 5), {Kind: lnBye},
	}
}

func someLine(kind int) impl.Line { return someLines()[kind-1] }

// lineTexts has the texts of right lines of every form, short ones and long ones.
func lineTexts() []string {
	return []string{
		"* 0 exists", "* 7 exists", "* 30 exists", "* 1 expunge", "* 28 expunge",
		"* 2 fetch (uid 7 flags (seen deleted) modseq 4)", "* 30 fetch (uid 9999 flags () modseq 100000)",
		"* 1 fetch (uid 1 flags (seen answered flagged deleted draft) modseq 1)", "* 10 fetch (uid 1200 flags (draft) modseq 305)",
		"* vanished 5", "* vanished 1:9999", "* vanished 1:3,5,17:20,9999", "* valid 1 modseq 1", "* valid 9999 modseq 100000 all", "* valid 3 modseq 8 all",
		"* search", "* search 9", "* search 10:12", "* search 1,3:4,100", "ok", "no 1", "no 9", "bye",
	}
}

func TestLineKinds(t *testing.T) {
	got := []int{impl.LnExists, impl.LnExpunge, impl.LnFetch, impl.LnVanished, impl.LnValid, impl.LnSearch, impl.LnOk, impl.LnNo, impl.LnBye}
	if want := []int{1, 2, 3, 4, 5, 6, 7, 8, 9}; !slices.Equal(got, want) {
		t.Errorf("the kinds are %v; want %v", got, want)
	}
}

func TestLineTexts(t *testing.T) {
	for _, c := range []struct {
		line impl.Line
		text string
	}{
		{impl.Line{Kind: 1}, "* 0 exists"},
		{impl.Line{Kind: 1, Num: 1}, "* 1 exists"},
		{impl.Line{Kind: 1, Num: 30}, "* 30 exists"},
		{impl.Line{Kind: 2, Num: 1}, "* 1 expunge"},
		{impl.Line{Kind: 2, Num: 30}, "* 30 expunge"},
		{impl.Line{Kind: 3, Num: 1, Uid: 1, Mod: 1}, "* 1 fetch (uid 1 flags () modseq 1)"},
		{impl.Line{Kind: 3, Num: 2, Uid: 7, Flags: 9, Mod: 4}, "* 2 fetch (uid 7 flags (seen deleted) modseq 4)"},
		{impl.Line{Kind: 3, Num: 30, Uid: 9999, Flags: 31, Mod: 100000}, "* 30 fetch (uid 9999 flags (seen answered flagged deleted draft) modseq 100000)"},
		{impl.Line{Kind: 3, Num: 5, Uid: 10, Flags: 6, Mod: 20}, "* 5 fetch (uid 10 flags (answered flagged) modseq 20)"},
		{impl.Line{Kind: 4, Set: setOf(span(1, 1))}, "* vanished 1"},
		{impl.Line{Kind: 4, Set: setOf(span(2, 4))}, "* vanished 2:4"},
		{impl.Line{Kind: 4, Set: setOf(span(1, 3), span(5, 5), span(9, 9999))}, "* vanished 1:3,5,9:9999"},
		{impl.Line{Kind: 5, Num: 1, Mod: 1}, "* valid 1 modseq 1"},
		{impl.Line{Kind: 5, Num: 3, Mod: 8, All: true}, "* valid 3 modseq 8 all"},
		{impl.Line{Kind: 5, Num: 9999, Mod: 100000}, "* valid 9999 modseq 100000"},
		{impl.Line{Kind: 5, Num: 9999, Mod: 100000, All: true}, "* valid 9999 modseq 100000 all"},
		{impl.Line{Kind: 6}, "* search"},
		{impl.Line{Kind: 6, Set: []impl.Range{}}, "* search"},
		{impl.Line{Kind: 6, Set: setOf(span(9999, 9999))}, "* search 9999"},
		{impl.Line{Kind: 6, Set: setOf(span(1, 2), span(4, 4))}, "* search 1:2,4"},
		{impl.Line{Kind: 7}, "ok"},
		{impl.Line{Kind: 8, Num: 1}, "no 1"},
		{impl.Line{Kind: 8, Num: 9}, "no 9"},
		{impl.Line{Kind: 9}, "bye"},
	} {
		wantRightLine(t, c.line, c.text)
	}
	for _, text := range lineTexts() {
		if !wantTextAsPlain(t, text) {
			t.Errorf("%q is that of no line", text)
		}
	}
}

// lineChange puts something into one field of a line.
type lineChange struct {
	field string
	do    func(x *impl.Line)
}

func changedLine(x impl.Line, c lineChange) impl.Line {
	c.do(&x)
	return x
}

// lineNumbers has the fields that are numbers, each with its rule.
func lineNumbers() map[string]struct {
	put  func(x *impl.Line, n int)
	ends func(rule lineRule) [2]int
} {
	return map[string]struct {
		put  func(x *impl.Line, n int)
		ends func(rule lineRule) [2]int
	}{
		"Num":   {func(x *impl.Line, n int) { x.Num = n }, func(r lineRule) [2]int { return r.num }},
		"Uid":   {func(x *impl.Line, n int) { x.Uid = n }, func(r lineRule) [2]int { return r.uid }},
		"Flags": {func(x *impl.Line, n int) { x.Flags = n }, func(r lineRule) [2]int { return r.flags }},
		"Mod":   {func(x *impl.Line, n int) { x.Mod = n }, func(r lineRule) [2]int { return r.mod }},
	}
}

// farNumbers are right in no field, though some of them would be in fewer bits.
func farNumbers() []int {
	return []int{math.MinInt, math.MinInt + 1, math.MinInt32, -1 << 32, -100000, -65535, -9999, -30, -2, -1, 1 << 20, 1<<32 + 1, 1<<32 + 30, 1 << 40, math.MaxInt32, math.MaxInt - 1, math.MaxInt}
}

// A number of each Kind is right from its least to its greatest, and nowhere else; one that is not used is 0.
func TestLineLimits(t *testing.T) {
	for kind, rule := range lineRules() {
		for field, number := range lineNumbers() {
			ends := number.ends(rule)
			for _, n := range append(farNumbers(), ends[0]-1, ends[0], ends[0]+1, ends[1]-1, ends[1], ends[1]+1, 0, 1, 2, 9, 10, 30, 31, 32, 9999, 10000, 100000, 100001, 257, 65537) {
				x := someLine(kind)
				number.put(&x, n)
				if right := wantLineAsPlain(t, x); right != (n >= ends[0] && n <= ends[1]) {
					t.Fatalf("kind %d with the %s %d: right is %v", kind, field, n, right)
				}
			}
		}
	}
	for _, c := range []struct {
		line  impl.Line
		right bool
	}{
		{numLine(lnExists, -1), false}, {numLine(lnExists, 0), true}, {numLine(lnExists, 30), true}, {numLine(lnExists, 31), false},
		{numLine(lnExpunge, 0), false}, {numLine(lnExpunge, 1), true}, {numLine(lnExpunge, 30), true}, {numLine(lnExpunge, 31), false},
		{fetchLine(0, 1, 0, 1), false}, {fetchLine(1, 1, 0, 1), true}, {fetchLine(30, 1, 0, 1), true}, {fetchLine(31, 1, 0, 1), false},
		{fetchLine(1, 0, 0, 1), false}, {fetchLine(1, 9999, 0, 1), true}, {fetchLine(1, 10000, 0, 1), false},
		{fetchLine(1, 1, -1, 1), false}, {fetchLine(1, 1, 31, 1), true}, {fetchLine(1, 1, 32, 1), false},
		{fetchLine(1, 1, 0, 0), false}, {fetchLine(1, 1, 0, 100000), true}, {fetchLine(1, 1, 0, 100001), false},
		{validLine(0, 1, true), false}, {validLine(1, 1, true), true}, {validLine(9999, 1, false), true}, {validLine(10000, 1, false), false},
		{validLine(1, 0, true), false}, {validLine(1, 100000, true), true}, {validLine(1, 100001, true), false},
		{numLine(lnNo, 0), false}, {numLine(lnNo, 1), true}, {numLine(lnNo, 9), true}, {numLine(lnNo, 10), false},
	} {
		if right := wantLineAsPlain(t, c.line); right != c.right {
			t.Errorf("%s: right is %v", lineTold(c.line), right)
		}
	}
}

// Every right number comes back, in every field.
func TestLinesOfAllNumbers(t *testing.T) {
	for n := range 31 {
		wantRightLine(t, numLine(lnExists, n), "* "+strconv.Itoa(n)+" exists")
	}
	for n := 1; n <= 30; n++ {
		wantRightLine(t, numLine(lnExpunge, n), "* "+strconv.Itoa(n)+" expunge")
		for bits := range 32 {
			wantLineAsPlain(t, fetchLine(n, n*331, bits, 100001-n*3))
		}
	}
	for n := 1; n <= 9999; n++ {
		word := strconv.Itoa(n)
		wantRightLine(t, fetchLine(1, n, 0, 1), "* 1 fetch (uid "+word+" flags () modseq 1)")
		wantRightLine(t, validLine(n, 1, n%2 == 0), "* valid "+word+" modseq 1"+strings.Repeat(" all", 1-n%2))
		wantRightLine(t, setLine(lnSearch, span(n, n)), "* search "+word)
		wantRightLine(t, setLine(lnVanished, span(n, n)), "* vanished "+word)
	}
	for n := 1; n <= 100000; n += 7 {
		word := strconv.Itoa(n)
		wantRightLine(t, fetchLine(30, 9999, 31, n), "* 30 fetch (uid 9999 flags (seen answered flagged deleted draft) modseq "+word+")")
		wantRightLine(t, validLine(9999, n, true), "* valid 9999 modseq "+word+" all")
	}
	for n := 1; n <= 9; n++ {
		wantRightLine(t, numLine(lnNo, n), "no "+strconv.Itoa(n))
	}
}

// lineChanges fill fields that may not be used: each alone with several values.
func lineChanges() []lineChange {
	var list []lineChange
	for field, number := range lineNumbers() {
		for _, n := range []int{1, 2, 9, 30, -1, 16, 10000, 1 << 32, math.MinInt, math.MaxInt} {
			list = append(list, lineChange{field, func(x *impl.Line) { number.put(x, n) }})
		}
	}
	for _, s := range [][]impl.Range{setOf(span(1, 1)), setOf(span(2, 9), span(11, 11)), setOf(span(0, 0)), setOf(span(5, 4)), sparse(41, 1, 1, 1)} {
		list = append(list, lineChange{"Set", func(x *impl.Line) { x.Set = s }})
	}
	return append(list, lineChange{"All", func(x *impl.Line) { x.All = true }})
}

// lineUses has the fields that each Kind uses.
func lineUses() map[int]string {
	return map[int]string{lnExists: "Num", lnExpunge: "Num", lnFetch: "Num Uid Flags Mod", lnVanished: "Set", lnValid: "Num Mod All", lnSearch: "Set", lnOk: "", lnNo: "Num", lnBye: ""}
}

// What a Kind does not use is zero; each field is filled alone, and two by two.
func TestLinesOfWhatIsNotUsed(t *testing.T) {
	for kind, uses := range lineUses() {
		for _, c := range lineChanges() {
			x := changedLine(someLine(kind), c)
			if strings.Contains(uses, c.field) {
				wantLineAsPlain(t, x)
				continue
			}
			wantWrongLine(t, x)
			for _, d := range lineChanges() {
				if d.field != c.field {
					wantWrongLine(t, changedLine(x, d))
				}
			}
		}
		// A list without anything is zero, be there room behind it or not.
		for _, s := range [][]impl.Range{nil, {}, setOf(span(1, 1))[:0], make([]impl.Range, 0, 9)} {
			x := someLine(kind)
			x.Set = s
			if right := wantLineAsPlain(t, x); right == (kind == lnVanished) {
				t.Errorf("kind %d without a set: right is %v", kind, right)
			}
		}
	}
}

func TestLinesOfWrongKinds(t *testing.T) {
	for _, kind := range []int{0, 10, 11, -1, -9, -8, 255, 257, 1<<32 + 1, 1<<32 + 7, math.MinInt, math.MaxInt} {
		wantWrongLine(t, impl.Line{Kind: kind})
		for _, x := range someLines() {
			x.Kind = kind
			wantWrongLine(t, x)
		}
		for _, c := range lineChanges() {
			wantWrongLine(t, changedLine(impl.Line{Kind: kind}, c))
		}
	}
	wantWrongLine(t, impl.Line{})
}

func TestLinesOfSets(t *testing.T) {
	for _, s := range rightSets() {
		if right := wantLineAsPlain(t, setLine(lnVanished, s...)); right != (len(s) > 0) {
			t.Errorf("LnVanished of %v: right is %v", s, right)
		}
		if !wantLineAsPlain(t, setLine(lnSearch, s...)) {
			t.Errorf("LnSearch of %v is not right", s)
		}
	}
	for _, s := range append(wrongSets(), someWrongSets()...) {
		wantWrongLine(t, setLine(lnVanished, s...))
		wantWrongLine(t, setLine(lnSearch, s...))
	}
	for count := range 45 {
		for _, s := range [][]impl.Range{sparse(count, 1, 1, 1), sparse(count, 9000, 3, 17), sparse(count, 1, 200, 1)} {
			vanished, search := wantLineAsPlain(t, setLine(lnVanished, s...)), wantLineAsPlain(t, setLine(lnSearch, s...))
			if vanished != (count >= 1 && count <= 40) || search != (count <= 40) {
				t.Errorf("sets of %d ranges: right are %v, %v", count, vanished, search)
			}
		}
	}
}

// Of whatever fields a line is put together, it is right by its Kind's rule alone.
func TestLinesOfAllMixtures(t *testing.T) {
	right := 0
	sets := [][]impl.Range{nil, setOf(span(4, 4)), setOf(span(3, 9), span(10, 10))}
	for kind := -1; kind <= 11; kind++ {
		for _, num := range []int{-1, 0, 1, 9, 10, 30, 31, 9999, 10000} {
			for _, uid := range []int{-1, 0, 1, 9999, 10000} {
				for _, bits := range []int{-1, 0, 1, 31, 32} {
					for _, mod := range []int{-1, 0, 1, 100000, 100001} {
						for _, s := range sets {
							for _, all := range []bool{false, true} {
								right += boolNumber(wantLineAsPlain(t, impl.Line{Kind: kind, Num: num, Uid: uid, Flags: bits, Mod: mod, Set: s, All: all}))
							}
						}
					}
				}
			}
		}
	}
	// By the rules: LnExists 5, LnExpunge 4, LnFetch 4*2*3*2, LnVanished 1, LnValid 6*2*2, LnSearch 2, LnOk 1, LnNo 2, LnBye 1.
	if want := 5 + 4 + 48 + 1 + 24 + 2 + 1 + 2 + 1; right != want {
		t.Errorf("%d of the mixtures are right; want %d", right, want)
	}
}

// A text that is cut is that of no line, but where what is left is one itself.
func TestReadLineOfCutTexts(t *testing.T) {
	texts := lineTexts()
	for _, x := range []impl.Line{setLine(lnVanished, sparse(40, 1, 1, 1)...), setLine(lnSearch, sparse(40, 1000, 3, 7)...)} {
		texts = append(texts, plainLineText(x))
	}
	for _, text := range texts {
		for at := range len(text) {
			wantTextAsPlain(t, text[:at])
			if wantTextAsPlain(t, text[at+1:]) {
				t.Errorf("%q without its beginning is a line", text)
			}
			wantTextAsPlain(t, text[:at]+text[at+1:])
			for end := at + 2; end <= len(text); end++ {
				wantTextAsPlain(t, text[:at]+text[end:])
			}
		}
	}
	for _, text := range []string{"* 12 exist", "* 12 ", "* 12", "* 1", "*", "* ", "", "o", "b", "by", "n", "no", "no ", "* searc", "* search ", "* vanished ", "* vanished", "* valid 3 modseq 8 al", "* valid 3 modseq 8 ", "* valid 3 modseq ", "* valid 3", "* 2 fetch (uid 7 flags (seen deleted) modseq 4", "* 2 fetch (uid 7 flags (seen deleted)", "* 2 fetch (uid 7 flags (seen deleted", "* 2 fetch (uid 7"} {
		wantNoLine(t, text)
	}
}

// Bytes may come in, go, or be others at each place: just what is the text of a line is read.
func TestReadLineOfOtherBytes(t *testing.T) {
	right := 0
	for _, text := range lineTexts() {
		for at := range len(text) + 1 {
			for c := range 256 {
				one := string([]byte{byte(c)})
				right += boolNumber(wantTextAsPlain(t, text[:at]+one+text[at:]))
				if at < len(text) {
					right += boolNumber(wantTextAsPlain(t, text[:at]+one+text[at+1:]))
				}
			}
		}
		for _, odd := range append(oddTexts(), "\n", "\r\n", "\x00", " ", "  ", ")", "()", "*", "* ", "0", "1", " all", " ok", "ok", "\nok", " all all") {
			wantTextAsPlain(t, text+odd)
			wantTextAsPlain(t, odd+text)
		}
	}
	if right < 400 {
		t.Errorf("just %d of the texts are those of lines", right)
	}
}

func TestReadLineOfBytesBehind(t *testing.T) {
	for _, x := range someLines() {
		text := plainLineText(x)
		for _, more := range []string{" ", "\n", "\r", "\r\n", "\x00", ")", ".", "x", "*", "-", "\xff", "\u00a0", "ok", " ok", " all x"} {
			wantNoLine(t, text+more)
			wantNoLine(t, more+text)
		}
	}
	for _, text := range []string{"ok 1", "ok0", "okk", "bye bye", "byee", "no 10", "no 1 ", "no 1 2", "no 11", "* searchx", "* search all", "* 1 exists all", "* 1 exists 1", "* 1 expunged", "* valid 3 modseq 8 all all", "* valid 3 modseq 8 allx", "* 2 fetch (uid 7 flags () modseq 4))", "* 2 fetch (uid 7 flags () modseq 4) all"} {
		wantNoLine(t, text)
	}
}

// Between two words stands one blank, and none ahead of the first or behind the last.
func TestReadLineOfBlanks(t *testing.T) {
	for _, text := range lineTexts() {
		for at := range len(text) + 1 {
			for _, blanks := range []string{" ", "  ", "\t", "\n", "\u00a0"} {
				wantNoLine(t, text[:at]+blanks+text[at:])
			}
			if at == len(text) || text[at] != ' ' {
				continue
			}
			wantNoLine(t, text[:at]+text[at+1:])
			for _, other := range []string{"\t", "\n", "_", "\u00a0", "\x00", "-"} {
				wantNoLine(t, text[:at]+other+text[at+1:])
			}
		}
		wantNoLine(t, strings.ReplaceAll(text+" ", " ", "  "))
		wantNoLine(t, " "+text+" ")
	}
}

// The words are in small letters.
func TestReadLineOfGreatLetters(t *testing.T) {
	for _, text := range lineTexts() {
		letters := 0
		for at := range len(text) {
			letters += boolNumber(strings.IndexByte(smallOnes, text[at]) >= 0)
		}
		for i := range letters {
			wantNoLine(t, mixed(text, 1<<i))
			wantNoLine(t, mixed(text, -1<<i))
		}
	}
	for _, text := range []string{"OK", "Ok", "BYE", "Bye", "NO 1", "No 1", "* 1 EXISTS", "* 1 Expunge", "* SEARCH", "* Valid 3 modseq 8", "* valid 3 modseq 8 ALL", "* VANISHED 1", "* 2 FETCH (UID 7 FLAGS () MODSEQ 4)", "* 2 fetch (uid 7 flags (Seen) modseq 4)"} {
		wantNoLine(t, text)
	}
}

// otherNumbers are words that Decimal writes of no number, or of none that is right anywhere.
func otherNumbers() []string {
	return []string{
		"", "00", "01", "001", "07", "007", "000000001", "+1", "-1", "-0", "+0", "--1", "1.0", "1.", ".1", "1e0", "1e1", "0x1", "0b1", "0o7", "1_0", "1,", ",1", "a", "one", "*", "1:", ":1",
		" 1", "1 ", "1 1", "\u0661", "\u00b2", "1\x00", "\xff", "100001", "100002", "999999", "1000000", "1000000000", "1000000001", "4294967297", "4294967326", "18446744073709551617", "18446744073709551623",
		"9223372036854775807", "9223372036854775808", "-9223372036854775808", "340282366920938463463374607431768211457", strings.Repeat("0", 5000) + "1", strings.Repeat("9", 5000), "1" + strings.Repeat("0", 5000),
	}
}

// numberForms has the texts of lines with a gap for a number, and how great this may be at least and at most.
func numberForms() map[string][2]int {
	return map[string][2]int{
		"* # exists": {0, 30}, "* # expunge": {1, 30}, "no #": {1, 9}, "* valid # modseq 1": {1, 9999}, "* valid # modseq 100000 all": {1, 9999}, "* valid 1 modseq #": {1, 100000}, "* valid 9999 modseq # all": {1, 100000},
		"* # fetch (uid 7 flags () modseq 4)": {1, 30}, "* 1 fetch (uid # flags (seen) modseq 4)": {1, 9999}, "* 30 fetch (uid 9999 flags (seen draft) modseq #)": {1, 100000},
		"* vanished #": {1, 9999}, "* search #": {1, 9999}, "* search #:9999": {1, 9998}, "* vanished 1:#": {2, 9999}, "* vanished 1,#": {3, 9999},
	}
}

func TestReadLineOfNumbers(t *testing.T) {
	for form, ends := range numberForms() {
		put := func(word string) string { return strings.ReplaceAll(form, "#", word) }
		for _, word := range otherNumbers() {
			wantNoLine(t, put(word))
		}
		for _, n := range append(farNumbers(), ends[0]-2, ends[0]-1, ends[0], ends[0]+1, ends[1]-1, ends[1], ends[1]+1, ends[1]+2, 10*ends[1]) {
			text := put(strconv.Itoa(n))
			if right := wantTextAsPlain(t, text); right != between(n, ends) {
				t.Errorf("%q: right is %v", text, right)
			}
			if n >= 0 {
				for _, ahead := range []string{"0", "00", "+", "-", " ", "0x"} {
					wantNoLine(t, put(ahead+strconv.Itoa(n)))
				}
			}
		}
	}
}

// Flags are told in the order of their bits, each once and in small letters; ReadFlags takes more.
func TestReadLineOfFlags(t *testing.T) {
	put := func(flags string) string { return "* 3 fetch (uid 7 flags " + flags + " modseq 9)" }
	for bits := range 32 {
		wantRightLine(t, fetchLine(3, 7, bits, 9), put(plainFlagsText(bits)))
	}
	right := 0
	for _, words := range orders(flagWords()) {
		right += boolNumber(wantTextAsPlain(t, put(textOf(words...))))
		for i := range words {
			wantNoLine(t, put(textOf(append(slices.Clone(words), words[i])...)))
			wantNoLine(t, put(textOf(slices.Insert(slices.Clone(words), i, words[i])...)))
			great := slices.Clone(words)
			great[i] = strings.ToUpper(great[i])
			wantNoLine(t, put(textOf(great...)))
		}
	}
	if right != 32 {
		t.Errorf("%d orders of the flags are read; want 32", right)
	}
	for _, flags := range []string{"", "(", ")", "seen", "(seen", "seen)", "((seen))", "( )", "( seen)", "(seen )", "(seen  draft)", "(seen,draft)", "(seen)(draft)", "(seen) (draft)", "()()", "() ", " ()", "(x)", "(unseen)", "(all)", "0", "1", "9", "[seen]", "(seen) modseq 9) ", "\"()\"", "(see)", "(seens)", "(\\seen)", "(\xff)"} {
		wantNoLine(t, put(flags))
	}
}

// Sets are told as SetText tells them; ReadSet takes more.
func TestReadLineOfSets(t *testing.T) {
	for _, head := range []string{"* vanished ", "* search "} {
		for _, s := range rightSets() {
			if len(s) > 0 {
				wantTextAsPlain(t, head+plainSetText(s))
			}
		}
		for _, s := range append(wrongSets(), someWrongSets()...) {
			wantNoLine(t, head+plainSetText(s))
		}
		for _, text := range []string{
			"", ",", ":", "*", "1:*", "*:1", "*:*", "5,*", "*,5", "1:1", "7:7", "3:1", "2,1", "1,1", "1,2", "1:2,3", "1:3,2", "1:3,3:5", "1:3,4:5", "1:9,2:3", "5,1:3", "7:9,1:3,5", "9999:1", "1,3,2",
			"0", "0:1", "10000", "1:10000", "01", "1:02", "0001", "00001", "1,,3", ",1", "1,", "1:", ":3", "1:2:3", "1::3", "1 ,3", "1, 3", "1 3", " 1", "1 ", "1;3", "1-3", "+1", "-1", "1:-3", "(1)", "1.", "a", "1,a", "\xff", "1\n", "all", "1 all", "1)",
			singles(41, 2), singles(41, 1), singles(40, 1), singles(5, 1), singles(200, 40), singles(40, 2) + ",*", strings.Repeat("1,", 3000) + "1", strings.Repeat("7", 3000), strings.Repeat(",", 3000),
		} {
			wantNoLine(t, head+text)
		}
		wantTextAsPlain(t, head+singles(40, 2))
		wantTextAsPlain(t, head+singles(40, 250))
	}
	if !wantTextAsPlain(t, "* search "+singles(40, 2)) || !wantTextAsPlain(t, "* vanished "+singles(40, 250)) {
		t.Error("a set of 40 numbers is not read")
	}
}

// Texts that tell a line that is not right tell none.
func TestReadLineOfWrongLines(t *testing.T) {
	for _, x := range someLines() {
		for _, c := range lineChanges() {
			y := changedLine(x, c)
			if strings.Contains(lineUses()[x.Kind], c.field) && !plainLineOk(y) {
				wantNoLine(t, lineTextOf(y, plainSetText(y.Set), plainFlagsText(0)+strings.Repeat("x", boolNumber(y.Flags < 0 || y.Flags > 31))))
			}
		}
	}
}

func TestReadLineOfOtherTexts(t *testing.T) {
	for _, text := range []string{
		"", " ", "*", "**", "* *", "1", "exists", "* exists", "1 exists", "*1 exists", "* 1exists", "* -1 exists", "* 1 exist", "* one exists", "expunge 1", "* expunge 1", "* exists 1", "* expunge", "fetch", "* 1 fetch", "* 1 fetch ()", "* fetch 1 (uid 7 flags () modseq 4)",
		"* 1 fetch (flags () uid 7 modseq 4)", "* 1 fetch (uid 7 modseq 4 flags ())", "* 1 fetch (uid 7 flags ())", "* 1 fetch (uid 7 modseq 4)", "* 1 fetch uid 7 flags () modseq 4", "* 1 fetch [uid 7 flags () modseq 4]", "* 1 fetch (uid 7 flags () modseq (4))",
		"vanished 1", "* vanished", "* vanish 1", "* 1 vanished", "valid 3 modseq 8", "* valid 3", "* valid modseq 8", "* valid 3 8", "* valid 3 all", "* valid 3 all modseq 8", "* 3 valid modseq 8", "* valid 3 mod 8", "search", "* 1 search", "*search", "* search,1", "* search1", "* search:1",
		"* ok", "* no 1", "* bye", "OK", "0k", "no", "no one", "no 0", "no -1", "no1", "nope", "yes", "ok ok", "ok\nok", "bye ", "\"ok\"", "ok.", "* 1 exists * 1 exists", "a1 ok", "* 1 recent", "\xef\xbb\xbfok", "\u24de\u24da",
	} {
		wantNoLine(t, text)
	}
	for _, text := range append(oddTexts(), allBytes()) {
		wantNoLine(t, text)
		for _, head := range []string{"* ", "* search ", "* vanished ", "* valid ", "* 1 fetch (uid ", "* 1 fetch (uid 7 flags ", "* 1 fetch (uid 7 flags () modseq ", "no ", "ok", "* 1"} {
			wantNoLine(t, head+text)
		}
	}
	for _, one := range []string{" ", "* ", "0", "9", "(", ")", "1,", "ok", "* search ", "no 1", "* 1 exists", "* 1 fetch (uid 7 flags (", "\x00", "\xff"} {
		wantNoLine(t, strings.Repeat(one, 20000))
	}
}

// Every text of few bytes is read as the document tells.
func TestReadLineOfShortTexts(t *testing.T) {
	letters := "okbyen 019*)s"
	right := 0
	texts := []string{""}
	for size := range 5 {
		var longer []string
		for _, text := range texts {
			right += boolNumber(wantTextAsPlain(t, text))
			if size < 4 {
				for i := range len(letters) {
					longer = append(longer, text+letters[i:i+1])
				}
			}
		}
		texts = longer
	}
	// These are ok, bye, no 1 and no 9.
	if right != 4 {
		t.Errorf("%d of the short texts are those of lines; want 4", right)
	}
}

// linePieces are words and parts of words of the texts of lines, right ones and others.
func linePieces() []string {
	return []string{"* ", "*", " ", "0", "1", "7", "30", "31", "9999", "10000", "100000", "100001", "01", " exists", " expunge", " fetch (uid ", " flags ", "()", "(seen)", "(seen draft)", "(draft seen)", "(Seen)", " modseq ", ")", "vanished ", "valid ", " all", "search", "search ", "1:3", "1:3,5", "5,1:3", "1,2", "*:3", ",", ":", "ok", "no ", "bye"}
}

func TestReadLineOfDrawnPieces(t *testing.T) {
	r := rand.New(rand.NewSource(131))
	pieces := linePieces()
	right := 0
	for range 60000 {
		text := ""
		for range r.Intn(5) {
			text += pieces[r.Intn(len(pieces))]
		}
		right += boolNumber(wantTextAsPlain(t, text))
	}
	// A text of the right form, with pieces drawn for its words.
	forms := []string{"* # exists", "* # expunge", "* # fetch (uid # flags # modseq #)", "* vanished #", "* valid # modseq #", "* valid # modseq # all", "* search #", "no #"}
	for range 60000 {
		words := strings.Split(forms[r.Intn(len(forms))], "#")
		text := words[0]
		for _, word := range words[1:] {
			text += pieces[r.Intn(len(pieces))] + word
		}
		right += boolNumber(wantTextAsPlain(t, text))
	}
	if right < 3000 {
		t.Errorf("just %d of the texts are those of lines", right)
	}
}

func drawnFrom(r *rand.Rand, ends [2]int) int { return ends[0] + r.Intn(ends[1]-ends[0]+1) }

// drawnLine is a right line of any Kind.
func drawnLine(r *rand.Rand) impl.Line {
	kind := 1 + r.Intn(9)
	rule := lineRules()[kind]
	x := impl.Line{Kind: kind, Num: drawnFrom(r, rule.num), Uid: drawnFrom(r, rule.uid), Flags: drawnFrom(r, rule.flags), Mod: drawnFrom(r, rule.mod), All: rule.all && r.Intn(2) == 0}
	for rule.ranges[1] > 0 {
		if x.Set = drawnSet(r); len(x.Set) >= rule.ranges[0] {
			break
		}
	}
	return x
}

func TestDrawnLinesComeBack(t *testing.T) {
	r := rand.New(rand.NewSource(132))
	changes := lineChanges()
	told := map[string]impl.Line{}
	for range 20000 {
		x := drawnLine(r)
		if !wantLineAsPlain(t, x) {
			t.Fatalf("%s is not right", lineTold(x))
		}
		text := plainLineText(x)
		if y, there := told[text]; there && !sameLine(x, y) {
			t.Fatalf("%q is the text of two lines", text)
		}
		told[text] = x
		wantLineAsPlain(t, changedLine(x, changes[r.Intn(len(changes))]))
		at := r.Intn(len(text))
		wantTextAsPlain(t, turned(text, at, 1<<r.Intn(8)))
		wantTextAsPlain(t, text[:at]+text[at+1:])
	}
}

// someSeens has count of them, no two alike.
func someSeens(count int) []impl.Seen {
	list := []impl.Seen{}
	for i := range count {
		list = append(list, impl.Seen{Uid: 3*i + 2, Flags: i * 7 % 32, Mod: 900 - i})
	}
	return list
}

func TestTakeLine(t *testing.T) {
	a, b, c, none := impl.Seen{Uid: 3, Flags: 1, Mod: 9}, impl.Seen{Uid: 4, Flags: 2, Mod: 8}, impl.Seen{Uid: 8, Flags: 16, Mod: 30}, impl.Seen{}
	z := impl.Seen{Uid: 70, Flags: 5, Mod: 31}
	all := []impl.Seen{a, b, c}
	for _, x := range []struct {
		list []impl.Seen
		line impl.Line
		want []impl.Seen
	}{
		{nil, numLine(lnExists, 0), nil},
		{nil, numLine(lnExists, 2), []impl.Seen{none, none}},
		{all, numLine(lnExists, 0), nil},
		{all, numLine(lnExists, 1), []impl.Seen{a}},
		{all, numLine(lnExists, 2), []impl.Seen{a, b}},
		{all, numLine(lnExists, 3), []impl.Seen{a, b, c}},
		{all, numLine(lnExists, 4), []impl.Seen{a, b, c, none}},
		{all, numLine(lnExists, 5), []impl.Seen{a, b, c, none, none}},
		{all, numLine(lnExists, -1), all},
		{all, numLine(lnExists, 31), all},
		{all, numLine(lnExpunge, 1), []impl.Seen{b, c}},
		{all, numLine(lnExpunge, 2), []impl.Seen{a, c}},
		{all, numLine(lnExpunge, 3), []impl.Seen{a, b}},
		{all, numLine(lnExpunge, 0), all},
		{all, numLine(lnExpunge, -1), all},
		{all, numLine(lnExpunge, 4), all},
		{[]impl.Seen{a}, numLine(lnExpunge, 1), nil},
		{nil, numLine(lnExpunge, 1), nil},
		{nil, numLine(lnExpunge, 0), nil},
		{all, fetchLine(1, 70, 5, 31), []impl.Seen{z, b, c}},
		{all, fetchLine(2, 70, 5, 31), []impl.Seen{a, z, c}},
		{all, fetchLine(3, 70, 5, 31), []impl.Seen{a, b, z}},
		{all, fetchLine(0, 70, 5, 31), all},
		{all, fetchLine(-1, 70, 5, 31), all},
		{all, fetchLine(4, 70, 5, 31), all},
		{nil, fetchLine(1, 70, 5, 31), nil},
		{all, impl.Line{Kind: lnBye}, nil},
		{nil, impl.Line{Kind: lnBye}, nil},
		{all, setLine(lnVanished, span(3, 4)), all},
		{all, validLine(2, 5, true), all},
		{all, setLine(lnSearch, span(3, 4)), all},
		{all, impl.Line{Kind: lnOk}, all},
		{all, numLine(lnNo, 1), all},
		{all, impl.Line{}, all},
		{all, numLine(10, 1), all},
		{all, numLine(-1, 1), all},
	} {
		wantTaken(t, x.list, x.line, x.want)
	}
}

// A list grows by new ones that have nothing, and what was there stays in its place; it is cut from its end.
func TestTakeLineOfExists(t *testing.T) {
	for size := range 36 {
		list := someSeens(size)
		for num := -3; num <= 40; num++ {
			got := wantTakenAsPlain(t, list, numLine(lnExists, num))
			if num < 0 || num > 30 {
				if !slices.Equal(got, list) {
					t.Fatalf("%d of %d: not as it is", num, size)
				}
				continue
			}
			both := min(size, num)
			if len(got) != num || !slices.Equal(got[:both], list[:both]) || slices.ContainsFunc(got[both:], func(s impl.Seen) bool { return s != impl.Seen{} }) {
				t.Fatalf("%d of %d: %v", num, size, got)
			}
		}
		for _, num := range farNumbers() {
			wantTaken(t, list, numLine(lnExists, num), list)
		}
	}
	// What stands in the room behind the list was never told.
	room := someSeens(20)
	want := append(slices.Clone(room[:5]), make([]impl.Seen, 4)...)
	wantTaken(t, room[:5], numLine(lnExists, 9), want)
	wantTaken(t, room[:0], numLine(lnExists, 30), make([]impl.Seen, 30))
}

// Every Kind and place, in lists of every size, also beyond MaxMails.
func TestTakeLineOfAllPlaces(t *testing.T) {
	for size := range 35 {
		list := someSeens(size)
		for kind := -1; kind <= 11; kind++ {
			for num := -2; num <= size+2; num++ {
				wantTakenAsPlain(t, list, numLine(kind, num))
				wantTakenAsPlain(t, list, impl.Line{Kind: kind, Num: num, Uid: 500, Flags: 3, Mod: 77, Set: setOf(span(2, 9)), All: true})
			}
			for _, num := range farNumbers() {
				wantTakenAsPlain(t, list, numLine(kind, num))
				wantTakenAsPlain(t, list, impl.Line{Kind: kind, Num: num, Uid: 500, Flags: 3, Mod: 77})
			}
		}
	}
	for _, size := range []int{100, 257, 300, 5000} {
		list := someSeens(size)
		for _, num := range []int{1, 30, 31, 99, 100, 101, 256, 257, 258, 300, 4999, 5000, 5001, 65537, 1<<32 + 1} {
			for kind := range 11 {
				wantTakenAsPlain(t, list, impl.Line{Kind: kind, Num: num, Uid: 9, Flags: 8, Mod: 7})
			}
		}
		wantTaken(t, list, numLine(lnExists, 30), list[:30])
		wantTaken(t, list, numLine(lnExists, 31), list)
	}
}

// A place goes as it is told, whether the line is right or not: the chapter asks for nothing but its Kind and its place.
func TestTakeLineOfWrongLines(t *testing.T) {
	list := someSeens(4)
	for _, kind := range []int{lnExists, lnExpunge, lnFetch, lnVanished, lnValid, lnSearch, lnOk, lnNo, lnBye, 0, 10, -1, math.MinInt, math.MaxInt} {
		for _, c := range lineChanges() {
			for _, num := range []int{0, 1, 4, 5} {
				wantTakenAsPlain(t, list, changedLine(numLine(kind, num), c))
				wantTakenAsPlain(t, list, changedLine(impl.Line{Kind: kind, Num: num, Uid: 3, Flags: 4, Mod: 5, Set: setOf(span(9, 1)), All: true}, c))
			}
		}
	}
	for _, n := range farNumbers() {
		wantTaken(t, list, fetchLine(2, n, 1, 1), []impl.Seen{list[0], {Uid: n, Flags: 1, Mod: 1}, list[2], list[3]})
		wantTaken(t, list, fetchLine(2, 1, n, 1), []impl.Seen{list[0], {Uid: 1, Flags: n, Mod: 1}, list[2], list[3]})
		wantTaken(t, list, fetchLine(2, 1, 1, n), []impl.Seen{list[0], {Uid: 1, Flags: 1, Mod: n}, list[2], list[3]})
	}
	wantTaken(t, list, fetchLine(1, 0, 0, 0), append([]impl.Seen{{}}, list[1:]...))
	// What was seen is not looked at either.
	odd := []impl.Seen{{Uid: -1, Flags: 99, Mod: math.MinInt}, {}, {}, {Uid: math.MaxInt, Flags: -1, Mod: 1}}
	for kind := range 11 {
		for num := -1; num <= 6; num++ {
			wantTakenAsPlain(t, odd, impl.Line{Kind: kind, Num: num, Uid: 1, Flags: 2, Mod: 3})
		}
	}
}

// hall is a box of which the lines are told, one by one.
type hall struct {
	r     *rand.Rand
	mails []impl.Seen
	next  int
	mod   int
}

// lines changes the hall in one way, and tells it.
func (h *hall) lines() []impl.Line {
	at := h.r.Intn(len(h.mails) + 1)
	h.mod++
	switch {
	case h.r.Intn(3) == 0 && len(h.mails) < mostMails:
		h.next++
		h.mails = append(h.mails, impl.Seen{Uid: h.next, Flags: h.r.Intn(32), Mod: h.mod})
		at = len(h.mails) - 1
		return []impl.Line{numLine(lnExists, len(h.mails)), h.fetch(at)}
	case at < len(h.mails) && h.r.Intn(3) == 0:
		h.mails = slices.Delete(h.mails, at, at+1)
		return []impl.Line{numLine(lnExpunge, at+1)}
	case at < len(h.mails):
		h.mails[at].Flags, h.mails[at].Mod = h.r.Intn(32), h.mod
		return []impl.Line{h.fetch(at)}
	}
	return []impl.Line{{Kind: lnOk}, setLine(lnSearch, drawnSet(h.r)...), numLine(lnNo, 1+h.r.Intn(9))}
}

func (h *hall) fetch(at int) impl.Line {
	m := h.mails[at]
	return fetchLine(at+1, m.Uid, m.Flags, m.Mod)
}

// Whoever takes all lines, each read from its text, knows what is there.
func TestDrawnLinesTell(t *testing.T) {
	for seed := range 30 {
		h := hall{r: rand.New(rand.NewSource(int64(1300 + seed)))}
		var known []impl.Seen
		for range 200 {
			for _, x := range h.lines() {
				text, ok := impl.LineText(x)
				read, right := impl.ReadLine(text)
				if !ok || !right {
					t.Fatalf("%s does not come back", lineTold(x))
				}
				known = impl.TakeLine(known, read)
			}
			if !slices.Equal(known, h.mails) {
				t.Fatalf("known is %v; there is %v", known, h.mails)
			}
		}
		wantTaken(t, known, impl.Line{Kind: lnBye}, nil)
	}
}

func spareLine(x impl.Line) impl.Line {
	x.Set = spareSet(x.Set)
	return x
}

// spareSeens is the list with others in the room behind it.
func spareSeens(list []impl.Seen) []impl.Seen {
	whole := append(slices.Clone(list), someSeens(12)...)
	return whole[:len(list)]
}

// takenLines are lines of every Kind, at places that there are in short lists and at others.
func takenLines() []impl.Line {
	var list []impl.Line
	for kind := -1; kind <= 11; kind++ {
		for num := -1; num <= 7; num++ {
			list = append(list, impl.Line{Kind: kind, Num: num, Uid: 50, Flags: 6, Mod: 70, Set: setOf(span(1, 2), span(4, 9))})
		}
		list = append(list, numLine(kind, 30), numLine(kind, 31))
	}
	return list
}

func TestLinesAnswerNewMemory(t *testing.T) {
	for size := range 6 {
		for _, x := range takenLines() {
			list := spareSeens(someSeens(size))
			first, second := impl.TakeLine(list, x), impl.TakeLine(list, x)
			if shares(first, list) || shares(second, list) || shares(first, second) {
				t.Fatalf("TakeLine of %d, %s: an answer shares memory", size, lineTold(x))
			}
		}
	}
	for _, text := range lineTexts() {
		first, _ := impl.ReadLine(text)
		second, _ := impl.ReadLine(text)
		if shares(first.Set, second.Set) {
			t.Errorf("two answers of ReadLine(%q) share a set", text)
		}
	}
}

func TestLinesLeaveArgumentsAlone(t *testing.T) {
	for _, s := range allSets() {
		for kind := -1; kind <= 11; kind++ {
			x := spareLine(impl.Line{Kind: kind, Set: s})
			was := slices.Clone(x.Set[:cap(x.Set)])
			impl.LineOk(x)
			impl.LineText(x)
			impl.TakeLine(someSeens(3), x)
			if !slices.Equal(x.Set[:cap(x.Set)], was) {
				t.Fatalf("a set was written into: kind %d, %v", kind, s)
			}
		}
	}
	for size := range 6 {
		for _, x := range takenLines() {
			list, given := spareSeens(someSeens(size)), spareLine(x)
			was, set := slices.Clone(list[:cap(list)]), slices.Clone(given.Set[:cap(given.Set)])
			impl.TakeLine(list, given)
			if !slices.Equal(list[:cap(list)], was) || !slices.Equal(given.Set[:cap(given.Set)], set) {
				t.Fatalf("TakeLine of %d, %s writes into an argument", size, lineTold(x))
			}
		}
	}
}

// An answer stays what it was, whatever becomes of the arguments and of other answers.
func TestLinesAnswersStand(t *testing.T) {
	for size := range 6 {
		for _, x := range takenLines() {
			list, given := spareSeens(someSeens(size)), spareLine(x)
			got := impl.TakeLine(list, given)
			other := impl.TakeLine(list, given)
			for i := range other {
				other[i] = impl.Seen{Uid: -7}
			}
			clear(list[:cap(list)])
			clear(given.Set[:cap(given.Set)])
			if want := plainTakeLine(someSeens(size), x); !slices.Equal(got, want) {
				t.Fatalf("TakeLine of %d, %s became %v; was %v", size, lineTold(x), got, want)
			}
		}
	}
	x := spareLine(setLine(lnVanished, span(1, 3), span(9, 9)))
	text, _ := impl.LineText(x)
	read, _ := impl.ReadLine(text)
	again, _ := impl.ReadLine(text)
	clear(x.Set[:cap(x.Set)])
	clear(again.Set[:cap(again.Set)])
	if text != "* vanished 1:3,9" || !slices.Equal(read.Set, setOf(span(1, 3), span(9, 9))) {
		t.Errorf("LineText is %q then, ReadLine %v", text, read.Set)
	}
}
