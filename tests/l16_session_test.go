package tests

import (
	"fmt"
	"math"
	"math/rand"
	"regexp"
	"slices"
	"strconv"
	"strings"
	"sync"
	"testing"

	"loop.example/g00247/impl"
)

// reply is all that Serve answers.
type reply struct {
	store   impl.Store
	session impl.Session
	lines   []impl.Line
	edits   []impl.Edit
}

func served(s impl.Store, x impl.Session, words []string) reply {
	store, session, lines, edits := impl.Serve(s, x, words)
	return reply{store, session, lines, edits}
}

func sameSession(a impl.Session, b impl.Session) bool {
	return a.On == b.On && sameView(a.View, b.View)
}

func sameReply(a reply, b reply) bool {
	return sameStore(a.store, b.store) && sameSession(a.session, b.session) && slices.EqualFunc(a.lines, b.lines, sameLine) && sameEdits(a.edits, b.edits)
}

func sessionTold(x impl.Session) string { return fmt.Sprintf("on %v %s", x.On, viewTold(x.View)) }

func replyTold(a reply) string {
	return fmt.Sprintf("%s\n\t%s\n\tedits %s\n\t%s", linesTold(a.lines), sessionTold(a.session), editsTold(a.edits), storeTold(a.store))
}

// editShape is a command that is an edit: its name, what the words behind it are, its kind, and whether it is of the box of a session.
type editShape struct {
	name  string
	words string
	kind  int
	on    bool
}

func editShapes() []editShape {
	return []editShape{
		{"make", "box", edMake, false},
		{"drop", "box", edDrop, false},
		{"add", "box flags text", edAdd, false},
		{"store", "set how flags", edFlag, true},
		{"store", "set how flags since", edFlag, true},
		{"expunge", "", edExpunge, true},
		{"expunge", "set", edExpunge, true},
		{"copy", "set to", edCopy, true},
		{"move", "set to", edMove, true},
	}
}

// plainNumber tells the numbers up to a thousand million.
var plainNumber = regexp.MustCompile(`\A(0|[1-9][0-9]{0,8}|1000000000)\z`)

var plainFlagBits = flagTexts()

// putWord has the field of e as the word tells it, and tells whether it does.
func putWord(e *impl.Edit, field string, word string) bool {
	there := true
	switch field {
	case "box":
		e.Box = word
	case "to":
		e.To = word
	case "text":
		e.Text = word
	case "set":
		e.Set, there = plainReadSet(word, topUid)
	case "flags":
		e.Bits, there = plainFlagBits[plainSmall(word)]
	case "how":
		e.How = 1 + slices.Index([]string{"=", "+", "-"}, word)
	case "since":
		there = plainNumber.MatchString(word)
		e.Since, _ = strconv.Atoi(word)
	}
	return there
}

// plainEditFor is the document's rule: the words are those of a shape, one by one.
func plainEditFor(x impl.Session, words []string) (impl.Edit, bool) {
	for _, shape := range editShapes() {
		fields := strings.Fields(shape.words)
		if len(words) != len(fields)+1 || words[0] != shape.name {
			continue
		}
		e := impl.Edit{Kind: shape.kind}
		if shape.on {
			e.Box = x.View.Box
		}
		if shape.kind == edFlag {
			e.Since = -1
		}
		if shape.kind == edExpunge {
			e.Set = setOf(span(1, 9999))
		}
		right := x.On || !shape.on
		for i, field := range fields {
			right = putWord(&e, field, words[i+1]) && right
		}
		if right && plainEditOk(e) {
			return e, true
		}
	}
	return impl.Edit{}, false
}

// rules are what Serve leans on: the document's plain rules, or what the program answers beside it.
type rules struct {
	storeOk  func(s impl.Store) bool
	boxAt    func(s impl.Store, name string) (impl.Box, bool)
	vanished func(b impl.Box, since int) ([]impl.Range, bool)
	changed  func(b impl.Box, since int) []impl.Mail
	viewOf   func(b impl.Box) impl.View
	tellView func(v impl.View, b impl.Box) (impl.View, []impl.Line)
	readKeys func(words []string) ([]impl.Key, bool)
	search   func(b impl.Box, keys []impl.Key) []impl.Range
	editFor  func(x impl.Session, words []string) (impl.Edit, bool)
	apply    func(s impl.Store, e impl.Edit) (impl.Store, int)
}

func plainRules() rules {
	return rules{plainStoreOk, plainBoxAt, plainVanished, plainChanged, plainViewOf, plainTellView, plainReadKeys, plainSearch, plainEditFor, plainApply}
}

func programRules() rules {
	return rules{impl.StoreOk, impl.BoxAt, impl.Vanished, impl.Changed, impl.ViewOf, impl.TellView, impl.ReadKeys, impl.Search, impl.EditFor, impl.Apply}
}

var okLine = impl.Line{Kind: lnOk}

func refusal(s impl.Store, x impl.Session, code int) reply {
	return reply{s, x, []impl.Line{numLine(lnNo, code)}, nil}
}

// selected is what a `select` of a box that is there answers; since is nothing, or VALID and MOD.
func (r rules) selected(s impl.Store, b impl.Box, since []int) reply {
	from, known := math.MinInt, false
	var gone []impl.Range
	if len(since) > 0 && since[0] == b.Valid && since[1] <= b.Mod {
		if gone, known = r.vanished(b, since[1]); known {
			from = since[1]
		}
	}
	lines := []impl.Line{validLine(b.Valid, b.Mod, !known), numLine(lnExists, len(b.Mails))}
	if len(gone) > 0 {
		lines = append(lines, setLine(lnVanished, gone...))
	}
	for _, m := range r.changed(b, from) {
		place := 1 + slices.IndexFunc(b.Mails, func(other impl.Mail) bool { return other.Uid == m.Uid })
		lines = append(lines, fetchLine(place, m.Uid, m.Flags, m.Mod))
	}
	return reply{s, impl.Session{On: true, View: r.viewOf(b)}, append(lines, okLine), nil}
}

func (r rules) selecting(s impl.Store, x impl.Session, words []string) reply {
	b, there := r.boxAt(s, words[1])
	if !there {
		return refusal(s, x, codeNone)
	}
	var since []int
	for _, word := range words[2:] {
		n, _ := strconv.Atoi(word)
		since = append(since, n)
		if !plainNumber.MatchString(word) {
			return refusal(s, x, codeBad)
		}
	}
	return r.selected(s, b, since)
}

// told is what stands ahead, what changed in the box, and the end.
func (r rules) told(s impl.Store, x impl.Session, ahead []impl.Line, edits []impl.Edit) reply {
	if x.On {
		b, _ := r.boxAt(s, x.View.Box)
		view, lines := r.tellView(x.View, b)
		bye := func(line impl.Line) bool { return line.Kind == lnBye }
		x = impl.Session{On: !slices.ContainsFunc(lines, bye), View: view}
		ahead = append(ahead, lines...)
	}
	return reply{s, x, append(ahead, okLine), edits}
}

// serve is the document's rule for Serve, sentence by sentence.
func (r rules) serve(s impl.Store, x impl.Session, words []string) reply {
	name, count := "", len(words)
	if count > 0 {
		name = words[0]
	}
	switch {
	case !r.storeOk(s):
		return refusal(s, x, codeBad)
	case name == "select" && (count == 2 || count == 4):
		return r.selecting(s, x, words)
	case name == "close" && count == 1:
		return reply{s, impl.Session{}, []impl.Line{okLine}, nil}
	case name == "noop" && count == 1:
		return r.told(s, x, nil, nil)
	case name == "search":
		keys, right := r.readKeys(words[1:])
		if !right || !x.On {
			return refusal(s, x, codeBad)
		}
		b, _ := r.boxAt(s, x.View.Box)
		return r.told(s, x, []impl.Line{setLine(lnSearch, r.search(b, keys)...)}, nil)
	}
	e, right := r.editFor(x, words)
	if !right {
		return refusal(s, x, codeBad)
	}
	became, code := r.apply(s, e)
	if code != 0 {
		return refusal(s, x, code)
	}
	return r.told(became, x, nil, []impl.Edit{e})
}

func wantReply(t *testing.T, s impl.Store, x impl.Session, words []string, got reply, want reply) {
	t.Helper()
	if !sameReply(got, want) {
		t.Fatalf("Serve(%s, %s, %s) = %s;\nwant %s", storeTold(s), sessionTold(x), wordsTold(words), replyTold(got), replyTold(want))
	}
}

// wantServed holds Serve against the document's rule, and against what the program answers beside it.
func wantServed(t *testing.T, s impl.Store, x impl.Session, words ...string) reply {
	t.Helper()
	got := served(s, x, words)
	wantReply(t, s, x, words, got, plainRules().serve(s, x, words))
	wantReply(t, s, x, words, got, programRules().serve(s, x, words))
	return got
}

// wantRefused holds that there is just the code: the store and the session are as they were, and nothing was done.
func wantRefused(t *testing.T, what string, code int, s impl.Store, x impl.Session, words ...string) {
	t.Helper()
	if got, want := served(s, x, words), refusal(s, x, code); !sameReply(got, want) {
		t.Fatalf("with %s Serve(%s, %s, %s) = %s;\nwant no %d", what, storeTold(s), sessionTold(x), wordsTold(words), replyTold(got), code)
	}
}

func wantEditFor(t *testing.T, x impl.Session, want impl.Edit, words ...string) {
	t.Helper()
	if got, ok := impl.EditFor(x, words); !ok || !sameEdit(got, want) || !impl.EditOk(got) {
		t.Fatalf("EditFor(%s, %s) = %s, %v; want %s", sessionTold(x), wordsTold(words), editTold(got), ok, editTold(want))
	}
}

func wantNoEditFor(t *testing.T, x impl.Session, words ...string) {
	t.Helper()
	if got, ok := impl.EditFor(x, words); ok || !sameEdit(got, impl.Edit{}) {
		t.Fatalf("EditFor(%s, %s) = %s, %v; want none", sessionTold(x), wordsTold(words), editTold(got), ok)
	}
}

// wantEditForAsPlain tells whether the words tell an edit, too.
func wantEditForAsPlain(t *testing.T, x impl.Session, words ...string) bool {
	t.Helper()
	want, ok := plainEditFor(x, words)
	if ok {
		wantEditFor(t, x, want, words...)
	} else {
		wantNoEditFor(t, x, words...)
	}
	return ok
}

// lookingAt is a session that was just told all of a box.
func lookingAt(s impl.Store, name string) impl.Session {
	b, _ := plainBoxAt(s, name)
	return impl.Session{On: true, View: plainViewOf(b)}
}

// someSession looks at the inbox of some store.
func someSession() impl.Session { return lookingAt(someStore(), "inbox") }

// notOn is the session with its view, but not on.
func notOn(x impl.Session) impl.Session {
	x.On = false
	return x
}

// textOfLines has the texts of the lines, which are right, with "; " between.
func textOfLines(t *testing.T, lines []impl.Line) string {
	t.Helper()
	var texts []string
	for _, x := range lines {
		text, ok := impl.LineText(x)
		if !ok {
			t.Fatalf("the line %s is not right", lineTold(x))
		}
		texts = append(texts, text)
	}
	return strings.Join(texts, "; ")
}

func wantLines(t *testing.T, s impl.Store, x impl.Session, want string, words ...string) reply {
	t.Helper()
	got := wantServed(t, s, x, words...)
	if text := textOfLines(t, got.lines); text != want {
		t.Fatalf("Serve(%s, %s, %s) tells %q; want %q", storeTold(s), sessionTold(x), wordsTold(words), text, want)
	}
	return got
}

// wordsOf are the words of a command that is told without its end.
func wordsOf(t *testing.T, line string) []string {
	t.Helper()
	words, taken, code := impl.ReadCommand(line + "\r\n")
	if code != 0 || taken != len(line)+2 {
		t.Fatalf("%q is no command", line)
	}
	return words
}

func TestEditForForms(t *testing.T) {
	all, x := setOf(span(1, 9999)), someSession()
	type edit = impl.Edit
	for _, c := range []struct {
		line string
		want edit
	}{
		{"make a", edit{Kind: 1, Box: "a"}},
		{"make inbox", edit{Kind: 1, Box: "inbox"}},
		{"drop zzzzzzzz", edit{Kind: 2, Box: "zzzzzzzz"}},
		{"drop inbox", edit{Kind: 2, Box: "inbox"}},
		{"add work () x", edit{Kind: 3, Box: "work", Text: "x"}},
		{"add inbox (draft SEEN) {4}\r\na\r\nb", edit{Kind: 3, Box: "inbox", Bits: 17, Text: "a\r\nb"}},
		{"store 1 = ()", edit{Kind: 4, Box: "inbox", Set: setOf(span(1, 1)), How: 1, Since: -1}},
		{"store 7,2:3 + (Deleted)", edit{Kind: 4, Box: "inbox", Set: setOf(span(2, 3), span(7, 7)), How: 2, Bits: 8, Since: -1}},
		{"store * - (answered flagged)", edit{Kind: 4, Box: "inbox", Set: setOf(span(9999, 9999)), How: 3, Bits: 6, Since: -1}},
		{"store *:5 = (seen) 0", edit{Kind: 4, Box: "inbox", Set: setOf(span(5, 9999)), How: 1, Bits: 1}},
		{"store 0004 + () 100000", edit{Kind: 4, Box: "inbox", Set: setOf(span(4, 4)), How: 2, Since: 100000}},
		{"expunge", edit{Kind: 5, Box: "inbox", Set: all}},
		{"expunge 4:2", edit{Kind: 5, Box: "inbox", Set: setOf(span(2, 4))}},
		{"expunge 1:*", edit{Kind: 5, Box: "inbox", Set: all}},
		{"copy 3 work", edit{Kind: 6, Box: "inbox", Set: setOf(span(3, 3)), To: "work"}},
		{"copy 3 inbox", edit{Kind: 6, Box: "inbox", Set: setOf(span(3, 3)), To: "inbox"}},
		{"move 9999,1:9 none", edit{Kind: 7, Box: "inbox", Set: setOf(span(1, 9), span(9999, 9999)), To: "none"}},
		{"move 1 inbox", edit{Kind: 7, Box: "inbox", Set: setOf(span(1, 1)), To: "inbox"}},
	} {
		words := wordsOf(t, c.line)
		wantEditFor(t, x, c.want, words...)
		wantEditForAsPlain(t, x, words...)
		// What is of no session's box is told without one, too.
		if c.want.Kind <= 3 {
			wantEditFor(t, impl.Session{}, c.want, words...)
			wantEditFor(t, notOn(x), c.want, words...)
		} else {
			wantNoEditFor(t, impl.Session{}, words...)
			wantNoEditFor(t, notOn(x), words...)
		}
	}
	// What is done some other way is no edit.
	for _, line := range []string{"select inbox", "select inbox 1 1", "close", "search all", "noop", "forget inbox 5", "sync"} {
		wantNoEditFor(t, x, wordsOf(t, line)...)
	}
	wantNoEditFor(t, x)
	wantNoEditFor(t, x, []string{"make", "a"}[:1]...)
	wantNoEditFor(t, x, []string{"expunge"}[:0]...)
}

// rightWords are words that a field may be.
func rightWords(field string) []string {
	return map[string][]string{
		"box":   rightBoxNames(),
		"to":    rightBoxNames(),
		"text":  rightMailTexts(),
		"set":   {"1", "9999", "*", "1:*", "*:*", "3,1:2", "5:3", "0009", "9998:9999,1", singles(40, 2), strings.Repeat("7,", 500) + "7"},
		"flags": {"()", "(seen)", "(Deleted SEEN)", "(draft deleted flagged answered seen)", "(ANSWERED)"},
		"how":   {"=", "+", "-"},
		"since": {"0", "1", "2", "99999", "100000"},
	}[field]
}

// wrongWords are words that a field may not be.
func wrongWords(field string) []string {
	return map[string][]string{
		"box":   wrongBoxNames(),
		"to":    wrongBoxNames(),
		"text":  wrongMailTexts(),
		"set":   {"", "0", "10000", "00001", "1,", ",1", "1,,2", ":", "1:", "1:2:3", "a", "1 2", " 1", "-1", "+1", "(1)", "1-2", "**", "1:0", "0:*", singles(41, 2), "all", "1\n"},
		"flags": {"", "seen", "(seen", "seen)", "(seen seen)", "(seen SEEN)", "( seen)", "(seen )", "(seen  draft)", "( )", "(unseen)", "(recent)", "(seen,draft)", "()()", "(())", "(seen)\n", "1", "31", "=", "(\u017feen)"},
		"how":   {"", "==", "+-", "set", "add", "1", "2", "3", "0", "*", " +", "+ ", "=+", "\uff0b", "\u2212", "+\n", "()"},
		"since": {"", "-1", "-0", "100001", "100002", "1000000000", "1000000001", "00", "01", "0100000", "+1", "1 ", " 1", "1\n", "a", "*", "1:2", "1.0", "0x1", "18446744073709551616", "18446744073709551617", "()"},
	}[field]
}

// shapedWords are the first right words of each field, behind the name.
func shapedWords(shape editShape) []string {
	words := []string{shape.name}
	for _, field := range strings.Fields(shape.words) {
		words = append(words, rightWords(field)[0])
	}
	return words
}

// Each field at each right word and at each wrong one, with all other fields right.
func TestEditForFields(t *testing.T) {
	sessions := []impl.Session{someSession(), lookingAt(someStore(), "work"), {}, notOn(someSession()), {On: true}}
	for _, shape := range editShapes() {
		for i, field := range strings.Fields(shape.words) {
			words := shapedWords(shape)
			for _, x := range sessions {
				may := !shape.on || x.On && x.View.Box != ""
				for _, word := range rightWords(field) {
					words[i+1] = word
					if wantEditForAsPlain(t, x, words...) != may {
						t.Fatalf("EditFor(%s, %s) is %v", sessionTold(x), wordsTold(words), !may)
					}
				}
				for _, word := range wrongWords(field) {
					words[i+1] = word
					wantNoEditFor(t, x, words...)
					wantEditForAsPlain(t, x, words...)
				}
			}
		}
	}
}

// otherNames are names that are not those of the commands.
func otherNames(name string) []string {
	names := []string{strings.ToUpper(name), strings.ToUpper(name[:1]) + name[1:], name[:1] + strings.ToUpper(name[1:]), name + " ", " " + name, name + "\n", name + "\x00", name + name, name[1:], name[:len(name)-1], "", " "}
	return append(names, strings.ReplaceAll(name, "s", "\u017f")+"\u212a")
}

// A word too few and one too many, the name alone, and names in other letters.
func TestEditForShapes(t *testing.T) {
	x := someSession()
	for _, shape := range editShapes() {
		words := shapedWords(shape)
		if !wantEditForAsPlain(t, x, words...) {
			t.Fatalf("%s is no edit", wordsTold(words))
		}
		for count := range words {
			wantEditForAsPlain(t, x, words[:count]...)
			// There are words in the room behind, but none that was handed in.
			wantEditForAsPlain(t, x, slices.Concat(words[:count], []string{""})...)
			wantEditForAsPlain(t, x, slices.Delete(slices.Clone(words), count, count+1)...)
			wantEditForAsPlain(t, x, slices.Insert(slices.Clone(words), count, words[count])...)
			wantEditForAsPlain(t, x, slices.Insert(slices.Clone(words), count, "")...)
			if shape.words != "" && count == len(words)-1 && shape.name+shape.words != "storeset how flags since" && shape.name != "expunge" {
				wantNoEditFor(t, x, words[:count]...)
			}
		}
		for _, more := range []string{"", " ", "a", "0", "1", "()", "inbox", "x"} {
			fits := shape.words == "set how flags" && (more == "0" || more == "1") || shape.name == "expunge" && shape.words == "" && more == "1"
			if wantEditForAsPlain(t, x, append(slices.Clone(words), more)...) != fits {
				t.Errorf("%s and %q: an edit is %v", wordsTold(words), more, !fits)
			}
			wantNoEditFor(t, x, append(slices.Clone(words), more, "1", "1")...)
			wantNoEditFor(t, x, append([]string{more}, words...)...)
		}
		for _, name := range otherNames(shape.name) {
			words[0] = name
			wantNoEditFor(t, x, words...)
		}
	}
}

// All names with all lists of up to four words that may be a field of some shape.
func TestEditForAllWords(t *testing.T) {
	pool := []string{"inbox", "1", "+", "(seen)", "7:*", "()", ""}
	names := []string{"make", "drop", "add", "store", "expunge", "copy", "move", "select", "search", "noop", "close", "Make", ""}
	edits := 0
	for _, x := range []impl.Session{someSession(), notOn(someSession())} {
		for _, name := range names {
			lists := [][]string{{name}}
			for len(lists) > 0 {
				words := lists[0]
				lists = lists[1:]
				edits += boolNumber(wantEditForAsPlain(t, x, words...))
				for _, word := range pool {
					if len(words) < 5 && (len(words) < 4 || name == "store" || name == "add") {
						lists = append(lists, append(slices.Clone(words), word))
					}
				}
			}
		}
	}
	// One name, two sets, one how, two flags, six texts and one number are in the pool: of `make`, `drop`, `add` 14 edits on and off, of the others 15 more.
	if edits != 14+14+15 {
		t.Errorf("%d lists of words tell an edit", edits)
	}
}

// Of a session EditFor asks whether it is on, and for the name of its box: whether its view is right is no matter there.
func TestEditForAsksTheBoxAlone(t *testing.T) {
	for _, c := range slices.Concat(rightViewChanges(), wrongViewChanges()) {
		v := changedView(c)
		for _, shape := range editShapes() {
			words := shapedWords(shape)
			for _, on := range []bool{true, false} {
				may := !shape.on || on && plainBoxName.MatchString(v.Box)
				if wantEditForAsPlain(t, impl.Session{On: on, View: v}, words...) != may {
					t.Fatalf("with %s %s is an edit: %v", c.what, wordsTold(words), !may)
				}
			}
		}
	}
}

func TestEditForLongWords(t *testing.T) {
	x := someSession()
	for _, shape := range editShapes() {
		for i, field := range strings.Fields(shape.words) {
			for _, piece := range []string{"a", "1,", "(seen ", "(", "0", "9", "+", " ", "\xff"} {
				words := shapedWords(shape)
				words[i+1] = times(1<<18, piece)
				if field != "set" || piece != "1," {
					wantNoEditFor(t, x, words...)
				}
				impl.Serve(someStore(), x, words)
			}
		}
		wantNoEditFor(t, x, slices.Repeat([]string{shape.name}, 70000)...)
	}
}

// sessionStep is a command that one of several sessions gives, and what it is told.
type sessionStep struct {
	who  int
	line string
	want string
}

// twoSessions look at one box, and at others: the one does something, the other one is told.
func twoSessions() []sessionStep {
	return []sessionStep{
		{0, "noop", "ok"},
		{0, "select inbox", "* valid 1 modseq 1 all; * 0 exists; ok"},
		{1, "select inbox 1 1", "* valid 1 modseq 1; * 0 exists; ok"},
		{0, `add inbox (seen) "subject: a"`, "* 1 exists; * 1 fetch (uid 1 flags (seen) modseq 2); ok"},
		{1, "noop", "* 1 exists; * 1 fetch (uid 1 flags (seen) modseq 2); ok"},
		{1, "noop", "ok"},
		{1, "add inbox () b", "* 2 exists; * 2 fetch (uid 2 flags () modseq 3); ok"},
		{0, "store 1:2 + (deleted)", "* 2 exists; * 1 fetch (uid 1 flags (seen deleted) modseq 4); * 2 fetch (uid 2 flags (deleted) modseq 4); ok"},
		// The flags of the mail 2 have changed since 3: it stays as it is.
		{1, "store 2 - (deleted) 3", "* 1 fetch (uid 1 flags (seen deleted) modseq 4); * 2 fetch (uid 2 flags (deleted) modseq 4); ok"},
		{1, "store 2 - (deleted) 4", "* 2 fetch (uid 2 flags () modseq 5); ok"},
		{0, "expunge 2", "* 2 fetch (uid 2 flags () modseq 5); ok"},
		{0, "expunge", "* 1 expunge; ok"},
		{0, "expunge", "ok"},
		{1, "search all", "* search 2; * 1 expunge; ok"},
		{1, "search seen", "* search; ok"},
		{0, "make work", "ok"},
		{0, "make work", "no 2"},
		{1, "copy 2 work", "ok"},
		{1, "move 2 work", "* 1 expunge; ok"},
		{1, "move 2 inbox", "no 4"},
		{0, "search uid 2", "* search; * 1 expunge; ok"},
		{0, "select work", "* valid 2 modseq 3 all; * 2 exists; * 1 fetch (uid 1 flags () modseq 2); * 2 fetch (uid 2 flags () modseq 3); ok"},
		{0, "store 2 = (flagged draft)", "* 2 fetch (uid 2 flags (flagged draft) modseq 4); ok"},
		{1, "select work 2 2", "* valid 2 modseq 4; * 2 exists; * 2 fetch (uid 2 flags (flagged draft) modseq 4); ok"},
		{1, "store * + (seen)", "ok"},
		{1, "store 1 + (deleted)", "* 1 fetch (uid 1 flags (deleted) modseq 5); ok"},
		{1, "expunge 1:*", "* 1 expunge; ok"},
		{0, "search flagged", "* search 2; * 1 expunge; ok"},
		{0, "select work 2 3", "* valid 2 modseq 6; * 1 exists; * vanished 1; * 1 fetch (uid 2 flags (flagged draft) modseq 4); ok"},
		{1, "close", "ok"},
		{1, "store 2 + (seen)", "no 4"},
		{1, "drop work", "ok"},
		{0, "store 2 + (seen)", "no 1"},
		{0, "noop", "bye; ok"},
		{0, "noop", "ok"},
		{0, "search all", "no 4"},
		{0, "close", "ok"},
		{1, "make work", "ok"},
		{1, "select work 2 3", "* valid 3 modseq 1 all; * 0 exists; ok"},
		{1, "select none", "no 1"},
		{1, "add work () c", "* 1 exists; * 1 fetch (uid 1 flags () modseq 2); ok"},
		{1, "drop inbox", "no 4"},
		{1, "drop work", "bye; ok"},
	}
}

func TestTwoSessions(t *testing.T) {
	s, sessions := impl.StoreNew(), make([]impl.Session, 2)
	var done []impl.Edit
	for i, step := range twoSessions() {
		got := wantServed(t, s, sessions[step.who], wordsOf(t, step.line)...)
		if text := textOfLines(t, got.lines); text != step.want {
			t.Fatalf("step %d: %q tells %q; want %q", i, step.line, text, step.want)
		}
		s, sessions[step.who] = got.store, got.session
		done = append(done, got.edits...)
	}
	kinds := make([]int, len(done))
	for i, e := range done {
		kinds[i] = e.Kind
	}
	if want := []int{3, 3, 4, 4, 4, 5, 5, 5, 1, 6, 7, 4, 4, 4, 5, 2, 1, 3, 2}; !slices.Equal(kinds, want) {
		t.Errorf("the kinds of what was done are %v; want %v", kinds, want)
	}
	if !sameStore(plainDone(done), s) || sessions[0].On || sessions[1].On {
		t.Errorf("at the end there is %s, %s, %s", storeTold(s), sessionTold(sessions[0]), sessionTold(sessions[1]))
	}
}

// mailLines are the fetches of some box since a Mod.
func mailLines(since int) string {
	text := ""
	for i, m := range someBox().Mails {
		if m.Mod > since {
			text += fmt.Sprintf("* %d fetch (uid %d flags %s modseq %d); ", i+1, m.Uid, plainFlagsText(m.Flags), m.Mod)
		}
	}
	return text + "ok"
}

// Some box is of the Valid 3 and the Mod 20, with Tombs of the Mods 7, 9, 9, 15 and 19, and a Horizon of 5.
func TestSelectSince(t *testing.T) {
	s := someStore()
	all := "* valid 3 modseq 20 all; * 5 exists; " + mailLines(0)
	wantLines(t, s, impl.Session{}, all, "select", "inbox")
	for mod, gone := range map[int]string{20: "", 19: "", 18: "11", 17: "11", 15: "11", 14: "4,11", 10: "4,11", 9: "4,11", 8: "1,4,7,11", 7: "1,4,7,11", 6: "1,4,6:7,11", 5: "1,4,6:7,11"} {
		want := "* valid 3 modseq 20; * 5 exists; "
		if gone != "" {
			want += "* vanished " + gone + "; "
		}
		for _, x := range []impl.Session{{}, someSession(), lookingAt(s, "work"), notOn(someSession())} {
			got := wantLines(t, s, x, want+mailLines(mod), "select", "inbox", "3", strconv.Itoa(mod))
			if !sameSession(got.session, someSession()) || !sameStore(got.store, s) || len(got.edits) > 0 {
				t.Fatalf("since %d there is %s", mod, replyTold(got))
			}
		}
	}
	for _, since := range []string{
		"3 4", "3 3", "3 1", "3 0", "3 21", "3 22", "3 100000", "3 100001", "3 1000000000", "2 20", "4 20", "1 5", "0 20", "0 0", "9999 20", "10000 20", "1000000000 20", "33 20", "1000000000 1000000000",
	} {
		wantLines(t, s, someSession(), all, "select", "inbox", strings.Fields(since)[0], strings.Fields(since)[1])
	}
	wantLines(t, s, impl.Session{}, "* valid 7 modseq 1 all; * 0 exists; ok", "select", "work")
	wantLines(t, s, impl.Session{}, "* valid 7 modseq 1; * 0 exists; ok", "select", "work", "7", "1")
	wantLines(t, s, impl.Session{}, "* valid 7 modseq 1; * 0 exists; ok", "select", "work", "7", "0")
	wantLines(t, s, impl.Session{}, "* valid 7 modseq 1 all; * 0 exists; ok", "select", "work", "7", "2")
	wantLines(t, s, impl.Session{}, "* valid 5 modseq 6; * 3 exists; * 2 fetch (uid 3 flags (seen draft) modseq 6); ok", "select", "done", "5", "5")
	wantLines(t, s, impl.Session{}, "* valid 5 modseq 6; * 3 exists; * vanished 2; * 2 fetch (uid 3 flags (seen draft) modseq 6); * 3 fetch (uid 4 flags (deleted) modseq 5); ok", "select", "done", "5", "3")
}

// All Mods about those of each box that is right, with its Valid and those beside it.
func TestSelectOfAllBoxes(t *testing.T) {
	for _, b := range changedBoxes(rightChanges()) {
		s := impl.Store{Boxes: []impl.Box{b}, Valid: 9999}
		if b.Valid == 9999 {
			s.Boxes[0].Valid, b.Valid = 9998, 9998
		}
		wantServed(t, s, impl.Session{}, "select", b.Name)
		mods := []int{0, 1, b.Horizon - 1, b.Horizon, b.Horizon + 1, b.Mod - 1, b.Mod, b.Mod + 1, 100000}
		for _, x := range b.Tombs {
			mods = append(mods, x.Mod-1, x.Mod)
		}
		for _, mod := range mods {
			for valid := b.Valid - 1; valid <= b.Valid+1; valid++ {
				got := wantServed(t, s, impl.Session{}, "select", b.Name, strconv.Itoa(valid), strconv.Itoa(mod))
				textOfLines(t, got.lines)
			}
		}
	}
}

// As many mails, and as many ranges of Uids that are gone, as there may be.
func TestSelectAtTheLimits(t *testing.T) {
	b := impl.Box{Name: "inbox", Valid: 1, Next: 9999, Mod: 100000}
	for i := range mostTombs {
		b.Tombs = append(b.Tombs, tomb(2*i+1, i+2))
	}
	for i := range mostMails {
		b.Mails = append(b.Mails, mail(2*i+2, i, 99971+i, "x"))
	}
	s := impl.Store{Boxes: []impl.Box{b}, Valid: 2}
	got := wantServed(t, s, impl.Session{}, "select", "inbox", "1", "0")
	if gone := got.lines[2].Set; len(gone) != 40 || len(got.lines) != 34 || textOfLines(t, got.lines) == "" {
		t.Errorf("since 0 is told %s", linesTold(got.lines))
	}
	got = wantServed(t, s, impl.Session{}, "select", "inbox", "1", "1")
	if len(got.lines[2].Set) != 40 {
		t.Errorf("since 1 is told %s", linesTold(got.lines))
	}
	got = wantServed(t, s, impl.Session{}, "select", "inbox", "1", "2")
	if len(got.lines[2].Set) != 39 || len(got.lines) != 34 {
		t.Errorf("since 2 is told %s", linesTold(got.lines))
	}
	wantLines(t, s, impl.Session{}, "* valid 1 modseq 100000; * 30 exists; * 30 fetch (uid 60 flags (seen flagged deleted draft) modseq 100000); ok", "select", "inbox", "1", "99999")
	wantLines(t, s, impl.Session{}, "* valid 1 modseq 100000; * 30 exists; ok", "select", "inbox", "1", "100000")
	got = wantServed(t, s, impl.Session{}, "select", "inbox", "1", "100001")
	if !got.lines[0].All || len(got.lines) != 33 {
		t.Errorf("above the Mod is told %s", linesTold(got.lines))
	}
}

// wrongNumbers are words that are no numbers.
func wrongNumbers() []string {
	return []string{"", " ", "-1", "-0", "+1", "00", "01", "03", "0020", "1 ", " 1", "1\n", "\n", "1\x00", "a", "x3", "3x", "*", "1:2", "3,20", "()", "1.0", "1e3", "0x3", "1000000001", "9999999999", "18446744073709551619", "\u0663", "\uff13", times(1<<18, "1")}
}

func TestSelectRefuses(t *testing.T) {
	s := someStore()
	for _, x := range []impl.Session{{}, someSession(), notOn(someSession()), lookingAt(s, "done")} {
		for _, word := range wrongNumbers() {
			for _, other := range []string{"3", "20", "0", "1000000000", word} {
				wantRefused(t, "words that are no numbers", codeBad, s, x, "select", "inbox", word, other)
				wantRefused(t, "words that are no numbers", codeBad, s, x, "select", "inbox", other, word)
				// A box that is not there counts first.
				wantRefused(t, "no such box", codeNone, s, x, "select", "none", word, other)
			}
		}
		for _, name := range storeNames() {
			if placeOf(s, name) < 0 {
				wantRefused(t, "no such box", codeNone, s, x, "select", name)
				wantRefused(t, "no such box", codeNone, s, x, "select", name, "3", "20")
				wantRefused(t, "no such box", codeNone, s, x, "select", name, "", "20")
			}
			wantRefused(t, "a word too few", codeBad, s, x, "select", name, "3")
			wantRefused(t, "a word too many", codeBad, s, x, "select", name, "3", "20", "20")
			wantRefused(t, "a word too many", codeBad, s, x, "select", name, "3", "20", "")
		}
		wantRefused(t, "no box", codeBad, s, x, "select")
	}
}

func TestClose(t *testing.T) {
	s := someStore()
	for _, x := range []impl.Session{{}, someSession(), notOn(someSession()), {On: true}, {On: true, View: viewAt(-1, 5, 5, -1)}, {View: viewAt(7)}} {
		got := wantLines(t, s, x, "ok", "close")
		if !sameSession(got.session, impl.Session{}) || !sameStore(got.store, s) || len(got.edits) > 0 {
			t.Errorf("closed, there is %s", replyTold(got))
		}
		for _, more := range []string{"", "inbox", "close"} {
			wantRefused(t, "a word too many", codeBad, s, x, "close", more)
		}
	}
}

// A session that is not on is told nothing, and keeps its view; one that is on is told what changed.
func TestNoop(t *testing.T) {
	s := someStore()
	for _, c := range slices.Concat(rightViewChanges(), wrongViewChanges()) {
		v := changedView(c)
		got := wantLines(t, s, impl.Session{View: v}, "ok", "noop")
		if !sameSession(got.session, impl.Session{View: v}) {
			t.Errorf("a session that is not on becomes %s", sessionTold(got.session))
		}
		got = wantServed(t, s, impl.Session{On: true, View: v}, "noop")
		if last := len(got.lines) - 1; got.lines[last].Kind != lnOk || len(got.edits) > 0 || !sameStore(got.store, s) {
			t.Errorf("noop of %s answers %s", viewTold(v), replyTold(got))
		}
	}
	for view, want := range map[*impl.View]string{
		{Box: "inbox", Valid: 3, Uids: []int{2, 3, 5, 8, 9}, Mod: 20}:     "ok",
		{Box: "inbox", Valid: 3, Uids: []int{2, 3, 5, 8, 9}, Mod: 19}:     "* 3 fetch (uid 5 flags (deleted) modseq 20); ok",
		{Box: "inbox", Valid: 3, Uids: []int{2, 3, 5, 8, 9}, Mod: 100000}: "ok",
		{Box: "inbox", Valid: 3, Uids: []int{1, 2, 3, 5, 7, 8}, Mod: 19}:  "* 1 expunge; * 4 expunge; * 5 exists; * 3 fetch (uid 5 flags (deleted) modseq 20); ok",
		{Box: "inbox", Valid: 3, Mod: 1}:                                  "* 5 exists; " + mailLines(0),
		{Box: "work", Valid: 7, Uids: []int{1}, Mod: 1}:                   "* 1 expunge; ok",
		{Box: "inbox", Valid: 4, Uids: []int{2, 3, 5, 8, 9}, Mod: 20}:     "bye; ok",
		{Box: "inbox", Valid: 3, Uids: []int{2, 3, 5, 9, 8}, Mod: 20}:     "bye; ok",
		{Box: "work", Valid: 3, Uids: []int{2, 3, 5, 8, 9}, Mod: 20}:      "bye; ok",
		{Box: "none", Valid: 3, Uids: []int{2, 3, 5, 8, 9}, Mod: 20}:      "bye; ok",
		{}: "bye; ok",
	} {
		got := wantLines(t, s, impl.Session{On: true, View: *view}, want, "noop")
		after := lookingAt(s, view.Box)
		if strings.HasPrefix(want, "bye") {
			after = impl.Session{}
		}
		if !sameSession(got.session, after) {
			t.Errorf("noop of %s makes it %s", viewTold(*view), sessionTold(got.session))
		}
		for _, more := range []string{"", "noop", "1"} {
			wantRefused(t, "a word too many", codeBad, s, impl.Session{On: true, View: *view}, "noop", more)
		}
	}
}

// searchedStore has a box of which each kind of key finds some mails, and not all.
func searchedStore() impl.Store {
	return impl.Store{Boxes: []impl.Box{queryBox()}, Valid: 9}
}

func TestSearchOfSessions(t *testing.T) {
	s := searchedStore()
	x := lookingAt(s, "work")
	for _, c := range []struct{ line, want string }{
		{"all", "2:3,5,8:10,17,21,30"},
		{"seen", "3,5,8,21"},
		{"answered", "8,17,21"},
		{"flagged", "8:9,30"},
		{"deleted", "5,8,30"},
		{"draft", "8,10"},
		{"unseen", "2,9:10,17,30"},
		{"unanswered", "2:3,5,9:10,30"},
		{"unflagged", "2:3,5,10,17,21"},
		{"undeleted", "2:3,9:10,17,21"},
		{"undraft", "2:3,5,9,17,21,30"},
		{"subject LUNCH", "2:3,9,30"},
		{"text ann", "2,17"},
		{`text "at noon"`, "3,30"},
		{"uid 3:9,*", "3,5,8:9"},
		{"modseq 13", "3,8,17,21"},
		{"modseq 100000", ""},
		{"seen unseen", ""},
		{"all unseen undraft text lunch uid 1:29 modseq 11", "9"},
		{"text text text lunch", ""},
	} {
		words := append([]string{"search"}, wordsOf(t, c.line)...)
		want := "* search " + c.want
		if c.want == "" {
			want = "* search"
		}
		got := wantLines(t, s, x, want+"; ok", words...)
		if !sameSession(got.session, x) || !sameStore(got.store, s) || len(got.edits) > 0 {
			t.Errorf("%q answers %s", c.line, replyTold(got))
		}
		// What is found is what is there, told or not; then it is told.
		early := impl.Session{On: true, View: impl.View{Box: "work", Valid: 2, Uids: []int{2, 3, 4, 5, 8, 9, 10, 17, 21}, Mod: 30}}
		wantLines(t, s, early, want+"; * 3 expunge; * 9 exists; * 4 fetch (uid 8 flags (seen answered flagged deleted draft) modseq 40); ok", words...)
		other := x
		other.View.Valid = 3
		got = wantLines(t, s, other, want+"; bye; ok", words...)
		if !sameSession(got.session, impl.Session{}) {
			t.Errorf("behind bye there is %s", sessionTold(got.session))
		}
		wantRefused(t, "a session that is not on", codeBad, s, notOn(x), words...)
		wantRefused(t, "a session that is not on", codeBad, s, impl.Session{}, words...)
	}
}

func TestSearchRefuses(t *testing.T) {
	s := searchedStore()
	lists := [][]string{
		nil, {""}, {"un"}, {"Seen"}, {"ALL"}, {"recent"}, {"all", ""}, {"", "all"}, {"subject"}, {"text"}, {"uid"}, {"modseq"}, {"subject", ""}, {"text", times(21, "a")}, {"uid", ""}, {"uid", "0"}, {"uid", "a"}, {"uid", singles(41, 2)},
		{"modseq", "-1"}, {"modseq", "100001"}, {"modseq", "01"}, {"modseq", ""}, {"all", "subject"}, {"work"}, {"not", "seen"}, {"(seen)"},
		slices.Repeat([]string{"all"}, 7), slices.Repeat([]string{"uid", "1"}, 7), slices.Repeat([]string{"all"}, 12), slices.Repeat([]string{"all"}, 13), slices.Repeat([]string{"text", "a"}, 35000),
	}
	for _, keys := range lists {
		for _, x := range []impl.Session{lookingAt(s, "work"), {}, notOn(lookingAt(s, "work")), {On: true}, {On: true, View: viewAt(1)}} {
			wantRefused(t, "no keys", codeBad, s, x, append([]string{"search"}, keys...)...)
		}
	}
	// Six keys are as many as there may be, be they of one word or of two.
	for _, key := range [][]string{{"all"}, {"uid", "5"}} {
		wantServed(t, s, lookingAt(s, "work"), append([]string{"search"}, slices.Repeat(key, 6)...)...)
		got := served(s, lookingAt(s, "work"), append([]string{"search"}, slices.Repeat(key, 6)...))
		if got.lines[0].Kind != lnSearch || len(got.lines) != 2 {
			t.Errorf("six keys answer %s", linesTold(got.lines))
		}
	}
}

// sessionLines are commands of each form, that do something in some store, or nothing.
func sessionLines() []string {
	return []string{
		"select inbox", "select done 5 3", "select work 7 1", "close", "noop", "search all", "search unseen modseq 12", "search subject two uid 1:8", "make x", "drop work", "drop done", "add inbox (seen) new", "add work () x",
		"store 1:* = ()", "store 2,5 + (flagged)", "store 3:8 - (deleted) 12", "store 4 + (seen)", "store 1:* + (deleted) 0", "expunge", "expunge 5", "expunge 1:4", "expunge 7", "copy 2:5 work", "copy 1:* inbox", "copy 4 done", "move 3 work", "move 1:* done",
	}
}

func refusedLines() []string {
	return []string{
		"select", "select none", "select inbox 3", "select inbox a 3", "select inbox 3 20 1", "close inbox", "noop noop", "search", "search none", "make inbox", "make In", "make", "drop inbox", "drop none", "drop", "add none () x", "add inbox x x", "add inbox ()",
		"add inbox () \"\"", "store 1 = seen", "store 1 * ()", "store 0 = ()", "store 1 = () -1", "store 1 = () 100001", "expunge 0", "expunge \"\"", "expunge 1 2", "copy 1 none", "copy 1", "copy 1 A", "move 1 none", "move x work", "Noop", "CLOSE", "Select inbox", "\"\"", "\"\" noop", "quit", "forget inbox 3", "{2}\r\n\r\n",
	}
}

// Each store that is right, with a session on each of its boxes, and on none.
func TestServeInAllStores(t *testing.T) {
	kinds, codes := map[int]int{}, map[int]int{}
	for i, s := range changedStores(rightStoreChanges()) {
		for at, line := range slices.Concat(sessionLines(), refusedLines()) {
			words := wordsOf(t, line)
			sessions := []impl.Session{lookingAt(s, s.Boxes[(i+at)%len(s.Boxes)].Name), lookingAt(someStore(), "inbox"), {}}
			x := sessions[(i+at/2)%3]
			got := wantServed(t, s, x, words...)
			last := got.lines[len(got.lines)-1]
			if last.Kind == lnNo {
				wantRefused(t, "words that are refused", last.Num, s, x, words...)
				codes[last.Num]++
			}
			for _, e := range got.edits {
				kinds[e.Kind]++
			}
			textOfLines(t, got.lines)
		}
	}
	for kind := edMake; kind <= edMove; kind++ {
		if kinds[kind] < 5 {
			t.Errorf("the kind %d was done %d times", kind, kinds[kind])
		}
	}
	for code := codeNone; code <= codeBad; code++ {
		if codes[code] < 5 {
			t.Errorf("the code %d was told %d times", code, codes[code])
		}
	}
}

// A store that is not right refuses whatever is told, ahead of all.
func TestServeOfWrongStores(t *testing.T) {
	lines := append(sessionLines(), refusedLines()...)
	for i, s := range changedStores(wrongStoreChanges()) {
		for at, line := range lines {
			if at > 5 && (i+at)%9 != 0 {
				continue
			}
			words := wordsOf(t, line)
			wantRefused(t, "a store that is not right", codeBad, s, someSession(), words...)
			wantRefused(t, "a store that is not right", codeBad, s, impl.Session{}, words...)
		}
		wantRefused(t, "a store that is not right", codeBad, s, notOn(someSession()))
		wantRefused(t, "a store that is not right", codeBad, s, impl.Session{On: true}, "select", "none")
		wantRefused(t, "a store that is not right", codeBad, s, impl.Session{On: true, View: viewAt(-1, 3, 3)}, "close")
	}
}

// What is refused changes nothing, whoever says it.
func TestServeRefuses(t *testing.T) {
	s := someStore()
	none, bad := lookingAt(s, "inbox"), lookingAt(s, "inbox")
	none.View.Box, bad.View.Uids = "none", []int{9, 8, 8, -1}
	for _, x := range []impl.Session{{}, someSession(), notOn(someSession()), none, bad, {On: true}, lookingAt(s, "work")} {
		for _, line := range refusedLines() {
			words := wordsOf(t, line)
			got := wantServed(t, s, x, words...)
			if len(got.lines) != 1 || got.lines[0].Kind != lnNo {
				t.Fatalf("%q is not refused: %s", line, replyTold(got))
			}
			wantRefused(t, "words that are refused", got.lines[0].Num, s, x, words...)
		}
		wantRefused(t, "no words", codeBad, s, x)
		wantRefused(t, "no words", codeBad, s, x, []string{}...)
		wantRefused(t, "no words", codeBad, s, x, []string{"noop"}[:0]...)
		wantRefused(t, "an empty word", codeBad, s, x, "")
		wantRefused(t, "empty words", codeBad, s, x, "", "", "")
		for _, name := range []string{"select", "close", "search", "noop", "make", "drop", "add", "store", "expunge", "copy", "move"} {
			for _, other := range otherNames(name) {
				for _, rest := range [][]string{nil, {"inbox"}, {"all"}, {"x"}, {"1", "work"}, {"inbox", "3", "20"}, {"work", "()", "x"}, {"1", "=", "()"}} {
					wantRefused(t, "another name", codeBad, s, x, append([]string{other}, rest...)...)
				}
			}
			for _, rest := range [][]string{{"", "", "", "", "", ""}, {"1", "=", "()", "1", "1"}, slices.Repeat([]string{"inbox"}, 70000), {times(1<<18, "1")}, {times(1<<18, "a"), "=", times(1<<18, "\xff")}} {
				wantRefused(t, "words that are none of these", codeBad, s, x, append([]string{name}, slices.Insert(rest, 0, "7:")...)...)
			}
		}
	}
}

// The codes of what Apply refuses, and of what is not even an edit.
func TestServeCodes(t *testing.T) {
	some, full, crowded, ended, given := someStore(), fullStore(), someStore(), someStore(), someStore()
	crowded.Boxes[2].Next, crowded.Boxes[2].Mails = 31, crowd(30, 1)
	ended.Boxes[1].Mod, given.Boxes[1].Next = 100000, 9999
	late := some
	late.Valid = 9999
	for _, c := range []struct {
		s    impl.Store
		line string
		code int
	}{
		{some, "make work", codeThere}, {full, "make work", codeThere}, {full, "make none", codeFull}, {late, "make none", codeFull}, {full, "make None", codeBad},
		{some, "drop none", codeNone}, {some, "drop inbox", codeBad}, {some, "drop In", codeBad},
		{some, "add none () x", codeNone}, {some, "add In () x", codeBad}, {crowded, "add work () x", codeFull}, {ended, "add inbox () x", codeFull}, {given, "add inbox () x", codeFull}, {crowded, "add work () \"\"", codeBad}, {crowded, "add none () \"\"", codeBad},
		{some, "copy 2 none", codeNone}, {some, "copy 2 In", codeBad}, {crowded, "copy 2 work", codeFull}, {ended, "copy 2 inbox", codeFull}, {some, "copy 2, work", codeBad},
		{some, "move 2 none", codeNone}, {some, "move 2 inbox", codeBad}, {crowded, "move 2 work", codeFull}, {ended, "move 2 work", codeFull},
		{some, "store 1 = (x)", codeBad}, {some, "expunge x", codeBad}, {some, "search", codeBad}, {some, "select none", codeNone}, {some, "select none x x", codeNone}, {some, "select inbox x x", codeBad},
	} {
		wantRefused(t, c.line, c.code, c.s, lookingAt(c.s, "inbox"), wordsOf(t, c.line)...)
	}
	// What is done, though it changes nothing, is not refused: the edit is told.
	for _, c := range []struct {
		s    impl.Store
		line string
	}{
		{crowded, "copy 4 work"}, {crowded, "move 4 work"}, {ended, "store 1:* = (seen)"}, {ended, "expunge"}, {ended, "store 2 + (seen)"}, {some, "store 4 + (seen)"}, {some, "store 2 + (seen)"}, {some, "store 2 = () 17"}, {some, "expunge 3"}, {some, "expunge 10:*"}, {some, "copy 7 work"}, {some, "move 7 done"},
	} {
		got := wantLines(t, c.s, lookingAt(c.s, "inbox"), "ok", wordsOf(t, c.line)...)
		if len(got.edits) != 1 || !sameStore(got.store, c.s) {
			t.Errorf("%q answers %s", c.line, replyTold(got))
		}
	}
}

// Each command that is an edit, by hand: what it makes of the store is what Apply does of the edit, which is told once.
func TestServeOfEdits(t *testing.T) {
	s := someStore()
	for line, want := range map[string]string{
		"make x":                     "ok",
		"drop work":                  "ok",
		"drop done":                  "ok",
		"add work (draft) x":         "ok",
		"add inbox (draft) x":        "* 6 exists; * 6 fetch (uid 12 flags (draft) modseq 21); ok",
		"store 2:5 = (draft)":        "* 1 fetch (uid 2 flags (draft) modseq 21); * 2 fetch (uid 3 flags (draft) modseq 21); * 3 fetch (uid 5 flags (draft) modseq 21); ok",
		"store 2:5 + (seen)":         "* 2 fetch (uid 3 flags (seen) modseq 21); * 3 fetch (uid 5 flags (seen deleted) modseq 21); ok",
		"store 2:5 - (seen deleted)": "* 1 fetch (uid 2 flags () modseq 21); * 3 fetch (uid 5 flags () modseq 21); ok",
		"store 1:* = (draft) 4":      "* 2 fetch (uid 3 flags (draft) modseq 21); ok",
		"store 1:* = (draft) 12":     "* 2 fetch (uid 3 flags (draft) modseq 21); * 4 fetch (uid 8 flags (draft) modseq 21); * 5 fetch (uid 9 flags (draft) modseq 21); ok",
		"store 1:* = (draft) 0":      "ok",
		"store 5 = (seen answered flagged deleted draft) 19": "ok",
		"store 5 = (seen answered flagged deleted draft) 20": "* 3 fetch (uid 5 flags (seen answered flagged deleted draft) modseq 21); ok",
		"store 5 = () 21":                   "* 3 fetch (uid 5 flags () modseq 21); ok",
		"store 4,6:7,9999 = ()":             "ok",
		"store 8:9 - (seen deleted) 100000": "* 4 fetch (uid 8 flags (answered flagged draft) modseq 21); * 5 fetch (uid 9 flags () modseq 21); ok",
		"expunge":                           "* 1 expunge; * 2 expunge; * 2 expunge; * 2 expunge; ok",
		"expunge 1:5":                       "* 1 expunge; * 2 expunge; ok",
		"expunge *":                         "ok",
		"copy 3 work":                       "ok",
		"copy 3 inbox":                      "* 6 exists; * 6 fetch (uid 12 flags () modseq 21); ok",
		"move 3,9 work":                     "* 2 expunge; * 4 expunge; ok",
		"move 1:* done":                     "* 1 expunge; * 1 expunge; * 1 expunge; * 1 expunge; * 1 expunge; ok",
	} {
		words := wordsOf(t, line)
		got := wantLines(t, s, someSession(), want, words...)
		e, ok := impl.EditFor(someSession(), words)
		became, code := impl.Apply(s, e)
		if !ok || code != 0 || !sameEdits(got.edits, []impl.Edit{e}) || !sameStore(got.store, became) {
			t.Fatalf("%q answers %s", line, replyTold(got))
		}
		if !sameSession(got.session, lookingAt(got.store, "inbox")) {
			t.Fatalf("behind %q the session is %s", line, sessionTold(got.session))
		}
		// One that is not on is told nothing of it.
		if e.Kind <= 3 {
			got = wantLines(t, s, notOn(someSession()), "ok", words...)
			if !sameSession(got.session, notOn(someSession())) || !sameStore(got.store, became) || len(got.edits) != 1 {
				t.Errorf("not on, %q answers %s", line, replyTold(got))
			}
		} else {
			wantRefused(t, "a session that is not on", codeBad, s, notOn(someSession()), words...)
		}
	}
}

// A box that was dropped, or made anew, under a session that is on.
func TestServeOfABoxThatIsNotThere(t *testing.T) {
	was := someStore()
	x := lookingAt(was, "done")
	dropped := wantServed(t, was, impl.Session{}, "drop", "done").store
	anew := wantServed(t, dropped, impl.Session{}, "make", "done").store
	filled := wantServed(t, anew, impl.Session{}, "add", "done", "(seen)", "x").store
	for _, c := range []struct {
		line, dropped, filled string
	}{
		{"noop", "bye; ok", "bye; ok"},
		{"search all", "* search; bye; ok", "* search 1; bye; ok"},
		{"search unseen", "* search; bye; ok", "* search; bye; ok"},
		{"search none", "no 4", "no 4"},
		{"store 1 + (draft)", "no 1", "bye; ok"},
		{"store 1 + draft", "no 4", "no 4"},
		{"expunge", "no 1", "bye; ok"},
		{"copy 1 work", "no 1", "bye; ok"},
		{"move 1 work", "no 1", "bye; ok"},
		{"copy 1 none", "no 1", "no 1"},
		{"add done () y", "no 1", "bye; ok"},
		{"add work () y", "bye; ok", "bye; ok"},
		{"make done", "bye; ok", "no 2"},
		{"make x", "bye; ok", "bye; ok"},
		{"drop done", "no 1", "bye; ok"},
		{"drop work", "bye; ok", "bye; ok"},
		{"close", "ok", "ok"},
		{"select done", "no 1", "* valid 8 modseq 2 all; * 1 exists; * 1 fetch (uid 1 flags (seen) modseq 2); ok"},
		{"select done 5 6", "no 1", "* valid 8 modseq 2 all; * 1 exists; * 1 fetch (uid 1 flags (seen) modseq 2); ok"},
	} {
		words := wordsOf(t, c.line)
		for i, s := range []impl.Store{dropped, filled} {
			want := []string{c.dropped, c.filled}[i]
			got := wantLines(t, s, x, want, words...)
			switch {
			case want[:2] == "no" && !sameReply(got, refusal(s, x, got.lines[0].Num)):
				t.Errorf("%q is refused with %s", c.line, replyTold(got))
			case strings.HasSuffix(want, "bye; ok") && !sameSession(got.session, impl.Session{}):
				t.Errorf("behind %q the session is %s", c.line, sessionTold(got.session))
			}
		}
	}
	// It is the box that has the name then, of which the search tells and to which the edit is done.
	got := served(filled, x, []string{"store", "1", "+", "(draft)"})
	if b, _ := impl.BoxAt(got.store, "done"); b.Mails[0].Flags != 17 || len(got.edits) != 1 {
		t.Errorf("made anew, there is %s", replyTold(got))
	}
}

// A view that is not right is told bye; what EditFor takes is done all the same.
func TestServeOfWrongViews(t *testing.T) {
	s := someStore()
	lines := append(sessionLines(), refusedLines()...)
	for i, c := range wrongViewChanges() {
		for at, line := range lines {
			if at > 12 && (i+at)%7 != 0 {
				continue
			}
			x := impl.Session{On: true, View: changedView(c)}
			got := wantServed(t, s, x, wordsOf(t, line)...)
			bye := slices.ContainsFunc(got.lines, func(x impl.Line) bool { return x.Kind == lnBye })
			if bye && !sameSession(got.session, impl.Session{}) {
				t.Fatalf("with %s behind %q the session is %s", c.what, line, sessionTold(got.session))
			}
			wantServed(t, s, notOn(x), wordsOf(t, line)...)
		}
	}
	for _, uids := range [][]int{{0}, {2, 2}, {3, 2}, {10000}, uidRow(31, 1, 1), uidRow(5000, 1, 1)} {
		x := impl.Session{On: true, View: viewAt(20, uids...)}
		got := wantLines(t, s, x, "bye; ok", "store", "2", "+", "(draft)")
		if got.store.Boxes[1].Mails[0].Flags != 25 || len(got.edits) != 1 {
			t.Errorf("%v: there is %s", uids, replyTold(got))
		}
		wantLines(t, s, x, "* search 2:3,5,8:9; bye; ok", "search", "all")
	}
}

// looker is a session, and what one who reads its lines knows by places.
type looker struct {
	session impl.Session
	known   []impl.Seen
}

// boxThen tells of a box as it was at a Mod.
type boxThen struct {
	name  string
	valid int
	mod   int
}

// sessionLife is a store, those who look at it and change it, all edits that were told, and each box as it was.
type sessionLife struct {
	t       *testing.T
	r       *rand.Rand
	store   impl.Store
	lookers []looker
	done    []impl.Edit
	was     map[boxThen]impl.Box
	counts  map[string]int
}

func (l *sessionLife) drawn(words ...string) string { return words[l.r.Intn(len(words))] }

func (l *sessionLife) name() string {
	return l.drawn("inbox", "inbox", "inbox", "work", "work", "done", "a", "none", "Bad")
}

func (l *sessionLife) set() string {
	from := 1 + l.r.Intn(30)
	return l.drawn("1:*", "*", strconv.Itoa(from), strconv.Itoa(from), fmt.Sprintf("%d:%d", from+9, from), fmt.Sprintf("%d,%d:*", from, from+4), "0")
}

func (l *sessionLife) flags() string {
	return l.drawn("()", "(seen)", "(deleted)", "(deleted)", "(Flagged deleted)", "(draft answered)", "seen")
}

// since has the Valid and a Mod of a box, or such as it has not.
func (l *sessionLife) since(name string) []string {
	b, _ := impl.BoxAt(l.store, name)
	valid, mod := b.Valid, b.Mod-l.r.Intn(15)
	if l.r.Intn(8) == 0 {
		valid, mod = valid-l.r.Intn(2), mod+l.r.Intn(20)
	}
	return []string{strconv.Itoa(valid), strconv.Itoa(mod)}
}

func (l *sessionLife) keys() []string {
	var words []string
	for range 1 + l.r.Intn(3) {
		key := l.drawn("all", "seen", "unseen", "deleted", "undeleted", "undraft", "subject a", "text B", "uid 5:*", "modseq 9", "none")
		words = append(words, strings.Fields(key)...)
	}
	return words
}

// command has the words of one, which is now and then spoilt.
func (l *sessionLife) command() []string {
	name := l.name()
	words := [][]string{
		{"select", name},
		append([]string{"select", name}, l.since(name)...),
		{"close"},
		{"noop"},
		append([]string{"search"}, l.keys()...),
		{"make", name},
		{"drop", name},
		{"add", name, l.flags(), "subject: " + l.drawn("a", "b", "Re: a") + "\n\n" + l.drawn("a", "b")},
		{"add", l.drawn("inbox", "work"), l.flags(), l.drawn("x", "y z", "\"\r\n", "\xff", "")},
		{"store", l.set(), l.drawn("=", "+", "-"), l.flags()},
		{"store", l.set(), l.drawn("=", "+", "-", "*"), l.flags(), strconv.Itoa(l.r.Intn(60))},
		{"expunge"},
		{"expunge", l.set()},
		{"copy", l.set(), name},
		{"move", l.set(), name},
	}[l.r.Intn(15)]
	if (words[0] == "drop" || words[0] == "close") && l.r.Intn(3) > 0 {
		words = []string{"noop"}
	}
	if l.r.Intn(20) == 0 {
		words[l.r.Intn(len(words))] = l.drawn("", "x", "1")
	}
	return words
}

// heard has what the looker knows behind the lines, each read from its text.
func (l *sessionLife) heard(k *looker, words []string, got reply) {
	l.t.Helper()
	refused := got.lines[len(got.lines)-1].Kind == lnNo
	if !refused && len(words) == 4 && words[0] == "select" {
		l.caughtUp(words, got)
		k.known = seensOf(l.at(words[1]))
	} else {
		if !refused && (words[0] == "select" || words[0] == "close") {
			k.known = nil
		}
		k.known = takenAsTexts(l.t, k.known, got.lines)
	}
	l.counts[words[0]+strconv.Itoa(boolNumber(refused))]++
	k.session = got.session
	if refused {
		return
	}
	// Whoever was not refused was told of the box that they look at.
	b := l.at(k.session.View.Box)
	if k.session.On != (k.session.View.Box != "") || k.session.On && !sameView(k.session.View, plainViewOf(b)) || !slices.Equal(k.known, seensOf(b)) {
		l.t.Fatalf("behind %s known is %v, %s; the box is %s", wordsTold(words), k.known, sessionTold(k.session), boxTold(b))
	}
}

func (l *sessionLife) at(name string) impl.Box {
	b, _ := impl.BoxAt(l.store, name)
	return b
}

// caughtUp takes what a `select` of four words tells to what the box was then: that is the box as it is.
func (l *sessionLife) caughtUp(words []string, got reply) {
	l.t.Helper()
	valid, _ := strconv.Atoi(words[2])
	mod, _ := strconv.Atoi(words[3])
	known := map[int]impl.Seen{}
	if !got.lines[0].All {
		was, there := l.was[boxThen{words[1], valid, mod}]
		if !there {
			return
		}
		for _, s := range seensOf(was) {
			known[s.Uid] = s
		}
		l.counts["caught up"]++
	}
	for _, x := range got.lines {
		for _, r := range x.Set {
			for uid := r.Lo; uid <= r.Hi; uid++ {
				if x.Kind == lnVanished && known[uid].Uid == uid {
					delete(known, uid)
					l.counts["vanished"]++
				}
			}
		}
		if x.Kind == lnFetch {
			known[x.Uid] = impl.Seen{Uid: x.Uid, Flags: x.Flags, Mod: x.Mod}
		}
	}
	var list []impl.Seen
	for _, s := range known {
		list = append(list, s)
	}
	slices.SortFunc(list, func(a impl.Seen, b impl.Seen) int { return a.Uid - b.Uid })
	if b := l.at(words[1]); !slices.Equal(list, seensOf(b)) {
		l.t.Fatalf("%s tells %s: known is %v, the box is %s", wordsTold(words), linesTold(got.lines), list, boxTold(b))
	}
}

func (l *sessionLife) step() {
	l.t.Helper()
	words := l.command()
	if text, ok := impl.CommandText(words); ok {
		words, _, _ = impl.ReadCommand(text)
	}
	k := &l.lookers[l.r.Intn(len(l.lookers))]
	was := l.store
	got := wantServed(l.t, was, k.session, words...)
	last := got.lines[len(got.lines)-1].Kind
	if last == lnNo && !sameReply(got, refusal(was, k.session, got.lines[0].Num)) || last != lnNo && last != lnOk || len(got.edits) == 0 && !sameStore(got.store, was) {
		l.t.Fatalf("%s answers %s", wordsTold(words), replyTold(got))
	}
	l.store = got.store
	l.done = append(l.done, got.edits...)
	for _, b := range l.store.Boxes {
		l.was[boxThen{b.Name, b.Valid, b.Mod}] = b
	}
	l.heard(k, words, got)
}

// In drawn lives each answer is the document's, whoever was told knows what is there, and what was done comes to the same store once more.
func TestDrawnSessionLives(t *testing.T) {
	counts := map[string]int{}
	for seed := range 10 {
		begin := impl.StoreNew()
		if seed%3 == 2 {
			begin.Valid, begin.Boxes[0].Mod, begin.Boxes[0].Next, begin.Boxes[0].Horizon = 9980, 99900, 9950, 99890
		}
		l := &sessionLife{t: t, r: rand.New(rand.NewSource(int64(1600 + seed))), store: begin, lookers: make([]looker, 3), was: map[boxThen]impl.Box{}, counts: counts}
		for range 500 {
			l.step()
		}
		again := begin
		for _, e := range l.done {
			text, _ := impl.EditText(e)
			read, ok := impl.ReadEdit(text)
			code := 0
			if again, code = impl.Apply(again, read); !ok || code != 0 {
				t.Fatalf("done again, %s is %v, %d", editTold(e), ok, code)
			}
		}
		if !sameStore(again, l.store) || !impl.StoreOk(again) {
			t.Fatalf("done again, there is %s; it was %s", storeTold(again), storeTold(l.store))
		}
	}
	for _, name := range []string{"select", "search", "make", "drop", "add", "store", "expunge", "copy", "move"} {
		if counts[name+"0"] < 20 || counts[name+"1"] < 5 {
			t.Errorf("%s was done %d times, and refused %d times", name, counts[name+"0"], counts[name+"1"])
		}
	}
	if counts["caught up"] < 50 || counts["vanished"] < 20 || counts["close0"] < 20 || counts["noop0"] < 20 {
		t.Errorf("the counts are %v", counts)
	}
}

// Several who serve the same at once don't meet.
func TestServeAtOnce(t *testing.T) {
	s, lines := spareStore(someStore()), append(sessionLines(), refusedLines()...)
	answers := make([][]reply, 8)
	var all sync.WaitGroup
	for i := range answers {
		all.Go(func() {
			for _, line := range lines {
				words, _, _ := impl.ReadCommand(line + "\r\n")
				answers[i] = append(answers[i], served(s, someSession(), words))
			}
		})
	}
	all.Wait()
	for at, line := range lines {
		words := wordsOf(t, line)
		want := plainRules().serve(someStore(), someSession(), words)
		for i := range answers {
			wantReply(t, s, someSession(), words, answers[i][at], want)
		}
	}
}

// spareSession is x in memory of its own, with other Uids in the room behind its view's.
func spareSession(x impl.Session) impl.Session {
	x.View = spareView(x.View)
	return x
}

// memorySessions look at each box of some store, at none, or at what is not there.
func memorySessions() []impl.Session {
	s := someStore()
	list := []impl.Session{{}, lookingAt(s, "done"), lookingAt(s, "inbox"), lookingAt(s, "work"), notOn(lookingAt(s, "inbox"))}
	for _, v := range memoryViews() {
		list = append(list, impl.Session{On: true, View: v}, impl.Session{View: v})
	}
	return list
}

func memoryStores() []impl.Store {
	wrong := someStore()
	wrong.Boxes[1].Horizon = 50
	shared := someStore()
	shared.Boxes[2] = fitted(shared.Boxes[1], shared.Boxes[2])
	return []impl.Store{someStore(), fullStore(), shared, wrong, {}, {Boxes: someStore().Boxes[1:], Valid: 9}}
}

func textsOfReply(a reply) []string {
	texts := append([]string{a.session.View.Box}, textsOfEdits(a.edits)...)
	for _, b := range a.store.Boxes {
		texts = append(texts, boxTexts(b)...)
	}
	return texts
}

// wantNewReply tells when the answer has memory of an argument or of another answer, or two lists of it have memory in common.
func wantNewReply(t *testing.T, got reply, s impl.Store, x impl.Session, words []string, other reply) {
	t.Helper()
	what := "Serve of " + wordsTold(words)
	wantNewStore(t, what, got.store, s, other.store.Boxes...)
	if shares(got.session.View.Uids, x.View.Uids) || shares(got.session.View.Uids, other.session.View.Uids) || shares(got.lines, other.lines) || shares(got.edits, other.edits) || shares(got.store.Boxes, other.store.Boxes) {
		t.Fatalf("%s answers a list that is not new", what)
	}
	var sets, others [][]impl.Range
	for _, x := range got.lines {
		sets = append(sets, x.Set)
	}
	for _, e := range got.edits {
		sets = append(sets, e.Set)
	}
	for _, x := range other.lines {
		others = append(others, x.Set)
	}
	for _, e := range other.edits {
		others = append(others, e.Set)
	}
	for i, set := range sets {
		for j, one := range sets {
			if i != j && shares(set, one) || shares(set, others[j]) {
				t.Fatalf("%s answers sets that share memory", what)
			}
		}
	}
	given := append(textsOfReply(other), x.View.Box)
	for _, b := range s.Boxes {
		given = append(given, boxTexts(b)...)
	}
	wantNewTexts(t, what, textsOfReply(got), append(given, words...))
}

func TestSessionsAnswerNewMemory(t *testing.T) {
	for i, s := range memoryStores() {
		s = spareStore(s)
		for at, x := range memorySessions() {
			x = spareSession(x)
			for n, line := range slices.Concat(sessionLines(), refusedLines()) {
				if i > 0 && (i+at+n)%4 != 0 {
					continue
				}
				words := wordRoom(wordsOf(t, line))
				one, two := served(s, x, words), served(s, x, words)
				wantNewReply(t, one, s, x, words, two)
			}
		}
	}
	for _, shape := range editShapes() {
		words, x := wordRoom(shapedWords(shape)), spareSession(someSession())
		one, _ := impl.EditFor(x, words)
		two, _ := impl.EditFor(x, words)
		if shares(one.Set, two.Set) {
			t.Errorf("two answers of EditFor share a set")
		}
		wantNewTexts(t, "EditFor", editTexts(one), append(editTexts(two), append(words, x.View.Box)...))
	}
	// One word that is handed in for several is no text that these share.
	word := strings.Clone("work")
	e, _ := impl.EditFor(someSession(), []string{"add", word, "()", word})
	if lies(e.Box, e.Text) || lies(e.Text, e.Box) {
		t.Error("the texts of an edit share memory")
	}
}

func TestSessionsLeaveArgumentsAlone(t *testing.T) {
	for i, plain := range memoryStores() {
		s := spareStore(plain)
		before := wholeRoom(s)
		for at, session := range memorySessions() {
			x := spareSession(session)
			uids := slices.Clone(x.View.Uids[:cap(x.View.Uids)])
			for n, line := range slices.Concat(sessionLines(), refusedLines()) {
				if i > 0 && (i+at+n)%3 != 0 {
					continue
				}
				words := wordRoom(wordsOf(t, line))
				room := slices.Clone(words[:cap(words)])
				impl.EditFor(x, words)
				impl.Serve(s, x, words)
				if !slices.Equal(words[:cap(words)], room) {
					t.Fatalf("the words %s are changed, or the room behind them", wordsTold(room))
				}
			}
			if !slices.Equal(x.View.Uids[:cap(x.View.Uids)], uids) {
				t.Fatalf("the view %s is changed, or the room behind its Uids", viewTold(session.View))
			}
		}
		if !sameStore(wholeRoom(s), before) {
			t.Fatalf("the store %s is changed, or the room behind it", storeTold(s))
		}
	}
}

// emptied clears all lists of an answer, or of what was handed in, and the room behind them.
func emptied(a reply) {
	for _, b := range a.store.Boxes {
		clear(b.Mails[:cap(b.Mails)])
		clear(b.Tombs[:cap(b.Tombs)])
	}
	for _, x := range a.lines {
		clear(x.Set[:cap(x.Set)])
	}
	for _, e := range a.edits {
		clear(e.Set[:cap(e.Set)])
	}
	clear(a.store.Boxes[:cap(a.store.Boxes)])
	clear(a.session.View.Uids[:cap(a.session.View.Uids)])
	clear(a.lines[:cap(a.lines)])
	clear(a.edits[:cap(a.edits)])
}

// An answer stays what it was, whatever becomes of the arguments and of other answers.
func TestSessionsAnswersStand(t *testing.T) {
	for i, plain := range memoryStores() {
		for at, session := range memorySessions() {
			for n, line := range slices.Concat(sessionLines(), refusedLines()) {
				if (i+at+n)%5 != 0 {
					continue
				}
				s, x, words := spareStore(plain), spareSession(session), wordRoom(wordsOf(t, line))
				got, other := served(s, x, words), served(s, x, words)
				e, ok := impl.EditFor(x, words)
				emptied(served(got.store, got.session, words))
				emptied(other)
				emptied(reply{store: s, session: x})
				clear(words[:cap(words)])
				words = wordsOf(t, line)
				wantReply(t, plain, session, words, got, plainRules().serve(plain, session, words))
				if want, right := plainEditFor(session, words); ok != right || !sameEdit(e, want) {
					t.Fatalf("the answer of EditFor became %s", editTold(e))
				}
			}
		}
	}
}
