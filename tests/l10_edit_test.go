package tests

import (
	"encoding/binary"
	"fmt"
	"math"
	"math/rand"
	"regexp"
	"slices"
	"strconv"
	"strings"
	"testing"

	"loop.example/g00247/impl"
)

// The document's kinds, told anew: what the program calls them may be wrong.
const (
	edMake = iota + 1
	edDrop
	edAdd
	edFlag
	edExpunge
	edCopy
	edMove
	edForget
)

// plainUses has the fields that each kind uses, beside Box.
var plainUses = map[int][]string{
	edMake: nil, edDrop: nil, edAdd: {"bits", "text"}, edFlag: {"set", "how", "bits", "since"}, edExpunge: {"set"},
	edCopy: {"to", "set"}, edMove: {"to", "set"}, edForget: {"since"},
}

// someEdits has an edit of each kind, none of which uses a field that is zero.
func someEdits() []impl.Edit {
	return []impl.Edit{
		{Kind: edMake, Box: "old"},
		{Kind: edDrop, Box: "done"},
		{Kind: edAdd, Box: "done", Bits: 5, Text: "cinque"},
		{Kind: edFlag, Box: "done", Set: setOf(span(1, 9)), How: 2, Bits: 16, Since: 5},
		{Kind: edExpunge, Box: "done", Set: setOf(span(1, 9))},
		{Kind: edCopy, Box: "done", To: "work", Set: setOf(span(3, 3))},
		{Kind: edMove, Box: "done", To: "work", Set: setOf(span(1, 1))},
		{Kind: edForget, Box: "done", Since: 4},
	}
}

func someEdit(kind int) impl.Edit { return someEdits()[kind-1] }

func sameEdit(a impl.Edit, b impl.Edit) bool {
	return a.Kind == b.Kind && a.Box == b.Box && a.To == b.To && slices.Equal(a.Set, b.Set) && a.How == b.How && a.Bits == b.Bits && a.Since == b.Since && a.Text == b.Text
}

func editTold(e impl.Edit) string {
	return fmt.Sprintf("{kind %d box %.20q to %.20q set %.200v how %d bits %d since %d text %.20q}", e.Kind, e.Box, e.To, fmt.Sprint(e.Set), e.How, e.Bits, e.Since, e.Text)
}

// plainEditOk is the document's rule, field by field.
func plainEditOk(e impl.Edit) bool {
	uses, there := plainUses[e.Kind]
	least := 0
	if e.Kind == edFlag {
		least = -1
	}
	for _, f := range []struct {
		name        string
		right, zero bool
	}{
		{"to", plainBoxName.MatchString(e.To), e.To == ""},
		{"set", plainSetOk(e.Set), len(e.Set) == 0},
		{"how", e.How >= 1 && e.How <= 3, e.How == 0},
		{"bits", e.Bits >= 0 && e.Bits <= 31, e.Bits == 0},
		{"since", e.Since >= least && e.Since <= topMod, e.Since == 0},
		{"text", len(e.Text) >= 1 && len(e.Text) <= 200 && !strings.Contains(e.Text, "\x00"), e.Text == ""},
	} {
		used := slices.Contains(uses, f.name)
		if used && !f.right || !used && !f.zero {
			return false
		}
	}
	return there && plainBoxName.MatchString(e.Box)
}

func plainVar(n int) string { return string(binary.AppendUvarint(nil, uint64(n))) }

func plainShort(text string) string { return plainVar(len(text)) + text }

func plainSetText(s []impl.Range) string {
	text := ""
	for i, r := range s {
		if i > 0 {
			text += ","
		}
		text += strconv.Itoa(r.Lo)
		if r.Hi != r.Lo {
			text += ":" + strconv.Itoa(r.Hi)
		}
	}
	return text
}

// bytesOf has the bytes that tell these fields, whatever they are; the set is told by its text.
func bytesOf(e impl.Edit, set string) string {
	return string([]byte{byte(e.Kind)}) + plainShort(e.Box) + plainShort(e.To) + plainShort(set) + string([]byte{byte(e.How), byte(e.Bits)}) + plainVar(e.Since+1) + plainShort(e.Text)
}

func plainEditText(e impl.Edit) string { return bytesOf(e, plainSetText(e.Set)) }

// plainScan goes through bytes, and is torn from the first thing on that is not there.
type plainScan struct {
	rest string
	torn bool
}

func (p *plainScan) cut(size int) string {
	if p.torn || size < 0 || size > len(p.rest) {
		p.torn = true
		return ""
	}
	piece := p.rest[:size]
	p.rest = p.rest[size:]
	return piece
}

func (p *plainScan) one() int {
	piece := p.cut(1)
	if p.torn {
		return 0
	}
	return int(piece[0])
}

func (p *plainScan) number() int {
	n, size := binary.Uvarint([]byte(p.rest))
	if size <= 0 || n > 1000000000 || plainVar(int(n)) != p.rest[:size] {
		p.torn = true
		return 0
	}
	p.cut(size)
	return int(n)
}

func (p *plainScan) short() string { return p.cut(p.number()) }

var plainRange = regexp.MustCompile(`\A([1-9][0-9]{0,3})(?::([1-9][0-9]{0,3}))?\z`)

func (p *plainScan) set() []impl.Range {
	text := p.short()
	if text == "" {
		return nil
	}
	var s []impl.Range
	for _, part := range strings.Split(text, ",") {
		found := plainRange.FindStringSubmatch(part)
		if found == nil {
			p.torn = true
			return nil
		}
		lo, _ := strconv.Atoi(found[1])
		hi := lo
		if found[2] != "" {
			hi, _ = strconv.Atoi(found[2])
		}
		s = append(s, span(lo, hi))
	}
	p.torn = p.torn || !plainSetOk(s) || plainSetText(s) != text
	return s
}

// plainReadEdit reads field by field, each in its only form.
func plainReadEdit(text string) (impl.Edit, bool) {
	p := plainScan{rest: text}
	var e impl.Edit
	e.Kind, e.Box, e.To, e.Set = p.one(), p.short(), p.short(), p.set()
	e.How, e.Bits, e.Since, e.Text = p.one(), p.one(), p.number()-1, p.short()
	if p.torn || p.rest != "" || !plainEditOk(e) {
		return impl.Edit{}, false
	}
	return e, true
}

// plainApply is the document's rule, by the plain rules of chapters 8 and 9.
func plainApply(s impl.Store, e impl.Edit) (impl.Store, int) {
	at := placeOf(s, e.Box)
	switch {
	case !plainStoreOk(s) || !plainEditOk(e):
		return s, codeBad
	case e.Kind == edMake:
		return plainMakeBox(s, e.Box)
	case at < 0:
		return s, codeNone
	case e.Kind == edDrop:
		return plainDropBox(s, e.Box)
	case e.Kind == edCopy:
		return plainCopyMails(s, e.Box, e.Set, e.To)
	case e.Kind == edMove:
		return plainMoveMails(s, e.Box, e.Set, e.To)
	}
	b, uid := s.Boxes[at], 0
	switch e.Kind {
	case edAdd:
		if b, uid = plainAddMail(b, e.Bits, e.Text); uid == 0 {
			return s, codeFull
		}
	case edFlag:
		b, _, _ = plainSetFlags(b, e.Set, e.How, e.Bits, e.Since)
	case edExpunge:
		b, _ = plainExpunge(b, e.Set)
	case edForget:
		b = plainForget(b, e.Since)
	}
	return withBox(s, at, b), 0
}

// wantRightEdit holds that the edit is right, that its text is that of the document, and that it comes back from it.
func wantRightEdit(t *testing.T, e impl.Edit) {
	t.Helper()
	want := plainEditText(e)
	text, ok := impl.EditText(e)
	if !impl.EditOk(e) || !ok || text != want {
		t.Fatalf("%s: EditOk is %v, EditText %q, %v; want %q", editTold(e), impl.EditOk(e), text, ok, want)
	}
	if got, ok := impl.ReadEdit(want); !ok || !sameEdit(got, e) {
		t.Fatalf("ReadEdit(%q) = %s, %v; want %s", want, editTold(got), ok, editTold(e))
	}
}

func wantWrongEdit(t *testing.T, e impl.Edit) {
	t.Helper()
	if text, ok := impl.EditText(e); impl.EditOk(e) || ok || text != "" {
		t.Fatalf("%s: EditOk is %v, EditText %q, %v", editTold(e), impl.EditOk(e), text, ok)
	}
}

func wantNoEdit(t *testing.T, text string) {
	t.Helper()
	if got, ok := impl.ReadEdit(text); ok || !sameEdit(got, impl.Edit{}) {
		t.Fatalf("ReadEdit(%.200q) = %s, %v; want none", text, editTold(got), ok)
	}
}

// wantReadAsPlain holds ReadEdit against the plain reader; it tells whether there is an edit.
func wantReadAsPlain(t *testing.T, text string) bool {
	t.Helper()
	want, right := plainReadEdit(text)
	if got, ok := impl.ReadEdit(text); ok != right || !sameEdit(got, want) {
		t.Fatalf("ReadEdit(%.200q) = %s, %v; want %s, %v", text, editTold(got), ok, editTold(want), right)
	}
	return right
}

func wantApplied(t *testing.T, s impl.Store, e impl.Edit) (impl.Store, int) {
	t.Helper()
	got, code := impl.Apply(s, e)
	want, wanted := plainApply(s, e)
	wantStore(t, fmt.Sprintf("Apply of %s in %s", editTold(e), storeTold(s)), got, code, want, wanted)
	return got, code
}

// editChange is what makes another edit of one.
type editChange struct {
	field string
	do    func(e *impl.Edit)
}

func changedEdit(kind int, c editChange) impl.Edit {
	e := someEdit(kind)
	c.do(&e)
	return e
}

func intChanges(field string, put func(e *impl.Edit, n int), values []int) []editChange {
	var list []editChange
	for _, n := range values {
		list = append(list, editChange{field, func(e *impl.Edit) { put(e, n) }})
	}
	return list
}

func textChanges(field string, put func(e *impl.Edit, text string), values []string) []editChange {
	var list []editChange
	for _, text := range values {
		list = append(list, editChange{field, func(e *impl.Edit) { put(e, text) }})
	}
	return list
}

func setChanges(values [][]impl.Range) []editChange {
	var list []editChange
	for _, s := range values {
		list = append(list, editChange{"set", func(e *impl.Edit) { e.Set = s }})
	}
	return list
}

func putBox(e *impl.Edit, text string)  { e.Box = text }
func putTo(e *impl.Edit, text string)   { e.To = text }
func putText(e *impl.Edit, text string) { e.Text = text }
func putHow(e *impl.Edit, n int)        { e.How = n }
func putBits(e *impl.Edit, n int)       { e.Bits = n }
func putSince(e *impl.Edit, n int)      { e.Since = n }

func rightBoxNames() []string {
	return []string{"a", "z", "inbox", "abcdwxyz", "zzzzzzzz", "aaaaaaaa", "none"}
}

func wrongBoxNames() []string {
	return []string{"", "abcdefghi", "abcdefghijklmnop", "A", "inboX", "in box", " inbox", "inbox ", "in1", "inbox\n", "a\x00", "\x00", "`", "{", "a-b", "\xff", "a\xff", "\u00e9", "\uff41", strings.Repeat("a", 70000)}
}

func rightMailTexts() []string {
	return append(oddTexts(), "a", "\x01", "\n", strings.Repeat("a", 127), strings.Repeat("a", 128), strings.Repeat("\xff", 199), strings.Repeat("b", 200), "subject: a\n\nbody", allBytes()[1:201])
}

func wrongMailTexts() []string {
	return []string{"", "\x00", "a\x00", "\x00a", strings.Repeat("a", 199) + "\x00", strings.Repeat("a", 201), strings.Repeat("a", 20001), strings.Repeat("a", 70000), allBytes()[:200]}
}

// rightSinces are right in both kinds, but -1, which is right in EdFlag alone.
func rightSinces() []int {
	return []int{0, 1, 2, 126, 127, 128, 16382, 16383, 16384, 99998, 99999, 100000}
}

// wrongSinces are right in none.
func wrongSinces() []int {
	return []int{-2, -3, -100000, 100001, 100002, 999999999, 1000000000, 1<<32 - 1, 1<<32 + 5, 1 << 62, math.MinInt, math.MinInt + 1, math.MaxInt - 1, math.MaxInt}
}

// rightFieldChanges leave an edit of that kind right, at the limits.
func rightFieldChanges(kind int) []editChange {
	sinces := rightSinces()
	if kind == edFlag {
		sinces = append(sinces, -1)
	}
	all := slices.Concat(
		textChanges("to", putTo, rightBoxNames()), setChanges(rightSets()), intChanges("how", putHow, []int{1, 2, 3}), intChanges("bits", putBits, []int{0, 1, 2, 7, 8, 15, 16, 30, 31}),
		intChanges("since", putSince, sinces), textChanges("text", putText, rightMailTexts()))
	list := textChanges("box", putBox, rightBoxNames())
	for _, c := range all {
		if slices.Contains(plainUses[kind], c.field) {
			list = append(list, c)
		}
	}
	return list
}

// wrongFieldChanges make one field of an edit of that kind wrong: one that it uses not right, or one that it does not not zero.
func wrongFieldChanges(kind int) []editChange {
	list := textChanges("box", putBox, wrongBoxNames())
	uses := func(field string) bool { return slices.Contains(plainUses[kind], field) }
	if uses("to") {
		list = append(list, textChanges("to", putTo, wrongBoxNames())...)
	} else {
		list = append(list, textChanges("to", putTo, []string{"a", "done", "work", "inbox", "\x00", " ", "abcdefghi", "A"})...)
	}
	if uses("set") {
		list = append(list, setChanges(wrongSets())...)
	} else {
		list = append(list, setChanges(append(wrongSets(), rightSets()[2:]...))...)
	}
	if uses("how") {
		list = append(list, intChanges("how", putHow, wrongHows())...)
	} else {
		list = append(list, intChanges("how", putHow, append(wrongHows()[1:], 1, 2, 3))...)
	}
	if uses("bits") {
		list = append(list, intChanges("bits", putBits, wrongBits())...)
	} else {
		list = append(list, intChanges("bits", putBits, append(wrongBits(), 1, 2, 4, 8, 16, 31))...)
	}
	if uses("text") {
		list = append(list, textChanges("text", putText, wrongMailTexts())...)
	} else {
		list = append(list, textChanges("text", putText, append(wrongMailTexts()[1:], "a", " ", "subject: a\n"))...)
	}
	sinces := wrongSinces()
	if kind != edFlag {
		sinces = append(sinces, -1)
	}
	if !uses("since") {
		sinces = append(sinces, rightSinces()[1:]...)
	}
	return append(list, intChanges("since", putSince, sinces)...)
}

func rightEdits() []impl.Edit {
	var list []impl.Edit
	for kind := edMake; kind <= edForget; kind++ {
		for _, c := range rightFieldChanges(kind) {
			list = append(list, changedEdit(kind, c))
		}
	}
	return append(list, someEdits()...)
}

func wrongKinds() []int {
	return []int{0, 9, 10, -1, -2, -8, 16, 127, 128, 255, 256, 257, 264, 1<<32 + 1, math.MinInt, math.MinInt + 3, math.MaxInt}
}

func wrongEdits() []impl.Edit {
	list := []impl.Edit{{}, {Box: "inbox"}}
	for kind := edMake; kind <= edForget; kind++ {
		for _, c := range wrongFieldChanges(kind) {
			list = append(list, changedEdit(kind, c))
		}
		for _, wrong := range wrongKinds() {
			list = append(list, changedEdit(kind, editChange{"kind", func(e *impl.Edit) { e.Kind = wrong }}))
		}
	}
	return list
}

func TestEditKinds(t *testing.T) {
	kinds := []int{impl.EdMake, impl.EdDrop, impl.EdAdd, impl.EdFlag, impl.EdExpunge, impl.EdCopy, impl.EdMove, impl.EdForget}
	if !slices.Equal(kinds, []int{1, 2, 3, 4, 5, 6, 7, 8}) {
		t.Errorf("the kinds are %v", kinds)
	}
}

func TestRightEdits(t *testing.T) {
	for _, e := range rightEdits() {
		if !plainEditOk(e) {
			t.Fatalf("%s is told as right", editTold(e))
		}
		wantRightEdit(t, e)
	}
}

func TestWrongEdits(t *testing.T) {
	for _, e := range wrongEdits() {
		if plainEditOk(e) {
			t.Fatalf("%s is told as wrong", editTold(e))
		}
		wantWrongEdit(t, e)
	}
}

// The limits of the chapter, each met and passed by one.
func TestEditLimits(t *testing.T) {
	type edit = impl.Edit
	for _, c := range []struct {
		e     edit
		right bool
	}{
		{edit{Kind: edFlag, Box: "a", How: 1, Since: -2}, false},
		{edit{Kind: edFlag, Box: "a", How: 1, Since: -1}, true},
		{edit{Kind: edFlag, Box: "a", How: 1, Since: 0}, true},
		{edit{Kind: edFlag, Box: "a", How: 1, Since: 100000}, true},
		{edit{Kind: edFlag, Box: "a", How: 1, Since: 100001}, false},
		{edit{Kind: edForget, Box: "a", Since: -1}, false},
		{edit{Kind: edForget, Box: "a", Since: 0}, true},
		{edit{Kind: edForget, Box: "a", Since: 100000}, true},
		{edit{Kind: edForget, Box: "a", Since: 100001}, false},
		{edit{Kind: edFlag, Box: "a", How: 0}, false},
		{edit{Kind: edFlag, Box: "a", How: 2}, true},
		{edit{Kind: edFlag, Box: "a", How: 3}, true},
		{edit{Kind: edFlag, Box: "a", How: 4}, false},
		{edit{Kind: edFlag, Box: "a", How: 1, Bits: -1}, false},
		{edit{Kind: edFlag, Box: "a", How: 1, Bits: 31}, true},
		{edit{Kind: edFlag, Box: "a", How: 1, Bits: 32}, false},
		{edit{Kind: edAdd, Box: "a", Text: "x", Bits: -1}, false},
		{edit{Kind: edAdd, Box: "a", Text: "x", Bits: 0}, true},
		{edit{Kind: edAdd, Box: "a", Text: "x", Bits: 31}, true},
		{edit{Kind: edAdd, Box: "a", Text: "x", Bits: 32}, false},
		{edit{Kind: edAdd, Box: "a", Text: ""}, false},
		{edit{Kind: edAdd, Box: "a", Text: strings.Repeat("x", 200)}, true},
		{edit{Kind: edAdd, Box: "a", Text: strings.Repeat("x", 201)}, false},
		{edit{Kind: edMake, Box: ""}, false},
		{edit{Kind: edMake, Box: "abcdefgh"}, true},
		{edit{Kind: edMake, Box: "abcdefghi"}, false},
		{edit{Kind: edExpunge, Box: "a", Set: sparse(40, 1, 1, 1)}, true},
		{edit{Kind: edExpunge, Box: "a", Set: sparse(41, 1, 1, 1)}, false},
		{edit{Kind: edCopy, Box: "a", To: "abcdefgh"}, true},
		{edit{Kind: edCopy, Box: "a", To: "abcdefghi"}, false},
		{edit{Kind: edCopy, Box: "a", To: ""}, false},
		{edit{Kind: edCopy, Box: "a", To: "a"}, true},
		{edit{Kind: edMove, Box: "a", To: "a"}, true},
		{edit{Kind: edMove, Box: "a", To: ""}, false},
	} {
		if c.right {
			wantRightEdit(t, c.e)
		} else {
			wantWrongEdit(t, c.e)
		}
	}
}

// Every kind with every mixture of fields that are zero, right or not.
func TestEditsOfAllMixtures(t *testing.T) {
	sets := [][]impl.Range{nil, {}, setOf(span(2, 5)), setOf(span(5, 2))}
	count := 0
	for kind := 0; kind <= 9; kind++ {
		for i := range 3 * 3 * 4 * 3 * 3 * 4 * 3 {
			draw := func(many int) int { n := i % many; i /= many; return n }
			e := impl.Edit{
				Kind: kind, Box: []string{"work", "", "Work"}[draw(3)], To: []string{"", "done", "1"}[draw(3)], Set: sets[draw(4)],
				How: []int{0, 3, 4}[draw(3)], Bits: []int{0, 9, 32}[draw(3)], Since: []int{0, 7, -1, 100001}[draw(4)], Text: []string{"", "t", "\x00"}[draw(3)],
			}
			if plainEditOk(e) {
				count++
				wantRightEdit(t, e)
			} else {
				wantWrongEdit(t, e)
				wantReadAsPlain(t, plainEditText(e))
			}
		}
	}
	if count < 30 {
		t.Errorf("just %d of them are right", count)
	}
}

func TestEditTextBytes(t *testing.T) {
	longest := strings.Repeat("x", 200)
	for _, c := range []struct {
		e    impl.Edit
		text string
	}{
		{impl.Edit{Kind: 1, Box: "old"}, "\x01\x03old\x00\x00\x00\x00\x01\x00"},
		{impl.Edit{Kind: 1, Box: "a"}, "\x01\x01a\x00\x00\x00\x00\x01\x00"},
		{impl.Edit{Kind: 2, Box: "abcdefgh"}, "\x02\x08abcdefgh\x00\x00\x00\x00\x01\x00"},
		{impl.Edit{Kind: 3, Box: "inbox", Bits: 31, Text: "\xff\n"}, "\x03\x05inbox\x00\x00\x00\x1f\x01\x02\xff\n"},
		{impl.Edit{Kind: 3, Box: "b", Text: longest}, "\x03\x01b\x00\x00\x00\x00\x01\xc8\x01" + longest},
		{impl.Edit{Kind: 4, Box: "b", Set: setOf(span(1, 3), span(9, 9)), How: 1, Bits: 8, Since: -1}, "\x04\x01b\x00\x051:3,9\x01\x08\x00\x00"},
		{impl.Edit{Kind: 4, Box: "b", Set: setOf(span(7, 7)), How: 3, Bits: 0, Since: 0}, "\x04\x01b\x00\x017\x03\x00\x01\x00"},
		{impl.Edit{Kind: 4, Box: "b", How: 2, Bits: 16, Since: 126}, "\x04\x01b\x00\x00\x02\x10\x7f\x00"},
		{impl.Edit{Kind: 4, Box: "b", How: 2, Bits: 16, Since: 127}, "\x04\x01b\x00\x00\x02\x10\x80\x01\x00"},
		{impl.Edit{Kind: 4, Box: "b", How: 2, Bits: 31, Since: 100000}, "\x04\x01b\x00\x00\x02\x1f\xa1\x8d\x06\x00"},
		{impl.Edit{Kind: 5, Box: "b", Set: setOf(span(1, 9999))}, "\x05\x01b\x00\x061:9999\x00\x00\x01\x00"},
		{impl.Edit{Kind: 5, Box: "b"}, "\x05\x01b\x00\x00\x00\x00\x01\x00"},
		{impl.Edit{Kind: 6, Box: "b", To: "cd", Set: setOf(span(2, 2))}, "\x06\x01b\x02cd\x012\x00\x00\x01\x00"},
		{impl.Edit{Kind: 6, Box: "b", To: "b"}, "\x06\x01b\x01b\x00\x00\x00\x01\x00"},
		{impl.Edit{Kind: 7, Box: "cd", To: "b", Set: setOf(span(10, 11))}, "\x07\x02cd\x01b\x0510:11\x00\x00\x01\x00"},
		{impl.Edit{Kind: 8, Box: "b", Since: 0}, "\x08\x01b\x00\x00\x00\x00\x01\x00"},
		{impl.Edit{Kind: 8, Box: "b", Since: 100000}, "\x08\x01b\x00\x00\x00\x00\xa1\x8d\x06\x00"},
	} {
		if got, ok := impl.EditText(c.e); !ok || got != c.text {
			t.Errorf("EditText(%s) = %q, %v; want %q", editTold(c.e), got, ok, c.text)
		}
		if got, ok := impl.ReadEdit(c.text); !ok || !sameEdit(got, c.e) {
			t.Errorf("ReadEdit(%q) = %s, %v", c.text, editTold(got), ok)
		}
	}
}

// A set of as long a text as there is: its length takes two bytes.
func TestEditTextOfALongSet(t *testing.T) {
	e := impl.Edit{Kind: edExpunge, Box: "inbox", Set: sparse(40, 1001, 2, 100)}
	set := plainSetText(e.Set)
	want := "\x05\x05inbox\x00\x8f\x03" + set + "\x00\x00\x01\x00"
	if got, ok := impl.EditText(e); !ok || len(set) != 399 || got != want {
		t.Errorf("EditText(%s) = %q, %v; want %q", editTold(e), got, ok, want)
	}
	wantRightEdit(t, e)
}

// A set that is empty is right where it is used, be it nil or not, and comes back as one.
func TestEditsOfEmptySets(t *testing.T) {
	for _, set := range [][]impl.Range{nil, {}, spareSet(nil)} {
		for kind := edMake; kind <= edForget; kind++ {
			e := someEdit(kind)
			e.Set = set
			wantRightEdit(t, e)
			text, _ := impl.EditText(e)
			if got, ok := impl.ReadEdit(text); !ok || len(got.Set) != 0 {
				t.Errorf("ReadEdit(%q) = %s, %v", text, editTold(got), ok)
			}
			wantApplied(t, someStore(), e)
			if kind >= edFlag && kind <= edMove {
				for _, box := range []string{"done", "inbox"} {
					e.Box = box
					got, code := impl.Apply(someStore(), e)
					wantStore(t, "Apply of an empty set", got, code, someStore(), 0)
				}
			}
		}
	}
}

func TestReadEditOfCutTexts(t *testing.T) {
	for _, e := range rightEdits() {
		text := plainEditText(e)
		for end := range len(text) {
			wantNoEdit(t, text[:end])
		}
		wantNoEdit(t, text[1:])
		wantReadAsPlain(t, text[2:])
	}
}

func TestReadEditOfBytesBehind(t *testing.T) {
	for _, e := range rightEdits() {
		text := plainEditText(e)
		for _, more := range []string{"\x00", "a", "\xff", "\x01a", "\n", text, strings.Repeat("\x00", 30000)} {
			wantNoEdit(t, text+more)
			wantNoEdit(t, more[:1]+text)
		}
	}
}

// Each place of a short text with every byte, and with each byte put in or taken out.
func TestReadEditOfChangedBytes(t *testing.T) {
	found := 0
	for _, e := range append(someEdits(), impl.Edit{Kind: edFlag, Box: "a", How: 1, Since: -1}, impl.Edit{Kind: edMove, Box: "a", To: "b"}, impl.Edit{Kind: edForget, Box: "a", Since: 100000}) {
		text := plainEditText(e)
		for at := range len(text) {
			for c := range 256 {
				one := string([]byte{byte(c)})
				if wantReadAsPlain(t, text[:at]+one+text[at+1:]) {
					found++
				}
				wantReadAsPlain(t, text[:at]+one+text[at:])
			}
			wantReadAsPlain(t, text[:at]+text[at+1:])
		}
	}
	if found < 1000 {
		t.Errorf("just %d of the changed texts are those of other edits", found)
	}
}

// No text of fewer than 9 bytes is one; of those of 9 bytes, drawn of few bytes, just these are.
func TestReadEditOfShortTexts(t *testing.T) {
	few := []byte{0, 1, 2, 8, 'a'}
	want := map[string]bool{
		"\x01\x01a\x00\x00\x00\x00\x01\x00": true, "\x02\x01a\x00\x00\x00\x00\x01\x00": true,
		"\x08\x01a\x00\x00\x00\x00\x01\x00": true, "\x08\x01a\x00\x00\x00\x00\x02\x00": true, "\x08\x01a\x00\x00\x00\x00\x08\x00": true, "\x08\x01a\x00\x00\x00\x00a\x00": true,
	}
	wantNoEdit(t, "")
	text := make([]byte, 9)
	for i := range 5 * 5 * 5 * 5 * 5 * 5 * 5 * 5 * 5 {
		for at := range text {
			text[at] = few[i%5]
			i /= 5
		}
		if _, ok := impl.ReadEdit(string(text)); ok != want[string(text)] {
			t.Fatalf("ReadEdit(%q) is %v", text, ok)
		}
		wantNoEdit(t, string(text[:8]))
	}
	for c := range 256 {
		wantNoEdit(t, string([]byte{byte(c)}))
		wantNoEdit(t, string([]byte{byte(c), 1, 'a', 0}))
	}
}

// longer is VarText of n in one byte more, which adds nothing.
func longer(n int) string {
	b := []byte(plainVar(n))
	b[len(b)-1] |= 128
	return string(append(b, 0))
}

func TestReadEditOfLongerNumbers(t *testing.T) {
	for _, e := range rightEdits() {
		set, sinces := plainSetText(e.Set), plainVar(e.Since+1)
		pieces := []string{string([]byte{byte(e.Kind)}), plainVar(len(e.Box)), e.Box, plainVar(len(e.To)), e.To, plainVar(len(set)), set, string([]byte{byte(e.How), byte(e.Bits)}), sinces, plainVar(len(e.Text)), e.Text}
		if strings.Join(pieces, "") != plainEditText(e) {
			t.Fatal("the pieces are not the text")
		}
		for at, n := range map[int]int{1: len(e.Box), 3: len(e.To), 5: len(set), 8: e.Since + 1, 9: len(e.Text)} {
			other := slices.Clone(pieces)
			other[at] = longer(n)
			wantNoEdit(t, strings.Join(other, ""))
			other[at] = other[at][:len(other[at])-1] + "\x80\x00"
			wantNoEdit(t, strings.Join(other, ""))
		}
	}
}

// Texts that tell a set, but are not what SetText gives of it, and some that tell none.
func TestReadEditOfOtherSetTexts(t *testing.T) {
	for _, kind := range []int{edFlag, edExpunge, edCopy, edMove} {
		e := someEdit(kind)
		for _, set := range []string{
			"01", "0001", "1:1", "3:1", "9:1", "1,2", "1:2,3", "1:3,2:5", "5,1", "7:9,1:3", "1,1", "*", "1:*", "*:1", "*:*", "1,*", "9999:9999", "1:09",
			" 1", "1 ", "1, 3", "1;3", ",", "1,", ",1", "1,,3", "1:", ":1", ":", "1::3", "1:3:5", "0", "0:3", "-1", "+1", "1-3", "a", "\x00", "1\x00", "10000", "1:10000", "1.0",
			singles(41, 2), singles(40, 2) + ",79", strings.Repeat("1,", 9999) + "1", strings.Repeat("7", 20001),
		} {
			wantNoEdit(t, bytesOf(e, set))
		}
		for _, set := range []string{"", "1", "9999", "1:9999", "1:2", "1,3", "1:3,5,7:9", singles(40, 2)} {
			want, _ := plainReadSet(set, 1)
			if got, ok := impl.ReadEdit(bytesOf(e, set)); !ok || !slices.Equal(got.Set, want) {
				t.Errorf("with the set %q ReadEdit is %s, %v", set, editTold(got), ok)
			}
		}
	}
	for _, kind := range []int{edMake, edDrop, edAdd, edForget} {
		for _, set := range []string{"1", "1:9", "*", "x", "0", ",", " "} {
			wantNoEdit(t, bytesOf(someEdit(kind), set))
		}
	}
}

// The bytes of an edit that is not right are those of none (or, where a number is too great for a byte, of another one).
func TestReadEditOfWrongEdits(t *testing.T) {
	others := 0
	for _, e := range wrongEdits() {
		if e.Since < -1 || e.Since > 1<<40 {
			// A number below 0 has no such bytes.
			continue
		}
		if wantReadAsPlain(t, plainEditText(e)) {
			others++
			if inByte(e.Kind) && inByte(e.How) && inByte(e.Bits) {
				t.Fatalf("the bytes of %s are those of a right edit", editTold(e))
			}
		}
	}
	if others == 0 {
		t.Error("no number is too great for a byte")
	}
	wantNoEdit(t, "\x08\x01b\x00\x00\x00\x00\x00\x00")
	wantNoEdit(t, "\x08\x01b\x00\x00\x00\x00\xa2\x8d\x06\x00")
	wantNoEdit(t, "\x04\x01b\x00\x00\x01\x00\xa2\x8d\x06\x00")
	wantNoEdit(t, "\x01\x01b\x00\x00\x00\x00\x00\x00")
}

func inByte(n int) bool { return n >= 0 && n <= 255 }

func drawnRightEdit(r *rand.Rand) impl.Edit {
	e := impl.Edit{Kind: 1 + r.Intn(8), Box: drawnBoxName(r)}
	for _, field := range plainUses[e.Kind] {
		switch field {
		case "to":
			e.To = drawnBoxName(r)
		case "set":
			e.Set = drawnSet(r)
		case "how":
			e.How = 1 + r.Intn(3)
		case "bits":
			e.Bits = r.Intn(32)
		case "since":
			e.Since = r.Intn(1<<r.Intn(17) + 1)
		case "text":
			e.Text = "t" + strings.ReplaceAll(drawnText(r, r.Intn(200)), "\x00", "\x01")
		}
	}
	if e.Kind == edFlag && r.Intn(3) == 0 {
		e.Since = -1
	}
	return e
}

func drawnBoxName(r *rand.Rand) string {
	name := ""
	for range 1 + r.Intn(8) {
		name += string(rune('a' + r.Intn(26)))
	}
	return name
}

func TestDrawnEditsComeBack(t *testing.T) {
	r := rand.New(rand.NewSource(31))
	seen := map[string]impl.Edit{}
	for range 4000 {
		e := drawnRightEdit(r)
		wantRightEdit(t, e)
		text := plainEditText(e)
		if other, there := seen[text]; there && !sameEdit(other, e) {
			t.Fatalf("%s and %s have one text", editTold(e), editTold(other))
		}
		seen[text] = e
		spoiled := []byte(text)
		for range 1 + r.Intn(3) {
			spoiled[r.Intn(len(spoiled))] = byte(r.Intn(256) >> r.Intn(8))
		}
		wantReadAsPlain(t, string(spoiled))
	}
}

func TestReadEditOfDrawnBytes(t *testing.T) {
	r := rand.New(rand.NewSource(32))
	for range 20000 {
		wantReadAsPlain(t, string([]byte{byte(r.Intn(10)), 1, 'a'})+drawnText(r, r.Intn(12)))
		wantReadAsPlain(t, drawnText(r, r.Intn(40)))
	}
	for _, text := range []string{strings.Repeat("\x00", 100000), strings.Repeat("\xff", 100000), strings.Repeat("\x80", 100000), "\x01" + strings.Repeat("\x01a", 60000), "\x01\xff\xff\xff\xff\x7f", "\x01\xff\xff\xff\xff\xff\xff\xff\xff\x7fa"} {
		wantNoEdit(t, text)
	}
}

// What each kind makes of some store, told by hand.
func TestApply(t *testing.T) {
	want := make([]impl.Store, 9)
	for i := range want {
		want[i] = someStore()
	}
	want[edMake].Boxes, want[edMake].Valid = slices.Insert(want[edMake].Boxes, 2, emptyBox("old", 8)), 9
	want[edDrop].Boxes = want[edDrop].Boxes[1:]

	b := &want[edAdd].Boxes[0]
	b.Next, b.Mod, b.Mails = 6, 7, append(b.Mails, mail(5, 5, 7, "cinque"))

	b = &want[edFlag].Boxes[0]
	b.Mod, b.Mails = 7, []impl.Mail{mail(1, 16, 7, "uno"), mail(3, 17, 6, "tre"), mail(4, 24, 7, "quattro")}

	b = &want[edExpunge].Boxes[0]
	b.Mod, b.Mails, b.Tombs = 7, b.Mails[:2], append(b.Tombs, tomb(4, 7))

	want[edCopy].Boxes[2] = impl.Box{Name: "work", Valid: 7, Next: 2, Mod: 2, Mails: []impl.Mail{mail(1, 17, 2, "tre")}}

	b = &want[edMove].Boxes[0]
	b.Mod, b.Mails, b.Tombs = 8, b.Mails[1:], append(b.Tombs, tomb(1, 8))
	want[edMove].Boxes[2] = impl.Box{Name: "work", Valid: 7, Next: 2, Mod: 2, Mails: []impl.Mail{mail(1, 0, 2, "uno")}}

	want[edForget].Boxes[0].Tombs, want[edForget].Boxes[0].Horizon = nil, 4
	for _, e := range someEdits() {
		got, code := impl.Apply(someStore(), e)
		wantStore(t, "Apply of "+editTold(e), got, code, want[e.Kind], 0)
		if !impl.StoreOk(got) {
			t.Errorf("behind %s the store is not right", editTold(e))
		}
	}
}

// asNamed is what the function of chapter 8 or 9 answers that the kind names; the box is there, but of EdMake.
func asNamed(s impl.Store, e impl.Edit) (impl.Store, int) {
	b, _ := impl.BoxAt(s, e.Box)
	switch e.Kind {
	case impl.EdMake:
		return impl.MakeBox(s, e.Box)
	case impl.EdDrop:
		return impl.DropBox(s, e.Box)
	case impl.EdCopy:
		return impl.CopyMails(s, e.Box, e.Set, e.To)
	case impl.EdMove:
		return impl.MoveMails(s, e.Box, e.Set, e.To)
	case impl.EdAdd:
		became, uid := impl.AddMail(b, e.Bits, e.Text)
		if uid == 0 {
			return s, codeFull
		}
		return impl.PutBox(s, became), 0
	case impl.EdFlag:
		b, _, _ = impl.SetFlags(b, e.Set, e.How, e.Bits, e.Since)
	case impl.EdExpunge:
		b, _ = impl.Expunge(b, e.Set)
	case impl.EdForget:
		b = impl.ForgetTombs(b, e.Since)
	}
	return impl.PutBox(s, b), 0
}

// storeEdits are edits of all kinds that meet the boxes of some store, and of some that are not there.
func storeEdits() []impl.Edit {
	var list []impl.Edit
	for _, box := range []string{"done", "inbox", "work", "x", "none"} {
		list = append(list, impl.Edit{Kind: edMake, Box: box}, impl.Edit{Kind: edDrop, Box: box}, impl.Edit{Kind: edAdd, Box: box, Text: "new"}, impl.Edit{Kind: edAdd, Box: box, Bits: 31, Text: strings.Repeat("n", 200)})
		for _, since := range []int{0, 1, 4, 7, 9, 19, 20, 21, 99999, 100000} {
			list = append(list, impl.Edit{Kind: edForget, Box: box, Since: since})
		}
		for i, set := range boxSets() {
			list = append(list, impl.Edit{Kind: edExpunge, Box: box, Set: set})
			for how := 1; how <= 3; how++ {
				since := []int{-1, 0, 12, 19, 20, 100000}[(i+how)%6]
				list = append(list, impl.Edit{Kind: edFlag, Box: box, Set: set, How: how, Bits: (7*i + 5*how) % 32, Since: since})
			}
			for _, to := range []string{"done", "inbox", "work", "none"} {
				list = append(list, impl.Edit{Kind: edCopy, Box: box, Set: set, To: to}, impl.Edit{Kind: edMove, Box: box, Set: set, To: to})
			}
		}
	}
	return list
}

func TestApplyInAllStores(t *testing.T) {
	edits := storeEdits()
	codes := map[[2]int]int{}
	for _, s := range changedStores(rightStoreChanges()) {
		for _, e := range edits {
			got, code := wantApplied(t, s, e)
			codes[[2]int{e.Kind, code}]++
			if placeOf(s, e.Box) >= 0 || e.Kind == edMake {
				want, wanted := asNamed(s, e)
				wantStore(t, "Apply of "+editTold(e), got, code, want, wanted)
			} else if code != codeNone {
				t.Fatalf("without the box %s is answered with %d", editTold(e), code)
			}
			if !impl.StoreOk(got) {
				t.Fatalf("behind %s the store is not right: %s", editTold(e), storeTold(got))
			}
		}
	}
	for kind, wanted := range map[int][]int{edMake: {0, 2, 3}, edDrop: {0, 1, 4}, edAdd: {0, 1, 3}, edFlag: {0, 1}, edExpunge: {0, 1}, edCopy: {0, 1, 3}, edMove: {0, 1, 3, 4}, edForget: {0, 1}} {
		for code := range 5 {
			if there := codes[[2]int{kind, code}] > 0; there != slices.Contains(wanted, code) {
				t.Errorf("whether the kind %d is answered with %d is %v", kind, code, there)
			}
		}
	}
}

func TestApplyInWrongStores(t *testing.T) {
	for _, s := range changedStores(wrongStoreChanges()) {
		for _, e := range someEdits() {
			got, code := impl.Apply(s, e)
			wantAsItIs(t, "Apply in a wrong store", got, code, s, codeBad)
		}
	}
	for _, s := range someWrongStores() {
		for _, e := range slices.Concat(storeEdits(), []impl.Edit{{}, {Kind: edAdd, Box: "inbox"}, {Kind: 9, Box: "inbox"}}) {
			got, code := impl.Apply(s, e)
			wantAsItIs(t, "Apply in a wrong store", got, code, s, codeBad)
		}
	}
}

func TestApplyOfWrongEdits(t *testing.T) {
	for _, s := range []impl.Store{someStore(), fullStore(), impl.StoreNew()} {
		for _, e := range wrongEdits() {
			got, code := impl.Apply(s, e)
			wantAsItIs(t, "Apply of "+editTold(e), got, code, s, codeBad)
		}
	}
}

func TestApplyOfRightEdits(t *testing.T) {
	for _, e := range rightEdits() {
		wantApplied(t, someStore(), e)
		wantApplied(t, impl.StoreNew(), e)
		e.Box = "inbox"
		wantApplied(t, someStore(), e)
	}
}

// Since counts from -1 on, which is before all and yet asks for nothing, to 100000.
func TestApplySince(t *testing.T) {
	all := setOf(span(1, 9999))
	late := someStore()
	late.Boxes[1].Mod, late.Boxes[1].Mails[2].Mod = 99999, 99999
	for _, c := range []struct {
		since int
		uids  []int
	}{
		{-1, []int{2, 3, 5, 8, 9}}, {0, nil}, {3, nil}, {4, []int{3}}, {11, []int{3}}, {12, []int{3, 8, 9}}, {17, []int{3, 8, 9}}, {18, []int{2, 3, 8, 9}},
		{99998, []int{2, 3, 8, 9}}, {99999, []int{2, 3, 5, 8, 9}}, {100000, []int{2, 3, 5, 8, 9}},
	} {
		got, code := impl.Apply(late, impl.Edit{Kind: edFlag, Box: "inbox", Set: all, How: 1, Bits: 6, Since: c.since})
		if code != 0 {
			t.Fatalf("since %d the code is %d", c.since, code)
		}
		var uids []int
		for _, m := range got.Boxes[1].Mails {
			if m.Flags == 6 && m.Mod == 100000 {
				uids = append(uids, m.Uid)
			}
		}
		if !slices.Equal(uids, c.uids) {
			t.Errorf("since %d the flags of %v are changed; want %v", c.since, uids, c.uids)
		}
	}
	for since, want := range map[int][2]int{0: {5, 5}, 5: {5, 5}, 6: {6, 5}, 7: {7, 4}, 9: {9, 2}, 20: {20, 0}, 21: {5, 5}, 100000: {5, 5}} {
		got, code := impl.Apply(someStore(), impl.Edit{Kind: edForget, Box: "inbox", Since: since})
		if b := got.Boxes[1]; code != 0 || b.Horizon != want[0] || len(b.Tombs) != want[1] {
			t.Errorf("up to %d the code is %d, the box %s", since, code, boxTold(b))
		}
	}
	late.Boxes[1].Mod = 100000
	got, code := impl.Apply(late, impl.Edit{Kind: edForget, Box: "inbox", Since: 100000})
	if b := got.Boxes[1]; code != 0 || b.Horizon != 100000 || len(b.Tombs) != 0 {
		t.Errorf("up to 100000 the code is %d, the box %s", code, boxTold(b))
	}
}

// What SetFlags, Expunge and ForgetTombs leave as it is has no code; what AddMail does has CodeFull.
func TestApplyAtTheEnd(t *testing.T) {
	all := setOf(span(1, 9999))
	ended, last := someStore(), someStore()
	ended.Boxes[1].Mod, last.Boxes[1].Mod = 100000, 99999
	given, almost := someStore(), someStore()
	given.Boxes[1].Next, almost.Boxes[1].Next = 9999, 9998
	crowded, roomy := someStore(), someStore()
	crowded.Boxes[1].Next, crowded.Boxes[1].Mails = 1000, crowd(30, 100)
	roomy.Boxes[1].Next, roomy.Boxes[1].Mails = 1000, crowd(29, 100)
	add := impl.Edit{Kind: edAdd, Box: "inbox", Bits: 3, Text: "one more"}
	for _, s := range []impl.Store{ended, given, crowded} {
		got, code := impl.Apply(s, add)
		wantAsItIs(t, "Apply of a mail too many", got, code, s, codeFull)
	}
	for _, s := range []impl.Store{last, almost, roomy} {
		got, code := wantApplied(t, s, add)
		if mails := got.Boxes[1].Mails; code != 0 || mails[len(mails)-1] != mail(s.Boxes[1].Next, 3, s.Boxes[1].Mod+1, "one more") {
			t.Errorf("the last mail that may be is answered with %d and %s", code, storeTold(got))
		}
		got, code = impl.Apply(got, add)
		if code != codeFull {
			t.Errorf("a mail beyond the last one is answered with %d and %s", code, storeTold(got))
		}
	}
	for _, e := range []impl.Edit{
		{Kind: edFlag, Box: "inbox", Set: all, How: 1, Bits: 4, Since: -1}, {Kind: edExpunge, Box: "inbox", Set: all},
		{Kind: edForget, Box: "inbox", Since: 0}, {Kind: edForget, Box: "inbox", Since: 5}, {Kind: edForget, Box: "inbox", Since: 3},
	} {
		got, code := impl.Apply(ended, e)
		wantStore(t, "Apply at the end of "+editTold(e), got, code, ended, 0)
	}
}

// Where several codes would do: a wrong store or edit is first, then a box that is not there, then what the function tells.
func TestApplyCodes(t *testing.T) {
	type edit = impl.Edit
	all, bad := setOf(span(1, 9999)), setOf(span(5, 2))
	some, full, wrong := someStore(), fullStore(), someStore()
	wrong.Boxes[0].Next = 3
	crowded := someStore()
	crowded.Boxes[2].Next, crowded.Boxes[2].Mails = 31, crowd(30, 1)
	wrongCrowded := ownStore(crowded)
	wrongCrowded.Valid = 7
	noInbox := impl.Store{Boxes: []impl.Box{emptyBox("done", 1), emptyBox("work", 2)}, Valid: 9}
	only := impl.Store{Boxes: []impl.Box{emptyBox("work", 1)}, Valid: 9999}
	for _, c := range []struct {
		what string
		s    impl.Store
		e    edit
		code int
	}{
		{"a wrong store, a box that is not there", wrong, edit{Kind: edDrop, Box: "none"}, codeBad},
		{"a wrong store, a box that is there", wrong, edit{Kind: edMake, Box: "inbox"}, codeBad},
		{"a wrong store, a full box", wrongCrowded, edit{Kind: edAdd, Box: "work", Text: "x"}, codeBad},
		{"a wrong store, nothing to do", wrong, edit{Kind: edExpunge, Box: "work"}, codeBad},
		{"a wrong store, nothing to forget", wrong, edit{Kind: edForget, Box: "work"}, codeBad},
		{"a wrong edit, a box that is not there", some, edit{Kind: edFlag, Box: "none", Set: all}, codeBad},
		{"a wrong set, a box that is not there", some, edit{Kind: edExpunge, Box: "none", Set: bad}, codeBad},
		{"a wrong text, a full box", crowded, edit{Kind: edAdd, Box: "work"}, codeBad},
		{"a wrong text", some, edit{Kind: edAdd, Box: "work", Text: "\x00"}, codeBad},
		{"wrong flags", some, edit{Kind: edAdd, Box: "work", Text: "x", Bits: 32}, codeBad},
		{"a wrong name to make, and full", full, edit{Kind: edMake, Box: "Old"}, codeBad},
		{"a wrong name to drop", some, edit{Kind: edDrop, Box: "Old"}, codeBad},
		{"a wrong name to copy from", some, edit{Kind: edCopy, Box: "Old", To: "work", Set: all}, codeBad},
		{"a wrong name to copy to", some, edit{Kind: edCopy, Box: "inbox", To: "Old", Set: all}, codeBad},
		{"a field too many, a name that is there", some, edit{Kind: edMake, Box: "work", Since: 1}, codeBad},
		{"no kind, a box that is not there", some, edit{Box: "none"}, codeBad},
		{"an add, not there", some, edit{Kind: edAdd, Box: "none", Text: "x"}, codeNone},
		{"flags, not there", some, edit{Kind: edFlag, Box: "none", Set: all, How: 1}, codeNone},
		{"an expunge, not there", some, edit{Kind: edExpunge, Box: "none", Set: all}, codeNone},
		{"an expunge of none, not there", some, edit{Kind: edExpunge, Box: "none"}, codeNone},
		{"a forget, not there", some, edit{Kind: edForget, Box: "none"}, codeNone},
		{"a drop, not there", some, edit{Kind: edDrop, Box: "none"}, codeNone},
		{"a drop of an inbox that is not there", noInbox, edit{Kind: edDrop, Box: "inbox"}, codeNone},
		{"a drop, not there, one box", only, edit{Kind: edDrop, Box: "none"}, codeNone},
		{"a copy, from is not there", some, edit{Kind: edCopy, Box: "none", To: "work", Set: all}, codeNone},
		{"a copy, to is not there", some, edit{Kind: edCopy, Box: "inbox", To: "none", Set: all}, codeNone},
		{"a copy, from is not there, to is full", crowded, edit{Kind: edCopy, Box: "none", To: "work", Set: all}, codeNone},
		{"a move, from is not there", some, edit{Kind: edMove, Box: "none", To: "work", Set: all}, codeNone},
		{"a move, to is not there", some, edit{Kind: edMove, Box: "inbox", To: "none", Set: all}, codeNone},
		{"a move, both the same and not there", some, edit{Kind: edMove, Box: "none", To: "none", Set: all}, codeNone},
		{"a move, both the same", some, edit{Kind: edMove, Box: "inbox", To: "inbox", Set: all}, codeBad},
		{"a move of none, both the same", some, edit{Kind: edMove, Box: "inbox", To: "inbox"}, codeBad},
		{"a drop of the inbox", some, edit{Kind: edDrop, Box: "inbox"}, codeBad},
		{"a drop of the only box", only, edit{Kind: edDrop, Box: "work"}, codeBad},
		{"a make, there", some, edit{Kind: edMake, Box: "work"}, codeThere},
		{"a make, there, and full", full, edit{Kind: edMake, Box: "work"}, codeThere},
		{"a make, full", full, edit{Kind: edMake, Box: "none"}, codeFull},
		{"a make, no Valid any more", only, edit{Kind: edMake, Box: "none"}, codeFull},
		{"an add to a full box", crowded, edit{Kind: edAdd, Box: "work", Text: "x"}, codeFull},
		{"a copy to a full box", crowded, edit{Kind: edCopy, Box: "inbox", To: "work", Set: all}, codeFull},
		{"a move to a full box", crowded, edit{Kind: edMove, Box: "inbox", To: "work", Set: all}, codeFull},
		{"a copy of none to a full box", crowded, edit{Kind: edCopy, Box: "inbox", To: "work"}, 0},
		{"a move of none to a full box", crowded, edit{Kind: edMove, Box: "inbox", To: "work"}, 0},
	} {
		got, code := impl.Apply(c.s, c.e)
		wantAsItIs(t, "Apply with "+c.what, got, code, c.s, c.code)
	}
	got, code := impl.Apply(noInbox, edit{Kind: edMake, Box: "inbox"})
	want := impl.Store{Boxes: []impl.Box{emptyBox("done", 1), emptyBox("inbox", 9), emptyBox("work", 2)}, Valid: 10}
	wantStore(t, "Apply of a box that is not there", got, code, want, 0)
}

// drawnStoreEdit is an edit that is mostly right, and mostly of boxes that may be there.
func drawnStoreEdit(r *rand.Rand) impl.Edit {
	e := drawnRightEdit(r)
	names := []string{"inbox", "inbox", "inbox", "work", "work", "done", "done", "a", "zz"}
	e.Box = names[r.Intn(len(names))]
	if e.To != "" {
		e.To = names[r.Intn(len(names))]
	}
	if e.Kind == edFlag && r.Intn(2) == 0 {
		e.How, e.Bits = 2, 8
	}
	if e.Kind == edForget {
		e.Since = r.Intn(60)
	}
	if len(e.Set) > 0 && r.Intn(2) == 0 {
		lo := 1 + r.Intn(40)
		e.Set = setOf(span(lo, lo+r.Intn(12)))
	}
	if (e.Kind == edDrop || e.Kind == edForget) && r.Intn(3) > 0 {
		e = impl.Edit{Kind: edAdd, Box: e.Box, Bits: r.Intn(32), Text: "subject: " + drawnBoxName(r) + "\n"}
	}
	if r.Intn(40) == 0 {
		e.How, e.Since = 7, -5
	}
	return e
}

// What is done comes back from its bytes, and does once more what it did: a life is told again by the texts of its edits.
func TestDrawnEditLives(t *testing.T) {
	codes := map[[2]int]int{}
	for seed := range 12 {
		r := rand.New(rand.NewSource(int64(seed)))
		begin := impl.StoreNew()
		if seed%3 == 2 {
			begin.Valid, begin.Boxes[0].Mod, begin.Boxes[0].Next = 9980, 99900, 9950
		}
		s, texts := begin, []string{}
		for range 500 {
			e := drawnStoreEdit(r)
			was, code := s, 0
			s, code = wantApplied(t, was, e)
			codes[[2]int{e.Kind, code}]++
			if code != 0 {
				continue
			}
			text, ok := impl.EditText(e)
			if !ok || !impl.StoreOk(s) {
				t.Fatalf("%s was done, but is told by no text, or left a store that is not right", editTold(e))
			}
			texts = append(texts, text)
		}
		again := begin
		for _, text := range texts {
			e, ok := impl.ReadEdit(text)
			code := 0
			if again, code = impl.Apply(again, e); !ok || code != 0 {
				t.Fatalf("done again, %q is %v, %d", text, ok, code)
			}
		}
		wantStore(t, "a life that is done again", again, 0, s, 0)
	}
	for kind, wanted := range map[int][]int{edMake: {0, 2, 3, 4}, edDrop: {0, 1, 4}, edAdd: {0, 1, 3, 4}, edFlag: {0, 1, 4}, edExpunge: {0, 1, 4}, edCopy: {0, 1, 3, 4}, edMove: {0, 1, 3, 4}, edForget: {0, 1, 4}} {
		for _, code := range wanted {
			if codes[[2]int{kind, code}] == 0 {
				t.Errorf("in no life is the kind %d answered with %d", kind, code)
			}
		}
	}
}

// spareEdit is e in memory of its own, with ranges in the spare room behind its set.
func spareEdit(e impl.Edit) impl.Edit {
	e.Box, e.To, e.Text = strings.Clone(e.Box), strings.Clone(e.To), strings.Clone(e.Text)
	e.Set = spareSet(e.Set)
	return e
}

func editTexts(e impl.Edit) []string { return []string{e.Box, e.To, e.Text} }

func TestEditsAnswerNewMemory(t *testing.T) {
	for _, e := range slices.Concat(rightEdits(), []impl.Edit{{Kind: edAdd, Box: "inbox"}}) {
		e = spareEdit(e)
		text, ok := impl.EditText(e)
		wantNewTexts(t, "EditText", []string{text}, editTexts(e))
		if ok {
			text = strings.Clone(text)
			one, _ := impl.ReadEdit(text)
			wantNewTexts(t, "ReadEdit", editTexts(one), []string{text})
			other, _ := impl.ReadEdit(text)
			if shares(one.Set, other.Set) {
				t.Fatal("two answers of ReadEdit share a set")
			}
		}
	}
	codes := map[int]int{}
	edits := slices.Concat(storeEdits(), wrongEdits()[:20])
	for i, s := range slices.Concat(changedStores(rightStoreChanges()), someWrongStores()) {
		s = spareStore(s)
		for at, e := range edits {
			if e.Kind != edAdd && (at+i)%17 != 0 {
				continue
			}
			e = spareEdit(e)
			got, code := impl.Apply(s, e)
			wantNewStore(t, "Apply", got, s)
			for _, b := range got.Boxes {
				wantNewTexts(t, "Apply", boxTexts(b), editTexts(e))
			}
			codes[code]++
		}
	}
	for code := range 5 {
		if codes[code] == 0 {
			t.Errorf("nothing is answered with %d", code)
		}
	}
}

// Boxes that share their lists when they are handed in don't in what Apply answers.
func TestApplyPartsWhatIsShared(t *testing.T) {
	s := someStore()
	s.Boxes[2] = fitted(s.Boxes[1], s.Boxes[2])
	wrong := s
	wrong.Valid = 1
	for _, e := range slices.Concat(someEdits(), storeEdits()) {
		got, _ := impl.Apply(s, e)
		wantNewStore(t, "Apply", got, s)
		got, _ = impl.Apply(wrong, e)
		wantNewStore(t, "Apply in a wrong store", got, s)
	}
}

func TestEditsLeaveArgumentsAlone(t *testing.T) {
	edits := slices.Concat(someEdits(), storeEdits(), wrongEdits()[:300])
	for i, s := range slices.Concat(changedStores(rightStoreChanges()), someWrongStores()) {
		s = spareStore(s)
		before := wholeRoom(s)
		for at, e := range edits {
			if at >= len(someEdits()) && (at+i)%11 != 0 {
				continue
			}
			e = spareEdit(e)
			room := slices.Clone(e.Set[:cap(e.Set)])
			impl.EditOk(e)
			impl.EditText(e)
			impl.Apply(s, e)
			if !slices.Equal(e.Set[:cap(e.Set)], room) {
				t.Fatalf("the set of %s is changed, or the room behind it", editTold(e))
			}
		}
		if !sameStore(wholeRoom(s), before) {
			t.Fatalf("the store %s is changed, or the room behind it", storeTold(s))
		}
	}
}

// An answer of one call is not changed by the next ones that are handed it.
func TestEditsAnswersStand(t *testing.T) {
	r := rand.New(rand.NewSource(33))
	var got, copies []impl.Store
	s := someStore()
	for range 300 {
		e, _ := impl.ReadEdit(plainEditText(drawnStoreEdit(r)))
		set := slices.Clone(e.Set)
		one, _ := impl.Apply(s, e)
		two, _ := impl.Apply(one, e)
		for _, x := range []impl.Store{one, two} {
			got, copies = append(got, x), append(copies, ownStore(x))
		}
		if !slices.Equal(e.Set, set) {
			t.Fatalf("the set of %s is changed; it was %v", editTold(e), set)
		}
		s = []impl.Store{one, two}[r.Intn(2)]
	}
	for i := range got {
		wantStore(t, "Apply, some calls ago,", got[i], 0, copies[i], 0)
	}
}
