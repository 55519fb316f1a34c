package tests

import (
	"fmt"
	"math"
	"math/rand"
	"slices"
	"strings"
	"testing"

	"loop.example/g00247/impl"
)

// The document's numbers, told anew: what the program calls them may be wrong.
const (
	mostBoxes = 4
	codeNone  = 1
	codeThere = 2
	codeFull  = 3
	codeBad   = 4
)

// someStore has a box of few mails, some box, and one without anything.
func someStore() impl.Store {
	done := impl.Box{Name: "done", Valid: 5, Next: 5, Mod: 6, Mails: []impl.Mail{mail(1, 0, 2, "uno"), mail(3, 17, 6, "tre"), mail(4, 8, 5, "quattro")}, Tombs: []impl.Tomb{tomb(2, 4)}}
	return impl.Store{Boxes: []impl.Box{done, someBox(), emptyBox("work", 7)}, Valid: 8}
}

func emptyBox(name string, valid int) impl.Box {
	return impl.Box{Name: name, Valid: valid, Next: 1, Mod: 1}
}

// fullStore has as many boxes as there may be.
func fullStore() impl.Store {
	s := someStore()
	s.Boxes = append(s.Boxes, emptyBox("x", 1))
	return s
}

func sameStore(a impl.Store, b impl.Store) bool {
	return a.Valid == b.Valid && slices.EqualFunc(a.Boxes, b.Boxes, sameBox)
}

func storeTold(s impl.Store) string {
	line := fmt.Sprintf("(valid %d", s.Valid)
	for _, b := range s.Boxes {
		line += "\n\t" + boxTold(b)
	}
	return line + ")"
}

// ownStore is s in memory of its own.
func ownStore(s impl.Store) impl.Store {
	s.Boxes = slices.Clone(s.Boxes)
	for i, b := range s.Boxes {
		s.Boxes[i] = ownBox(b)
	}
	return s
}

func placeOf(s impl.Store, name string) int {
	return slices.IndexFunc(s.Boxes, func(b impl.Box) bool { return b.Name == name })
}

// withBox is s with b in that place.
func withBox(s impl.Store, at int, b impl.Box) impl.Store {
	s.Boxes = slices.Clone(s.Boxes)
	s.Boxes[at] = b
	return s
}

func plainStoreOk(s impl.Store) bool {
	last := ""
	for _, b := range s.Boxes {
		if !plainBoxOk(b) || b.Name <= last || b.Valid >= s.Valid {
			return false
		}
		last = b.Name
	}
	return len(s.Boxes) >= 1 && len(s.Boxes) <= mostBoxes && s.Valid >= 2 && s.Valid <= topUid
}

func plainBoxAt(s impl.Store, name string) (impl.Box, bool) {
	if at := placeOf(s, name); at >= 0 {
		return s.Boxes[at], true
	}
	return impl.Box{}, false
}

func plainPutBox(s impl.Store, b impl.Box) impl.Store {
	if at := placeOf(s, b.Name); at >= 0 {
		return withBox(s, at, b)
	}
	return s
}

func plainMakeBox(s impl.Store, name string) (impl.Store, int) {
	switch {
	case !plainStoreOk(s) || !plainBoxName.MatchString(name):
		return s, codeBad
	case placeOf(s, name) >= 0:
		return s, codeThere
	case len(s.Boxes) == mostBoxes || s.Valid == topUid:
		return s, codeFull
	}
	s.Boxes = append(slices.Clone(s.Boxes), emptyBox(name, s.Valid))
	slices.SortFunc(s.Boxes, func(a impl.Box, b impl.Box) int { return strings.Compare(a.Name, b.Name) })
	s.Valid++
	return s, 0
}

func plainDropBox(s impl.Store, name string) (impl.Store, int) {
	at := placeOf(s, name)
	switch {
	case !plainStoreOk(s) || name == "inbox" || at == 0 && len(s.Boxes) == 1:
		return s, codeBad
	case at < 0:
		return s, codeNone
	}
	s.Boxes = slices.Delete(slices.Clone(s.Boxes), at, at+1)
	return s, 0
}

func plainMailsIn(b impl.Box, set []impl.Range) []impl.Mail {
	return slices.DeleteFunc(slices.Clone(b.Mails), func(m impl.Mail) bool { return !inSet(set, m.Uid) })
}

func plainCopyMails(s impl.Store, from string, set []impl.Range, to string) (impl.Store, int) {
	if !plainStoreOk(s) || !plainSetOk(set) {
		return s, codeBad
	}
	source, target := placeOf(s, from), placeOf(s, to)
	if source < 0 || target < 0 {
		return s, codeNone
	}
	b := s.Boxes[target]
	for _, m := range plainMailsIn(s.Boxes[source], set) {
		var uid int
		if b, uid = plainAddMail(b, m.Flags, m.Text); uid == 0 {
			return s, codeFull
		}
	}
	return withBox(s, target, b), 0
}

func plainMoveMails(s impl.Store, from string, set []impl.Range, to string) (impl.Store, int) {
	if from == to {
		return s, codeBad
	}
	became, code := plainCopyMails(s, from, set, to)
	if code != 0 {
		return s, code
	}
	source := placeOf(s, from)
	b, _, _ := plainSetFlags(s.Boxes[source], set, 2, 8, -1)
	b, _ = plainExpunge(b, set)
	if len(plainMailsIn(b, set)) > 0 {
		return s, codeFull
	}
	return withBox(became, source, b), 0
}

func wantStore(t *testing.T, what string, got impl.Store, code int, want impl.Store, wanted int) {
	t.Helper()
	if code != wanted || !sameStore(got, want) {
		t.Fatalf("%s answers %d and the store %s;\nwant %d, %s", what, code, storeTold(got), wanted, storeTold(want))
	}
}

// wantAsItIs holds that the store is left as it is, with the code.
func wantAsItIs(t *testing.T, what string, got impl.Store, code int, s impl.Store, wanted int) {
	t.Helper()
	wantStore(t, what+", refused,", got, code, s, wanted)
}

func wantBoxMade(t *testing.T, s impl.Store, name string) (impl.Store, int) {
	t.Helper()
	got, code := impl.MakeBox(s, name)
	want, wanted := plainMakeBox(s, name)
	wantStore(t, fmt.Sprintf("MakeBox of %.20q in %s", name, storeTold(s)), got, code, want, wanted)
	return got, code
}

func wantBoxDropped(t *testing.T, s impl.Store, name string) (impl.Store, int) {
	t.Helper()
	got, code := impl.DropBox(s, name)
	want, wanted := plainDropBox(s, name)
	wantStore(t, fmt.Sprintf("DropBox of %.20q in %s", name, storeTold(s)), got, code, want, wanted)
	return got, code
}

func wantMailsCopied(t *testing.T, s impl.Store, from string, set []impl.Range, to string) (impl.Store, int) {
	t.Helper()
	got, code := impl.CopyMails(s, from, set, to)
	want, wanted := plainCopyMails(s, from, set, to)
	wantStore(t, fmt.Sprintf("CopyMails from %.20q of %v to %.20q in %s", from, set, to, storeTold(s)), got, code, want, wanted)
	return got, code
}

func wantMailsMoved(t *testing.T, s impl.Store, from string, set []impl.Range, to string) (impl.Store, int) {
	t.Helper()
	got, code := impl.MoveMails(s, from, set, to)
	want, wanted := plainMoveMails(s, from, set, to)
	wantStore(t, fmt.Sprintf("MoveMails from %.20q of %v to %.20q in %s", from, set, to, storeTold(s)), got, code, want, wanted)
	return got, code
}

// storeChange is what makes another store of some store.
type storeChange struct {
	what string
	do   func(s *impl.Store)
}

func changedStores(changes []storeChange) []impl.Store {
	var list []impl.Store
	for _, c := range changes {
		s := someStore()
		c.do(&s)
		list = append(list, s)
	}
	return list
}

// fitted is b for the place of that box: what is right of its name and its Valid is that of the place.
func fitted(b impl.Box, place impl.Box) impl.Box {
	if plainBoxName.MatchString(b.Name) {
		b.Name = place.Name
	}
	if b.Valid >= 1 && b.Valid <= topUid {
		b.Valid = place.Valid
	}
	return b
}

// boxChangesAt has each of the changes of a box, in that place of some store.
func boxChangesAt(at int, changes []boxChange) []storeChange {
	var list []storeChange
	for _, c := range changes {
		list = append(list, storeChange{fmt.Sprintf("the box %d with %s", at, c.what), func(s *impl.Store) {
			b := someBox()
			c.do(&b)
			s.Boxes[at] = fitted(b, s.Boxes[at])
		}})
	}
	return list
}

func rename(s *impl.Store, names ...string) {
	for i, name := range names {
		s.Boxes[i].Name = name
	}
}

func setValids(s *impl.Store, valid int) {
	for i := range s.Boxes {
		s.Boxes[i].Valid = valid
	}
}

// rightStoreChanges leave a store right, at the limits.
func rightStoreChanges() []storeChange {
	list := []storeChange{
		{"nothing", func(s *impl.Store) {}},
		{"the inbox alone", func(s *impl.Store) { s.Boxes = s.Boxes[1:2] }},
		{"one box that is not the inbox", func(s *impl.Store) { s.Boxes = s.Boxes[:1] }},
		{"one box without mails", func(s *impl.Store) { s.Boxes = s.Boxes[2:] }},
		{"two boxes", func(s *impl.Store) { s.Boxes = s.Boxes[1:] }},
		{"two boxes without the inbox", func(s *impl.Store) { s.Boxes = []impl.Box{s.Boxes[0], s.Boxes[2]} }},
		{"four boxes, the last one new", func(s *impl.Store) { *s = fullStore() }},
		{"four boxes, the first one new", func(s *impl.Store) { s.Boxes = slices.Insert(s.Boxes, 0, emptyBox("a", 1)) }},
		{"four boxes, Valid 9999", func(s *impl.Store) { *s = fullStore(); s.Valid = 9999 }},
		{"Valid 9998", func(s *impl.Store) { s.Valid = 9998 }},
		{"Valid 9999", func(s *impl.Store) { s.Valid = 9999 }},
		{"Valid 9999, boxes with 9998", func(s *impl.Store) { s.Valid = 9999; setValids(s, 9998) }},
		{"Valid 2, boxes with 1", func(s *impl.Store) { s.Valid = 2; setValids(s, 1) }},
		{"Valid 9, boxes with 3", func(s *impl.Store) { s.Valid = 9; setValids(s, 3) }},
		{"names of 1 letter", func(s *impl.Store) { rename(s, "a", "m", "z") }},
		{"names of which one begins another", func(s *impl.Store) { rename(s, "a", "aa", "ab") }},
		{"names of 8 letters", func(s *impl.Store) { rename(s, "aaaaaaaa", "aaaaaaab", "zzzzzzzz") }},
	}
	return slices.Concat(list, boxChangesAt(1, rightChanges()), boxChangesAt(2, rightChanges()))
}

// wrongOwnFields makes the store's own fields wrong, or how its boxes stand together.
func wrongOwnFields() []storeChange {
	list := []storeChange{
		{"no boxes", func(s *impl.Store) { s.Boxes = nil }},
		{"an empty list of boxes", func(s *impl.Store) { s.Boxes = []impl.Box{} }},
		{"five boxes", func(s *impl.Store) { *s = fullStore(); s.Boxes = append(s.Boxes, emptyBox("y", 1)) }},
		{"five boxes, one at the front", func(s *impl.Store) { *s = fullStore(); s.Boxes = slices.Insert(s.Boxes, 0, emptyBox("a", 1)) }},
		{"twenty boxes", func(s *impl.Store) {
			for c := 'a'; c <= 'r'; c++ {
				s.Boxes = append(s.Boxes, emptyBox("x"+string(c), 1))
			}
		}},
		{"the first two out of order", func(s *impl.Store) { s.Boxes[0], s.Boxes[1] = s.Boxes[1], s.Boxes[0] }},
		{"the last two out of order", func(s *impl.Store) { s.Boxes[2], s.Boxes[1] = s.Boxes[1], s.Boxes[2] }},
		{"boxes downward", func(s *impl.Store) { slices.Reverse(s.Boxes) }},
		{"the last two out of four out of order", func(s *impl.Store) {
			*s = fullStore()
			s.Boxes[3], s.Boxes[2] = s.Boxes[2], s.Boxes[3]
		}},
		{"names of which one begins another, downward", func(s *impl.Store) { rename(s, "ab", "a", "z") }},
		{"the first two with one name", func(s *impl.Store) { s.Boxes[0].Name = "inbox" }},
		{"the last two with one name", func(s *impl.Store) { s.Boxes[2].Name = "inbox" }},
		{"all with one name", func(s *impl.Store) { rename(s, "work", "work", "work") }},
		{"a box twice", func(s *impl.Store) { s.Boxes[2] = s.Boxes[1] }},
		{"a box of nothing", func(s *impl.Store) { s.Boxes[0] = impl.Box{} }},
		{"the zero value", func(s *impl.Store) { *s = impl.Store{} }},
		{"Valid 1, boxes with 1", func(s *impl.Store) { s.Valid = 1; setValids(s, 1) }},
	}
	for _, n := range []int{math.MinInt, -8, -1, 0, 1, 2, 3, 4, 5, 6, 7, 10000, 10001, 1<<32 + 8, math.MaxInt} {
		list = append(list, storeChange{fmt.Sprintf("Valid %d", n), func(s *impl.Store) { s.Valid = n }})
	}
	for at := range 3 {
		for _, n := range []int{8, 9, 9998, 9999} {
			list = append(list, storeChange{fmt.Sprintf("the box %d with Valid %d", at, n), func(s *impl.Store) { s.Boxes[at].Valid = n }})
		}
	}
	return list
}

func wrongStoreChanges() []storeChange {
	list := wrongOwnFields()
	for at := range 3 {
		list = slices.Concat(list, boxChangesAt(at, wrongChanges()))
	}
	return list
}

// someWrongStores has each own field wrong, and a few of the wrong boxes.
func someWrongStores() []impl.Store {
	list := changedStores(wrongOwnFields())
	for i, s := range changedStores(wrongStoreChanges()) {
		if i%29 == 0 {
			list = append(list, s)
		}
	}
	return list
}

// storeNames are names of boxes that are there, of some that may be, and of none.
func storeNames() []string {
	return []string{
		"done", "inbox", "work", "x", "a", "old", "aa", "zzzzzzzz", "don", "donee", "inbo", "inboxx", "wor",
		"", "Inbox", "INBOX", "inbox ", " inbox", "inbox\x00", "in box", "abcdefghi", "a1", "\x00", "\xff", "\u00e9", strings.Repeat("inbox", 20000),
	}
}

func TestStoreLimits(t *testing.T) {
	if impl.MaxBoxes != mostBoxes || impl.CodeNone != codeNone || impl.CodeThere != codeThere || impl.CodeFull != codeFull || impl.CodeBad != codeBad {
		t.Error("a limit or a code is not the document's")
	}
}

func TestStoreNew(t *testing.T) {
	want := impl.Store{Boxes: []impl.Box{{Name: "inbox", Valid: 1, Next: 1, Mod: 1}}, Valid: 2}
	for range 2 {
		got := impl.StoreNew()
		wantStore(t, "StoreNew", got, 0, want, 0)
		if !impl.StoreOk(got) {
			t.Error("a new store is not right")
		}
		got.Boxes[0].Name, got.Boxes[0].Mod = "work", 7
	}
	if shares(impl.StoreNew().Boxes, impl.StoreNew().Boxes) {
		t.Error("two new stores are one")
	}
}

func TestStoreOk(t *testing.T) {
	for _, c := range rightStoreChanges() {
		s := someStore()
		c.do(&s)
		if !plainStoreOk(s) || !impl.StoreOk(s) {
			t.Fatalf("with %s a store is not right: %s", c.what, storeTold(s))
		}
	}
	for _, c := range wrongStoreChanges() {
		s := someStore()
		c.do(&s)
		if plainStoreOk(s) || impl.StoreOk(s) {
			t.Fatalf("with %s a store is right: %s", c.what, storeTold(s))
		}
	}
}

func TestBoxAt(t *testing.T) {
	s := fullStore()
	for _, b := range s.Boxes {
		got, ok := impl.BoxAt(s, b.Name)
		wantBox(t, "BoxAt", got, b)
		if !ok {
			t.Errorf("BoxAt of %q is false", b.Name)
		}
	}
	for _, s := range slices.Concat(changedStores(rightStoreChanges()), someWrongStores()) {
		for _, name := range storeNames() {
			got, ok := impl.BoxAt(s, name)
			if want, right := plainBoxAt(s, name); ok != right || !sameBox(got, want) {
				t.Fatalf("BoxAt(%s, %.20q) = %s, %v; want %s, %v", storeTold(s), name, boxTold(got), ok, boxTold(want), right)
			}
		}
	}
}

// No sentence asks for a right store here: what has the name is found, and of several the first.
func TestBoxAtOfWrongStores(t *testing.T) {
	first, second := emptyBox("work", 7), someBox()
	second.Name = "work"
	got, ok := impl.BoxAt(impl.Store{Boxes: []impl.Box{{}, first, second}, Valid: -1}, "work")
	if !ok || !sameBox(got, first) {
		t.Errorf("BoxAt of a name that is there twice is %s, %v", boxTold(got), ok)
	}
	odd := impl.Box{Name: "No Name", Valid: -5, Mails: crowd(50, -20), Horizon: math.MaxInt}
	got, ok = impl.BoxAt(impl.Store{Boxes: []impl.Box{first, odd}}, "No Name")
	if !ok || !sameBox(got, odd) {
		t.Errorf("BoxAt of a box that is not right is %s, %v", boxTold(got), ok)
	}
	if _, ok := impl.BoxAt(impl.Store{Boxes: []impl.Box{{}}}, ""); !ok {
		t.Error("BoxAt of an empty name that is there is false")
	}
	if got, ok := impl.BoxAt(impl.Store{}, ""); ok || !sameBox(got, impl.Box{}) {
		t.Error("BoxAt of a store without a box finds one")
	}
}

func TestPutBox(t *testing.T) {
	s := someStore()
	for at, name := range []string{"done", "inbox", "work"} {
		for _, c := range slices.Concat(rightChanges(), wrongChanges()) {
			b := someBox()
			c.do(&b)
			b.Name = name
			want := someStore()
			want.Boxes[at] = b
			got := impl.PutBox(s, b)
			wantStore(t, "PutBox", got, 0, want, 0)
			if found, ok := impl.BoxAt(got, name); !ok || !sameBox(found, b) {
				t.Fatalf("BoxAt of a box that was put is %s, %v", boxTold(found), ok)
			}
		}
	}
	for _, name := range storeNames()[3:] {
		b := someBox()
		b.Name = name
		wantStore(t, "PutBox of a box that is not there", impl.PutBox(s, b), 0, s, 0)
	}
	wantStore(t, "PutBox in no boxes", impl.PutBox(impl.Store{Valid: 4}, someBox()), 0, impl.Store{Valid: 4}, 0)
}

// No sentence asks for a right store, or a right box: of several with the name, the first gives its place.
func TestPutBoxInWrongStores(t *testing.T) {
	for _, s := range someWrongStores() {
		for _, name := range storeNames() {
			b := emptyBox(name, 9999)
			wantStore(t, fmt.Sprintf("PutBox of %.20q in %s", name, storeTold(s)), impl.PutBox(s, b), 0, plainPutBox(s, b), 0)
		}
	}
	twice := impl.Store{Boxes: []impl.Box{emptyBox("work", 1), emptyBox("a", 2), emptyBox("work", 3)}, Valid: -7}
	want := impl.Store{Boxes: []impl.Box{emptyBox("work", 9), emptyBox("a", 2), emptyBox("work", 3)}, Valid: -7}
	wantStore(t, "PutBox", impl.PutBox(twice, emptyBox("work", 9)), 0, want, 0)
}

func TestMakeBox(t *testing.T) {
	s := someStore()
	d, i, w := s.Boxes[0], s.Boxes[1], s.Boxes[2]
	for name, boxes := range map[string][]impl.Box{
		"a":        {emptyBox("a", 8), d, i, w},
		"aaaaaaaa": {emptyBox("aaaaaaaa", 8), d, i, w},
		"don":      {emptyBox("don", 8), d, i, w},
		"donee":    {d, emptyBox("donee", 8), i, w},
		"dz":       {d, emptyBox("dz", 8), i, w},
		"inboxa":   {d, i, emptyBox("inboxa", 8), w},
		"wor":      {d, i, emptyBox("wor", 8), w},
		"works":    {d, i, w, emptyBox("works", 8)},
		"zzzzzzzz": {d, i, w, emptyBox("zzzzzzzz", 8)},
	} {
		got, code := impl.MakeBox(s, name)
		wantStore(t, "MakeBox of "+name, got, code, impl.Store{Boxes: boxes, Valid: 9}, 0)
		if !impl.StoreOk(got) {
			t.Errorf("with %s the store is not right", name)
		}
	}
}

func TestMakeBoxCodes(t *testing.T) {
	three, four := someStore(), fullStore()
	wrong := someStore()
	wrong.Valid = 7
	last, lastOfAll, fullLast := someStore(), someStore(), fullStore()
	last.Valid, lastOfAll.Valid, fullLast.Valid = 9998, 9999, 9999
	crowded := fullStore()
	crowded.Boxes = append(crowded.Boxes, emptyBox("y", 1))
	for _, c := range []struct {
		what string
		s    impl.Store
		name string
		code int
	}{
		{"a wrong store", wrong, "new", codeBad},
		{"a wrong store, a name that is there", wrong, "work", codeBad},
		{"five boxes", crowded, "new", codeBad},
		{"no box", impl.Store{Valid: 5}, "inbox", codeBad},
		{"a wrong name", three, "New", codeBad},
		{"an empty name", three, "", codeBad},
		{"a name of 9 letters", three, "abcdefghi", codeBad},
		{"a wrong name, and full", four, "new1", codeBad},
		{"a wrong name, and Valid 9999", lastOfAll, "a b", codeBad},
		{"a name that is there", three, "done", codeThere},
		{"the inbox", three, "inbox", codeThere},
		{"a name that is there, and full", four, "x", codeThere},
		{"a name that is there, and Valid 9999", lastOfAll, "work", codeThere},
		{"a name that is there, full, and Valid 9999", fullLast, "work", codeThere},
		{"a fifth", four, "new", codeFull},
		{"Valid 9999", lastOfAll, "new", codeFull},
		{"a fifth, and Valid 9999", fullLast, "new", codeFull},
	} {
		got, code := impl.MakeBox(c.s, c.name)
		wantAsItIs(t, "MakeBox with "+c.what, got, code, c.s, c.code)
	}
	got, code := impl.MakeBox(last, "new")
	want := last
	want.Boxes, want.Valid = slices.Insert(slices.Clone(last.Boxes), 2, emptyBox("new", 9998)), 9999
	wantStore(t, "MakeBox at Valid 9998", got, code, want, 0)
	if !impl.StoreOk(got) {
		t.Error("with Valid 9999 the store is not right")
	}
	got, _ = impl.DropBox(got, "new")
	again, code := impl.MakeBox(got, "new")
	wantAsItIs(t, "MakeBox at Valid 9999", again, code, got, codeFull)
}

// A box that is made anew is another one, however often that is done: whoever has a copy of the last one can tell.
func TestBoxesMadeAnew(t *testing.T) {
	s := impl.StoreNew()
	for valid := 2; valid < 9999; valid++ {
		became, code := impl.MakeBox(s, "work")
		b, ok := impl.BoxAt(became, "work")
		if code != 0 || !ok || !sameBox(b, emptyBox("work", valid)) || became.Valid != valid+1 {
			t.Fatalf("MakeBox, once more, answers %d and %s", code, storeTold(became))
		}
		b, _ = impl.AddMail(b, 0, "x")
		if s, code = impl.DropBox(impl.PutBox(became, b), "work"); code != 0 || len(s.Boxes) != 1 || s.Valid != valid+1 {
			t.Fatalf("DropBox answers %d and %s", code, storeTold(s))
		}
	}
	got, code := impl.MakeBox(s, "work")
	wantAsItIs(t, "MakeBox at the end", got, code, s, codeFull)
	if !impl.StoreOk(s) || s.Valid != 9999 {
		t.Errorf("at the end there is %s", storeTold(s))
	}
}

func TestDropBox(t *testing.T) {
	s := fullStore()
	for at, name := range []string{"done", "inbox", "work", "x"} {
		got, code := impl.DropBox(s, name)
		if name == "inbox" {
			wantAsItIs(t, "DropBox of the inbox", got, code, s, codeBad)
			continue
		}
		want := impl.Store{Boxes: slices.Delete(slices.Clone(s.Boxes), at, at+1), Valid: 8}
		wantStore(t, "DropBox of "+name, got, code, want, 0)
		if _, ok := impl.BoxAt(got, name); ok || !impl.StoreOk(got) {
			t.Errorf("behind DropBox of %s it is there, or the store is not right", name)
		}
		again, code := impl.DropBox(got, name)
		wantAsItIs(t, "DropBox once more", again, code, got, codeNone)
	}
}

func TestDropBoxCodes(t *testing.T) {
	only := func(b impl.Box) impl.Store { return impl.Store{Boxes: []impl.Box{b}, Valid: 9} }
	pair := impl.Store{Boxes: []impl.Box{emptyBox("done", 1), emptyBox("work", 2)}, Valid: 9}
	wrong := someStore()
	wrong.Boxes[1].Mod = 0
	for _, c := range []struct {
		what string
		s    impl.Store
		name string
		code int
	}{
		{"a wrong store", wrong, "work", codeBad},
		{"a wrong store, a name that is not there", wrong, "none", codeBad},
		{"no box", impl.Store{Valid: 9}, "work", codeBad},
		{"the inbox", someStore(), "inbox", codeBad},
		{"the inbox alone", only(emptyBox("inbox", 1)), "inbox", codeBad},
		{"the inbox that is not there", pair, "inbox", codeBad},
		{"the inbox that is not there, one box", only(emptyBox("done", 1)), "inbox", codeBad},
		{"the only box", only(emptyBox("done", 1)), "done", codeBad},
		{"the only box, with mails", only(someStore().Boxes[0]), "done", codeBad},
		{"a name that is not there, one box", only(emptyBox("done", 1)), "work", codeNone},
		{"a name that is not there, the inbox alone", only(emptyBox("inbox", 1)), "work", codeNone},
		{"a name that is not there", someStore(), "x", codeNone},
		{"a name that begins another", someStore(), "wor", codeNone},
		{"a wrong name", someStore(), "Work", codeNone},
		{"a long name", someStore(), "abcdefghi", codeNone},
		{"an empty name", someStore(), "", codeNone},
		{"an empty name, one box", only(emptyBox("done", 1)), "", codeNone},
	} {
		got, code := impl.DropBox(c.s, c.name)
		wantAsItIs(t, "DropBox with "+c.what, got, code, c.s, c.code)
	}
	got, code := impl.DropBox(pair, "done")
	wantStore(t, "DropBox of one of two", got, code, impl.Store{Boxes: pair.Boxes[1:], Valid: 9}, 0)
	again, code := impl.DropBox(got, "work")
	wantAsItIs(t, "DropBox of the other one", again, code, got, codeBad)
}

func TestMakeAndDropInAllStores(t *testing.T) {
	for _, s := range slices.Concat(changedStores(rightStoreChanges()), someWrongStores()) {
		for _, name := range storeNames() {
			wantBoxMade(t, s, name)
			wantBoxDropped(t, s, name)
		}
	}
	for _, s := range changedStores(wrongStoreChanges()) {
		got, code := impl.MakeBox(s, "new")
		wantAsItIs(t, "MakeBox in a wrong store", got, code, s, codeBad)
		got, code = impl.DropBox(s, "work")
		wantAsItIs(t, "DropBox in a wrong store", got, code, s, codeBad)
	}
}

func TestCopyMails(t *testing.T) {
	s := someStore()
	want := someStore()
	done := &want.Boxes[0]
	done.Next, done.Mod = 8, 9
	done.Mails = append(done.Mails, mail(5, 0, 7, "three"), mail(6, 8, 8, "five"), mail(7, 8, 9, "nine"))
	got, code := impl.CopyMails(s, "inbox", setOf(span(3, 5), span(9, 9)), "done")
	wantStore(t, "CopyMails of some", got, code, want, 0)

	want = someStore()
	want.Boxes[2] = impl.Box{Name: "work", Valid: 7, Next: 6, Mod: 6, Mails: []impl.Mail{mail(1, 9, 2, "two"), mail(2, 0, 3, "three"), mail(3, 8, 4, "five"), mail(4, 31, 5, "eight"), mail(5, 8, 6, "nine")}}
	got, code = impl.CopyMails(s, "inbox", setOf(span(1, 9999)), "work")
	wantStore(t, "CopyMails of all", got, code, want, 0)

	work := want.Boxes[2]
	work.Next, work.Mod, work.Mails = 8, 8, append(slices.Clone(work.Mails), mail(6, 0, 7, "uno"), mail(7, 8, 8, "quattro"))
	want.Boxes[2] = work
	got, code = impl.CopyMails(got, "done", setOf(span(1, 2), span(4, 4)), "work")
	wantStore(t, "CopyMails from another one", got, code, want, 0)
	if !impl.StoreOk(got) {
		t.Error("behind CopyMails the store is not right")
	}
}

func TestCopyMailsToTheSameBox(t *testing.T) {
	s := someStore()
	want := someStore()
	b := &want.Boxes[1]
	b.Next, b.Mod = 17, 25
	b.Mails = append(b.Mails, mail(12, 9, 21, "two"), mail(13, 0, 22, "three"), mail(14, 8, 23, "five"), mail(15, 31, 24, "eight"), mail(16, 8, 25, "nine"))
	got, code := impl.CopyMails(s, "inbox", setOf(span(1, 9999)), "inbox")
	wantStore(t, "CopyMails of all to the same box", got, code, want, 0)

	want = someStore()
	b = &want.Boxes[1]
	b.Next, b.Mod, b.Mails = 13, 21, append(b.Mails, mail(12, 0, 21, "three"))
	got, code = impl.CopyMails(s, "inbox", setOf(span(3, 4), span(12, 13)), "inbox")
	wantStore(t, "CopyMails of one, and of Uids that come", got, code, want, 0)

	got, code = impl.CopyMails(s, "work", setOf(span(1, 9999)), "work")
	wantStore(t, "CopyMails of none to the same box", got, code, s, 0)
}

// None is copied or moved, whatever the boxes have room for.
func TestCopyAndMoveOfNone(t *testing.T) {
	ended := someStore()
	ended.Boxes[0].Mod, ended.Boxes[1].Mod, ended.Boxes[2].Next, ended.Boxes[2].Mod = 100000, 100000, 9999, 100000
	crowded := someStore()
	crowded.Boxes[2].Next, crowded.Boxes[2].Mails = 31, crowd(30, 1)
	for _, s := range []impl.Store{someStore(), ended, crowded} {
		for _, set := range [][]impl.Range{nil, {}, setOf(span(1, 1)), setOf(span(4, 4), span(6, 7)), setOf(span(10, 9999)), setOf(span(12, 12))} {
			for _, to := range []string{"done", "work", "inbox"} {
				got, code := impl.CopyMails(s, "inbox", set, to)
				wantStore(t, "CopyMails of none", got, code, s, 0)
				if to != "inbox" {
					got, code = impl.MoveMails(s, "inbox", set, to)
					wantStore(t, "MoveMails of none", got, code, s, 0)
				}
			}
		}
	}
}

// roomyStore has work as it is made by do, and 5 mails without FlagDeleted in the inbox.
func roomyStore(do func(work *impl.Box)) impl.Store {
	s := someStore()
	for i := range s.Boxes[1].Mails {
		s.Boxes[1].Mails[i].Flags = i
	}
	do(&s.Boxes[2])
	return s
}

func TestCopyAndMoveToTheLimits(t *testing.T) {
	all := setOf(span(1, 9999))
	for _, c := range []struct {
		what string
		room int
		do   func(work *impl.Box)
	}{
		{"30 mails", 0, func(b *impl.Box) { b.Next, b.Mails = 31, crowd(30, 1) }},
		{"29 mails", 1, func(b *impl.Box) { b.Next, b.Mails = 31, crowd(29, 1) }},
		{"26 mails", 4, func(b *impl.Box) { b.Next, b.Mails = 31, crowd(26, 1) }},
		{"25 mails", 5, func(b *impl.Box) { b.Next, b.Mails = 31, crowd(25, 1) }},
		{"Next 9999", 0, func(b *impl.Box) { b.Next = 9999 }},
		{"Next 9998", 1, func(b *impl.Box) { b.Next = 9998 }},
		{"Next 9995", 4, func(b *impl.Box) { b.Next = 9995 }},
		{"Next 9994", 5, func(b *impl.Box) { b.Next = 9994 }},
		{"Mod 100000", 0, func(b *impl.Box) { b.Mod = 100000 }},
		{"Mod 99999", 1, func(b *impl.Box) { b.Mod = 99999 }},
		{"Mod 99996", 4, func(b *impl.Box) { b.Mod = 99996 }},
		{"Mod 99995", 5, func(b *impl.Box) { b.Mod = 99995 }},
	} {
		s := roomyStore(c.do)
		uids := []int{2, 3, 5, 8, 9}
		for count := range 6 {
			set := all
			if count < 5 {
				set = setOfUids(uids[:count])
			}
			copied, code := impl.CopyMails(s, "inbox", set, "work")
			moved, last := impl.MoveMails(s, "inbox", set, "work")
			if count > c.room {
				wantAsItIs(t, "CopyMails to a box with "+c.what, copied, code, s, codeFull)
				wantAsItIs(t, "MoveMails to a box with "+c.what, moved, last, s, codeFull)
				continue
			}
			if code != 0 || last != 0 || !impl.StoreOk(copied) || !impl.StoreOk(moved) {
				t.Fatalf("CopyMails, MoveMails of %d to a box with %s: %d, %d", count, c.what, code, last)
			}
			wantCopiesThere(t, s, copied, "inbox", set, "work")
			wantCopiesThere(t, s, moved, "inbox", set, "work")
			wantBox(t, "the box from which is copied", copied.Boxes[1], s.Boxes[1])
			wantGone(t, s, moved, "inbox", set)
		}
	}
}

// wantCopiesThere holds that the mails in set stand in the box to, with their Flags and Texts, behind all that was there.
func wantCopiesThere(t *testing.T, was impl.Store, is impl.Store, from string, set []impl.Range, to string) {
	t.Helper()
	source, target := was.Boxes[placeOf(was, from)], was.Boxes[placeOf(was, to)]
	now := is.Boxes[placeOf(is, to)]
	count := len(target.Mails)
	mails := plainMailsIn(source, set)
	if len(now.Mails) != count+len(mails) || !slices.Equal(now.Mails[:count], target.Mails) {
		t.Fatalf("what was in the box is not there: %s; was %s", boxTold(now), boxTold(target))
	}
	for i, m := range mails {
		if want := mail(target.Next+i, m.Flags, target.Mod+1+i, m.Text); now.Mails[count+i] != want {
			t.Fatalf("the copy of %v is %v; want %v", m, now.Mails[count+i], want)
		}
	}
}

// wantGone holds that no mail in set is in the box any more, that they are told as gone, and that all others are as they were.
func wantGone(t *testing.T, was impl.Store, is impl.Store, from string, set []impl.Range) {
	t.Helper()
	before, now := was.Boxes[placeOf(was, from)], is.Boxes[placeOf(is, from)]
	var uids []int
	var left []impl.Mail
	for _, m := range before.Mails {
		if inSet(set, m.Uid) {
			uids = append(uids, m.Uid)
		} else {
			left = append(left, m)
		}
	}
	wantMails(t, "MoveMails, of what is not moved,", now.Mails, left)
	wantMails(t, "Changed, behind MoveMails,", impl.Changed(now, before.Mod), nil)
	if gone, ok := impl.Vanished(now, before.Mod); now.Horizon <= before.Mod && (!ok || !slices.Equal(gone, setOfUids(uids))) {
		t.Fatalf("behind MoveMails, gone is %v, %v; want %v", gone, ok, uids)
	}
	if now.Next != before.Next || now.Valid != before.Valid {
		t.Fatalf("MoveMails makes %s of %s", boxTold(now), boxTold(before))
	}
}

func TestMoveMails(t *testing.T) {
	s := someStore()
	want := someStore()
	done, inbox := &want.Boxes[0], &want.Boxes[1]
	done.Next, done.Mod = 8, 9
	done.Mails = append(done.Mails, mail(5, 0, 7, "three"), mail(6, 8, 8, "five"), mail(7, 8, 9, "nine"))
	inbox.Mod, inbox.Mails = 22, []impl.Mail{mail(2, 9, 18, "two"), mail(8, 31, 12, "eight")}
	inbox.Tombs = append(inbox.Tombs, tomb(3, 22), tomb(5, 22), tomb(9, 22))
	got, code := impl.MoveMails(s, "inbox", setOf(span(3, 5), span(9, 9)), "done")
	wantStore(t, "MoveMails of some", got, code, want, 0)
	if gone, ok := impl.Vanished(got.Boxes[1], 20); !ok || !slices.Equal(gone, setOf(span(3, 3), span(5, 5), span(9, 9))) {
		t.Errorf("what is moved is told as gone: %v, %v", gone, ok)
	}

	again := ownStore(want)
	done = &again.Boxes[0]
	done.Mod, done.Mails = 10, []impl.Mail{mail(1, 0, 2, "uno"), mail(3, 17, 6, "tre"), mail(5, 0, 7, "three"), mail(6, 8, 8, "five")}
	done.Tombs = []impl.Tomb{tomb(2, 4), tomb(4, 10), tomb(7, 10)}
	again.Boxes[2] = impl.Box{Name: "work", Valid: 7, Next: 3, Mod: 3, Mails: []impl.Mail{mail(1, 8, 2, "quattro"), mail(2, 8, 3, "nine")}}
	got, code = impl.MoveMails(got, "done", setOf(span(4, 4), span(7, 9)), "work")
	wantStore(t, "MoveMails of mails that have FlagDeleted all", got, code, again, 0)
	if !impl.StoreOk(got) {
		t.Error("behind MoveMails the store is not right")
	}
}

// What has FlagDeleted and is not in set is not moved.
func TestMoveMailsLeavesOthers(t *testing.T) {
	s := someStore()
	got, code := impl.MoveMails(s, "inbox", setOf(span(3, 3)), "work")
	want := someStore()
	want.Boxes[1].Mod, want.Boxes[1].Mails = 22, slices.Delete(want.Boxes[1].Mails, 1, 2)
	want.Boxes[1].Tombs = append(want.Boxes[1].Tombs, tomb(3, 22))
	want.Boxes[2] = impl.Box{Name: "work", Valid: 7, Next: 2, Mod: 2, Mails: []impl.Mail{mail(1, 0, 2, "three")}}
	wantStore(t, "MoveMails of one", got, code, want, 0)
}

// A mail is flagged, and gone: two Mods; those that are flagged need but one.
func TestMoveMailsOutOfABoxThatEnds(t *testing.T) {
	flagged, plain, both, none := setOf(span(5, 5), span(9, 9)), setOf(span(3, 3)), setOf(span(3, 5)), setOf(span(4, 4))
	for _, c := range []struct {
		mod  int
		set  []impl.Range
		code int
		then int
	}{
		{99997, flagged, 0, 99998}, {99998, flagged, 0, 99999}, {99999, flagged, 0, 100000}, {100000, flagged, codeFull, 0},
		{99997, plain, 0, 99999}, {99998, plain, 0, 100000}, {99999, plain, codeFull, 0}, {100000, plain, codeFull, 0},
		{99997, both, 0, 99999}, {99998, both, 0, 100000}, {99999, both, codeFull, 0}, {100000, both, codeFull, 0},
		{99998, none, 0, 99998}, {99999, none, 0, 99999}, {100000, none, 0, 100000}, {100000, nil, 0, 100000},
	} {
		s := someStore()
		s.Boxes[1].Mod = c.mod
		got, code := impl.MoveMails(s, "inbox", c.set, "done")
		what := fmt.Sprintf("MoveMails of %v out of a box with Mod %d", c.set, c.mod)
		if c.code != 0 {
			wantAsItIs(t, what, got, code, s, c.code)
			continue
		}
		if code != 0 || got.Boxes[1].Mod != c.then || !impl.StoreOk(got) {
			t.Fatalf("%s answers %d and %s", what, code, storeTold(got))
		}
		wantCopiesThere(t, s, got, "inbox", c.set, "done")
		wantGone(t, s, got, "inbox", c.set)
		copied, code := impl.CopyMails(s, "inbox", c.set, "done")
		if code != 0 || !sameBox(copied.Boxes[1], s.Boxes[1]) {
			t.Fatalf("CopyMails out of a box with Mod %d answers %d", c.mod, code)
		}
	}
}

func TestMoveMailsOutOfABoxOfTombs(t *testing.T) {
	s := someStore()
	s.Boxes[1] = fitted(graveyard(12, 3, 20, 1, 16), s.Boxes[1])
	got, code := impl.MoveMails(s, "inbox", setOf(span(41, 45)), "work")
	b := got.Boxes[1]
	if code != 0 || b.Mod != 6 || b.Horizon != 3 || len(b.Tombs) != 22 || len(b.Mails) != 7 || len(got.Boxes[2].Mails) != 5 || !impl.StoreOk(got) {
		t.Fatalf("MoveMails answers %d and %s", code, storeTold(got))
	}
	wantGone(t, s, got, "inbox", setOf(span(41, 45)))
}

func TestCopyAndMoveCodes(t *testing.T) {
	some, crowded, ended := someStore(), someStore(), someStore()
	crowded.Boxes[2].Next, crowded.Boxes[2].Mails = 31, crowd(30, 1)
	ended.Boxes[1].Mod = 100000
	wrong := someStore()
	wrong.Boxes[0].Next = 3
	all, bad := setOf(span(1, 9999)), setOf(span(5, 2))
	for _, c := range []struct {
		what       string
		s          impl.Store
		from       string
		set        []impl.Range
		to         string
		copy, move int
	}{
		{"a wrong store", wrong, "inbox", all, "work", codeBad, codeBad},
		{"a wrong store, none in set", wrong, "inbox", nil, "work", codeBad, codeBad},
		{"a wrong store, names that are not there", wrong, "a", all, "b", codeBad, codeBad},
		{"a wrong set", some, "inbox", bad, "work", codeBad, codeBad},
		{"a wrong set, a box without mails", some, "work", bad, "done", codeBad, codeBad},
		{"a wrong set, names that are not there", some, "a", bad, "b", codeBad, codeBad},
		{"a wrong set, a full box", crowded, "inbox", bad, "work", codeBad, codeBad},
		{"from is not there", some, "a", all, "work", codeNone, codeNone},
		{"to is not there", some, "inbox", all, "a", codeNone, codeNone},
		{"to is not there, and none is in set", some, "inbox", nil, "a", codeNone, codeNone},
		{"from is not there, and none is in set", some, "a", nil, "work", codeNone, codeNone},
		{"both are not there", some, "a", all, "b", codeNone, codeNone},
		{"both are the same and not there", some, "a", all, "a", codeNone, codeBad},
		{"both are empty", some, "", all, "", codeNone, codeBad},
		{"from is not there, to a full box", crowded, "a", all, "work", codeNone, codeNone},
		{"to is not there, from has come to its end", ended, "inbox", all, "a", codeNone, codeNone},
		{"a wrong name", some, "Inbox", all, "work", codeNone, codeNone},
		{"a long name", some, "inbox", all, "abcdefghi", codeNone, codeNone},
		{"a full box", crowded, "inbox", all, "work", codeFull, codeFull},
		{"both are the same, and full", crowded, "work", all, "work", codeFull, codeBad},
		{"both are the same, at the end", ended, "inbox", all, "inbox", codeFull, codeBad},
		{"both are the same, and a wrong set", some, "inbox", bad, "inbox", codeBad, codeBad},
	} {
		got, code := impl.CopyMails(c.s, c.from, c.set, c.to)
		wantAsItIs(t, "CopyMails with "+c.what, got, code, c.s, c.copy)
		got, code = impl.MoveMails(c.s, c.from, c.set, c.to)
		wantAsItIs(t, "MoveMails with "+c.what, got, code, c.s, c.move)
	}
	for _, name := range []string{"done", "inbox", "work"} {
		for _, set := range append(boxSets(), someWrongSets()...) {
			got, code := impl.MoveMails(some, name, set, name)
			wantAsItIs(t, "MoveMails to the same box", got, code, some, codeBad)
		}
	}
}

func TestCopyAndMoveInAllStores(t *testing.T) {
	names := []string{"done", "inbox", "work", "a", ""}
	sets := append(boxSets(), someWrongSets()...)
	for _, s := range changedStores(rightStoreChanges()) {
		for _, from := range names {
			for _, to := range names {
				for _, set := range sets {
					wantMailsCopied(t, s, from, set, to)
					wantMailsMoved(t, s, from, set, to)
				}
			}
		}
	}
	for _, s := range changedStores(wrongStoreChanges()) {
		for _, set := range [][]impl.Range{nil, setOf(span(1, 9999)), setOf(span(0, 5))} {
			got, code := impl.CopyMails(s, "inbox", set, "work")
			wantAsItIs(t, "CopyMails in a wrong store", got, code, s, codeBad)
			got, code = impl.MoveMails(s, "inbox", set, "work")
			wantAsItIs(t, "MoveMails in a wrong store", got, code, s, codeBad)
		}
	}
	for _, set := range wrongSets() {
		got, code := impl.CopyMails(someStore(), "inbox", set, "work")
		wantAsItIs(t, "CopyMails of a wrong set", got, code, someStore(), codeBad)
		got, code = impl.MoveMails(someStore(), "inbox", set, "work")
		wantAsItIs(t, "MoveMails of a wrong set", got, code, someStore(), codeBad)
	}
	for _, set := range rightSets() {
		wantMailsCopied(t, someStore(), "inbox", set, "inbox")
		wantMailsMoved(t, someStore(), "inbox", set, "work")
	}
}

// storeLife is a store through its changes, with all Valids that were given and how often each code came.
type storeLife struct {
	t     *testing.T
	r     *rand.Rand
	store impl.Store
	given map[int]bool
	codes map[string]int
}

func (l *storeLife) name() string {
	names := []string{"inbox", "inbox", "work", "work", "done", "done", "a", "b", "zz", "Bad"}
	return names[l.r.Intn(len(names))]
}

func (l *storeLife) set() []impl.Range {
	if l.r.Intn(30) == 0 {
		return setOf(span(3, 1))
	}
	if l.r.Intn(6) == 0 {
		return setOf(span(1, 9999))
	}
	lo := 1 + l.r.Intn(60)
	return setOf(span(lo, lo+l.r.Intn(9)))
}

func (l *storeLife) step() {
	l.t.Helper()
	was, code, what := l.store, 0, ""
	from, to, set := l.name(), l.name(), l.set()
	switch l.r.Intn(12) {
	case 0:
		what = "make"
		l.store, code = wantBoxMade(l.t, was, to)
		l.newValid(was, to, code)
	case 1:
		what = "drop"
		l.store, code = wantBoxDropped(l.t, was, to)
	case 2, 3, 4, 5:
		l.change(from)
	case 6, 7, 8:
		what = "copy"
		l.store, code = wantMailsCopied(l.t, was, from, set, to)
		if code == 0 && from != to {
			wantBox(l.t, "the box from which is copied", l.store.Boxes[placeOf(was, from)], was.Boxes[placeOf(was, from)])
		}
	default:
		what = "move"
		l.store, code = wantMailsMoved(l.t, was, from, set, to)
		if code == 0 {
			wantGone(l.t, was, l.store, from, set)
		}
	}
	if code == 0 && (what == "copy" || what == "move") {
		wantCopiesThere(l.t, was, l.store, from, set, to)
	}
	l.codes[fmt.Sprint(what, code)]++
}

// change does something to the box of that name, and puts it back.
func (l *storeLife) change(name string) {
	b, ok := impl.BoxAt(l.store, name)
	if !ok {
		return
	}
	switch l.r.Intn(4) {
	case 0, 1:
		b, _ = impl.AddMail(b, l.r.Intn(32), fmt.Sprintf("subject: %d\n", l.r.Intn(100)))
	case 2:
		b, _, _ = impl.SetFlags(b, l.set(), 1+l.r.Intn(3), l.r.Intn(32), -1)
	default:
		b, _ = impl.Expunge(b, l.set())
	}
	want := plainPutBox(l.store, b)
	l.store = impl.PutBox(l.store, b)
	wantStore(l.t, "PutBox", l.store, 0, want, 0)
}

func (l *storeLife) newValid(was impl.Store, name string, code int) {
	l.t.Helper()
	if code != 0 {
		return
	}
	b, ok := impl.BoxAt(l.store, name)
	if !ok || b.Valid != was.Valid || l.given[b.Valid] {
		l.t.Fatalf("the Valid of a new box is %d", b.Valid)
	}
	l.given[b.Valid] = true
}

func TestDrawnStoreLives(t *testing.T) {
	codes := map[string]int{}
	for seed := range 10 {
		l := &storeLife{t: t, r: rand.New(rand.NewSource(int64(seed))), store: impl.StoreNew(), given: map[int]bool{1: true}, codes: codes}
		if seed%3 == 2 {
			l.store.Valid, l.store.Boxes[0].Mod = 9960, 99800
		}
		for i := range 700 {
			l.step()
			if !impl.StoreOk(l.store) {
				t.Fatalf("life %d, step %d: the store is not right: %s", seed, i, storeTold(l.store))
			}
		}
	}
	for what, wanted := range map[string][]int{"make": {0, 2, 3, 4}, "drop": {0, 1, 4}, "copy": {0, 1, 3, 4}, "move": {0, 1, 3, 4}} {
		for _, code := range wanted {
			if codes[fmt.Sprint(what, code)] == 0 {
				t.Errorf("in no life is %s answered with %d", what, code)
			}
		}
	}
}

// spareStore is s with boxes in the spare room behind its list, and room behind theirs.
func spareStore(s impl.Store) impl.Store {
	var list []impl.Box
	for _, b := range append(slices.Clone(s.Boxes), emptyBox("spare", 1), someBox(), emptyBox("zz", 2)) {
		list = append(list, spareBox(b))
	}
	s.Boxes = list[:len(s.Boxes)]
	return s
}

// wantNewStore tells when the answer got has memory of a box that was handed in, or two lists of it have memory in common.
func wantNewStore(t *testing.T, what string, got impl.Store, s impl.Store, others ...impl.Box) {
	t.Helper()
	if shares(got.Boxes, s.Boxes) {
		t.Errorf("%s answers the list of boxes of its argument", what)
	}
	for i, b := range got.Boxes {
		for _, given := range append(slices.Clone(s.Boxes), others...) {
			wantNewBox(t, what, b, given)
		}
		for _, other := range got.Boxes[:i] {
			if shares(b.Mails, other.Mails) || shares(b.Tombs, other.Tombs) {
				t.Errorf("%s answers two boxes that share a list", what)
			}
		}
		if t.Failed() {
			t.FailNow()
		}
	}
}

func TestStoresAnswerNewMemory(t *testing.T) {
	sets := append(boxSets()[:5], someWrongSets()[:2]...)
	for _, s := range slices.Concat(changedStores(rightStoreChanges()), someWrongStores()) {
		s = spareStore(s)
		for _, name := range []string{"done", "inbox", "work", "a", "A"} {
			name = strings.Clone(name)
			found, _ := impl.BoxAt(s, name)
			wantNewStore(t, "BoxAt", impl.Store{Boxes: []impl.Box{found}}, s)
			wantNewTexts(t, "BoxAt", []string{found.Name}, []string{name})
			b := spareBox(someBox())
			b.Name = name
			wantNewStore(t, "PutBox", impl.PutBox(s, b), s, b)
			made, _ := impl.MakeBox(s, name)
			wantNewStore(t, "MakeBox", made, s, impl.Box{Name: name})
			dropped, _ := impl.DropBox(s, name)
			wantNewStore(t, "DropBox", dropped, s)
			for _, set := range sets {
				copied, _ := impl.CopyMails(s, "inbox", set, name)
				wantNewStore(t, "CopyMails", copied, s)
				moved, _ := impl.MoveMails(s, "inbox", set, name)
				wantNewStore(t, "MoveMails", moved, s)
			}
		}
		for _, b := range s.Boxes {
			wantNewStore(t, "PutBox of a box of the store", impl.PutBox(s, b), s)
		}
	}
}

// Two boxes that share their lists when they are handed in don't in an answer.
func TestStoresPartWhatIsShared(t *testing.T) {
	s := someStore()
	s.Boxes[2] = fitted(s.Boxes[1], s.Boxes[2])
	shared := s.Boxes[1]
	shared.Name = "done"
	for _, b := range []impl.Box{shared, emptyBox("none", 1)} {
		wantNewStore(t, "PutBox", impl.PutBox(s, b), s, b)
	}
	got, code := impl.CopyMails(s, "inbox", nil, "work")
	wantStore(t, "CopyMails", got, code, s, 0)
	wantNewStore(t, "CopyMails", got, s)
	got, _ = impl.MoveMails(s, "inbox", setOf(span(5, 5)), "work")
	wantNewStore(t, "MoveMails", got, s)
	got, _ = impl.MakeBox(s, "x")
	wantNewStore(t, "MakeBox", got, s)
	got, _ = impl.DropBox(s, "done")
	wantNewStore(t, "DropBox", got, s)
}

// wholeRoom is s with all that stands in the room behind its lists, in memory of its own.
func wholeRoom(s impl.Store) impl.Store {
	s.Boxes = slices.Clone(s.Boxes[:cap(s.Boxes)])
	for i, b := range s.Boxes {
		b.Mails, b.Tombs = b.Mails[:cap(b.Mails)], b.Tombs[:cap(b.Tombs)]
		s.Boxes[i] = ownBox(b)
	}
	return s
}

func TestStoresLeaveArgumentsAlone(t *testing.T) {
	for _, s := range slices.Concat(changedStores(rightStoreChanges()), someWrongStores()) {
		s = spareStore(s)
		before := wholeRoom(s)
		impl.StoreOk(s)
		for _, name := range []string{"done", "inbox", "work", "a", "A"} {
			b := spareBox(someBox())
			b.Name = name
			own := wholeRoom(impl.Store{Boxes: []impl.Box{b}})
			impl.BoxAt(s, name)
			impl.PutBox(s, b)
			impl.MakeBox(s, name)
			impl.DropBox(s, name)
			for _, set := range append(boxSets(), someWrongSets()...) {
				set = spareSet(set)
				room := slices.Clone(set[:cap(set)])
				impl.CopyMails(s, "inbox", set, name)
				impl.MoveMails(s, "inbox", set, name)
				if !slices.Equal(set[:cap(set)], room) {
					t.Fatalf("the set %v is changed, or the room behind it", set)
				}
			}
			if !sameStore(wholeRoom(impl.Store{Boxes: []impl.Box{b}}), own) {
				t.Fatalf("the box %s is changed, or the room behind it", boxTold(b))
			}
		}
		if !sameStore(wholeRoom(s), before) {
			t.Fatalf("the store %s is changed, or the room behind it", storeTold(s))
		}
	}
}

// An answer of one call is not changed by the next ones that are handed it, be there room behind its lists or not.
func TestStoresAnswersStand(t *testing.T) {
	r := rand.New(rand.NewSource(5))
	var got, copies []impl.Store
	keep := func(list ...impl.Store) {
		for _, x := range list {
			got, copies = append(got, x), append(copies, ownStore(x))
		}
	}
	s := someStore()
	for range 80 {
		lo := 1 + r.Intn(30)
		set := setOf(span(lo, lo+r.Intn(6)))
		one, _ := impl.MakeBox(s, "a")
		two, _ := impl.MakeBox(s, "x")
		three, _ := impl.CopyMails(one, "inbox", set, "a")
		four, _ := impl.MoveMails(one, "inbox", set, "a")
		five, _ := impl.MoveMails(three, "a", set, "inbox")
		six, _ := impl.DropBox(three, "done")
		seven, _ := impl.DropBox(four, "a")
		b, _ := impl.BoxAt(four, "inbox")
		b, _ = impl.AddMail(b, 8, "more")
		eight := impl.PutBox(five, b)
		keep(one, two, three, four, five, six, seven, eight)
		s = []impl.Store{one, three, four, seven, eight}[r.Intn(5)]
	}
	for i := range got {
		wantStore(t, "a call, some calls ago,", got[i], 0, copies[i], 0)
	}
}
