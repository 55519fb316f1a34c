package tests

import (
	"fmt"
	"math"
	"math/rand"
	"slices"
	"strings"
	"testing"

	"loop.example/g00247/impl"
)

// viewAt is a view of some box's name and Valid.
func viewAt(mod int, uids ...int) impl.View {
	return impl.View{Box: "inbox", Valid: 3, Uids: uids, Mod: mod}
}

func sameView(a impl.View, b impl.View) bool {
	return a.Box == b.Box && a.Valid == b.Valid && slices.Equal(a.Uids, b.Uids) && a.Mod == b.Mod
}

func viewTold(v impl.View) string {
	return fmt.Sprintf("{%.20q valid %d uids %v mod %d}", v.Box, v.Valid, v.Uids, v.Mod)
}

func linesTold(lines []impl.Line) string {
	told := make([]string, len(lines))
	for i, x := range lines {
		told[i] = lineTold(x)
	}
	return "[" + strings.Join(told, "; ") + "]"
}

// plainViewOf puts one Uid behind the other.
func plainViewOf(b impl.Box) impl.View {
	v := impl.View{Box: b.Name, Valid: b.Valid, Mod: b.Mod}
	for _, m := range b.Mails {
		v.Uids = append(v.Uids, m.Uid)
	}
	return v
}

// plainViewOk is the document's rule for a view, number by number.
func plainViewOk(v impl.View) bool {
	if !plainBoxName.MatchString(v.Box) || v.Valid < 1 || v.Valid > topUid || v.Mod < 1 || v.Mod > topMod || len(v.Uids) > mostMails {
		return false
	}
	last := 0
	for _, uid := range v.Uids {
		if uid <= last || uid > topUid {
			return false
		}
		last = uid
	}
	return true
}

// plainTellView goes through the document's rule, sentence by sentence.
func plainTellView(v impl.View, b impl.Box) (impl.View, []impl.Line) {
	if !plainViewOk(v) || !plainBoxOk(b) || v.Box != b.Name || v.Valid != b.Valid {
		return impl.View{}, []impl.Line{{Kind: lnBye}}
	}
	mails := map[int]impl.Mail{}
	for _, m := range b.Mails {
		mails[m.Uid] = m
	}
	var lines []impl.Line
	uids := slices.Clone(v.Uids)
	for _, uid := range v.Uids {
		if _, there := mails[uid]; !there {
			at := slices.Index(uids, uid)
			lines = append(lines, numLine(lnExpunge, at+1))
			uids = slices.Delete(uids, at, at+1)
		}
	}
	// What is left are mails of b alone: when they are fewer, b has others.
	if len(uids) < len(mails) {
		uids = plainViewOf(b).Uids
		lines = append(lines, numLine(lnExists, len(uids)))
	}
	for at, uid := range uids {
		if m := mails[uid]; m.Mod > v.Mod {
			lines = append(lines, fetchLine(at+1, m.Uid, m.Flags, m.Mod))
		}
	}
	return impl.View{Box: v.Box, Valid: v.Valid, Uids: uids, Mod: b.Mod}, lines
}

// plainUidSet goes through the places; without a set that has all of the Uids there is none.
func plainUidSet(v impl.View, places []impl.Range) ([]impl.Range, bool) {
	if !plainSetOk(places) {
		return nil, false
	}
	var uids []int
	for i, uid := range v.Uids {
		if !inSet(places, i+1) {
			continue
		}
		if uid < 1 || uid > topUid {
			return nil, false
		}
		uids = append(uids, uid)
	}
	s := setOfUids(uids)
	if len(s) > 40 {
		return nil, false
	}
	return s, true
}

func wantView(t *testing.T, b impl.Box) impl.View {
	t.Helper()
	got := impl.ViewOf(b)
	if want := plainViewOf(b); !sameView(got, want) {
		t.Fatalf("ViewOf(%s) = %s; want %s", boxTold(b), viewTold(got), viewTold(want))
	}
	return got
}

func wantViewOk(t *testing.T, v impl.View, want bool) {
	t.Helper()
	if got := impl.ViewOk(v); got != want {
		t.Fatalf("ViewOk(%s) is %v", viewTold(v), got)
	}
}

func wantViewTold(t *testing.T, v impl.View, b impl.Box, want impl.View, wanted ...impl.Line) impl.View {
	t.Helper()
	got, lines := impl.TellView(v, b)
	if !sameView(got, want) || !slices.EqualFunc(lines, wanted, sameLine) {
		t.Fatalf("TellView(%s, %s) = %s, %s; want %s, %s", viewTold(v), boxTold(b), viewTold(got), linesTold(lines), viewTold(want), linesTold(wanted))
	}
	return got
}

// wantToldAsPlain holds TellView against the document's rule, and has what it answers.
func wantToldAsPlain(t *testing.T, v impl.View, b impl.Box) (impl.View, []impl.Line) {
	t.Helper()
	want, lines := plainTellView(v, b)
	return wantViewTold(t, v, b, want, lines...), lines
}

func wantBye(t *testing.T, what string, v impl.View, b impl.Box) {
	t.Helper()
	got, lines := impl.TellView(v, b)
	if !sameView(got, impl.View{}) || len(lines) != 1 || !sameLine(lines[0], impl.Line{Kind: lnBye}) {
		t.Fatalf("with %s TellView(%s, %s) = %s, %s; want a view of nothing, and bye", what, viewTold(v), boxTold(b), viewTold(got), linesTold(lines))
	}
}

func wantPlace(t *testing.T, v impl.View, uid int, want int) {
	t.Helper()
	if got := impl.PlaceIn(v, uid); got != want {
		t.Fatalf("PlaceIn(%s, %d) is %d; want %d", viewTold(v), uid, got, want)
	}
}

// wantPlaces holds PlaceIn against what stands first at each place.
func wantPlaces(t *testing.T, v impl.View) {
	t.Helper()
	first := map[int]int{}
	for i, uid := range v.Uids {
		if first[uid] == 0 {
			first[uid] = i + 1
		}
	}
	for uid := range first {
		for _, n := range []int{uid - 1, uid, uid + 1} {
			wantPlace(t, v, n, first[n])
		}
	}
	for _, n := range []int{math.MinInt, -9999, -1, 0, 1, 2, 30, 31, 9999, 10000, 1<<32 + 1, math.MaxInt} {
		wantPlace(t, v, n, first[n])
	}
}

func wantUidSet(t *testing.T, v impl.View, places []impl.Range, want ...impl.Range) {
	t.Helper()
	if got, ok := impl.UidSet(v, places); !sameAnswer(got, ok, want, true) {
		t.Fatalf("UidSet(%s, %v) = %v, %v; want %v, true", viewTold(v), places, got, ok, want)
	}
}

func wantNoUidSet(t *testing.T, v impl.View, places []impl.Range) {
	t.Helper()
	if got, ok := impl.UidSet(v, places); !sameAnswer(got, ok, nil, false) {
		t.Fatalf("UidSet(%s, %v) = %v, %v; want nothing, false", viewTold(v), places, got, ok)
	}
}

func wantUidSetAsPlain(t *testing.T, v impl.View, places []impl.Range) {
	t.Helper()
	if want, ok := plainUidSet(v, places); ok {
		wantUidSet(t, v, places, want...)
	} else {
		wantNoUidSet(t, v, places)
	}
}

// takenAsTexts has what one knows who reads each line from its text.
func takenAsTexts(t *testing.T, known []impl.Seen, lines []impl.Line) []impl.Seen {
	t.Helper()
	for _, x := range lines {
		text, ok := impl.LineText(x)
		read, right := impl.ReadLine(text)
		if !ok || !right {
			t.Fatalf("%s does not come back from its text", lineTold(x))
		}
		known = impl.TakeLine(known, read)
	}
	return known
}

func seensOf(b impl.Box) []impl.Seen {
	var list []impl.Seen
	for _, m := range b.Mails {
		list = append(list, impl.Seen{Uid: m.Uid, Flags: m.Flags, Mod: m.Mod})
	}
	return list
}

// wantKnown tells the box b to one who knows what was there, asks that all of b is known then, and that there is nothing to tell any more.
func wantKnown(t *testing.T, was impl.Box, b impl.Box) {
	t.Helper()
	v, lines := wantToldAsPlain(t, impl.ViewOf(was), b)
	if known := takenAsTexts(t, seensOf(was), lines); !slices.Equal(known, seensOf(b)) {
		t.Fatalf("behind %s one who knew %v knows %v; there is %v", linesTold(lines), seensOf(was), known, seensOf(b))
	}
	wantViewTold(t, v, b, plainViewOf(b))
}

// uidRow has count Uids from from on, with step between.
func uidRow(count int, from int, step int) []int {
	var uids []int
	for i := range count {
		uids = append(uids, from+i*step)
	}
	return uids
}

// boxOf has mails of these Uids, all of one Mod.
func boxOf(mod int, uids ...int) impl.Box {
	b := impl.Box{Name: "inbox", Valid: 3, Next: topUid, Mod: mod}
	for _, uid := range uids {
		b.Mails = append(b.Mails, mail(uid, uid%32, mod, "x"))
	}
	return b
}

// viewChange is what makes another view of a right one.
type viewChange struct {
	what string
	do   func(v *impl.View)
}

func someView() impl.View { return viewAt(20, 2, 3, 5, 8, 9) }

func changedView(c viewChange) impl.View {
	v := someView()
	c.do(&v)
	return v
}

// rightViewChanges leave a view right, at the limits.
func rightViewChanges() []viewChange {
	var list []viewChange
	for _, name := range rightBoxNames() {
		list = append(list, viewChange{"a name", func(v *impl.View) { v.Box = name }})
	}
	for _, n := range []int{1, 2, 5000, 9998, 9999} {
		list = append(list, viewChange{"Valid", func(v *impl.View) { v.Valid = n }})
	}
	for _, n := range []int{1, 2, 19, 20, 21, 65537, 99999, 100000} {
		list = append(list, viewChange{"Mod", func(v *impl.View) { v.Mod = n }})
	}
	for _, uids := range [][]int{
		nil, {}, {1}, {2}, {9998}, {9999}, {1, 9999}, {1, 2, 3}, {9997, 9998, 9999}, uidRow(29, 1, 1), uidRow(30, 1, 1), uidRow(30, 9970, 1), uidRow(30, 3, 300), uidRow(30, 2, 2),
	} {
		list = append(list, viewChange{"Uids", func(v *impl.View) { v.Uids = uids }})
	}
	return append(list, viewChange{"nothing", func(v *impl.View) {}})
}

// wrongViewChanges make a view that is not right, in one field.
func wrongViewChanges() []viewChange {
	var list []viewChange
	for _, name := range append(wrongBoxNames(), oddTexts()...) {
		list = append(list, viewChange{"a wrong name", func(v *impl.View) { v.Box = name }})
	}
	for _, n := range []int{0, -1, -3, 10000, 10001, 1<<32 + 3, math.MinInt, math.MaxInt} {
		list = append(list, viewChange{"a wrong Valid", func(v *impl.View) { v.Valid = n }})
	}
	for _, n := range []int{0, -1, -20, 100001, 100002, 1<<32 + 20, math.MinInt, math.MaxInt} {
		list = append(list, viewChange{"a wrong Mod", func(v *impl.View) { v.Mod = n }})
	}
	for at := range 5 {
		for _, n := range []int{0, -1, -2, 10000, 10001, 1<<32 + 5, math.MinInt, math.MaxInt} {
			list = append(list, viewChange{"a wrong Uid", func(v *impl.View) { v.Uids[at] = n }})
		}
		list = append(list, viewChange{"a Uid twice", func(v *impl.View) { v.Uids = slices.Insert(v.Uids, at, v.Uids[at]) }},
			viewChange{"a Uid out of order", func(v *impl.View) { v.Uids[at], v.Uids[(at+1)%5] = v.Uids[(at+1)%5], v.Uids[at] }})
	}
	for _, uids := range [][]int{{0}, {-1}, {10000}, {1, 1}, {2, 1}, {9999, 10000}, {0, 1}, {9999, 9999}, {9999, 1}, {1, 2, 3, 3}, {5, 4, 3}, uidRow(31, 1, 1), uidRow(31, 9969, 1), uidRow(90, 1, 2), uidRow(5000, 1, 1), uidRow(30, 31, -1), make([]int, 30)} {
		list = append(list, viewChange{"wrong Uids", func(v *impl.View) { v.Uids = uids }})
	}
	return append(list, viewChange{"the zero value", func(v *impl.View) { *v = impl.View{} }})
}

func TestViewOf(t *testing.T) {
	for _, c := range []struct {
		box  impl.Box
		want impl.View
	}{
		{emptyBox("a", 7), impl.View{Box: "a", Valid: 7, Mod: 1}},
		{boxOf(4, 9), viewAt(4, 9)},
		{someBox(), viewAt(20, 2, 3, 5, 8, 9)},
		{boxOf(100000, uidRow(30, 3, 300)...), viewAt(100000, uidRow(30, 3, 300)...)},
	} {
		got := impl.ViewOf(c.box)
		if !sameView(got, c.want) || !impl.ViewOk(got) {
			t.Errorf("ViewOf(%s) = %s, right is %v; want %s", boxTold(c.box), viewTold(got), impl.ViewOk(got), viewTold(c.want))
		}
	}
	for _, b := range changedBoxes(rightChanges()) {
		v := wantView(t, b)
		wantViewOk(t, v, true)
		wantViewTold(t, v, b, v)
	}
}

// No sentence asks for a right box there: the view is of it as it is.
func TestViewOfWrongBoxes(t *testing.T) {
	for _, b := range changedBoxes(wrongChanges()) {
		v := wantView(t, b)
		wantViewOk(t, v, plainViewOk(v))
		wantBye(t, "a box that is not right", v, b)
	}
	odd := impl.Box{Name: "no name", Valid: -4, Mod: math.MaxInt, Mails: []impl.Mail{mail(5, 99, 7, ""), mail(-1, 0, 0, "a"), mail(5, 0, 0, ""), mail(math.MaxInt, 0, 0, "")}}
	if got, want := impl.ViewOf(odd), (impl.View{Box: "no name", Valid: -4, Mod: math.MaxInt, Uids: []int{5, -1, 5, math.MaxInt}}); !sameView(got, want) {
		t.Errorf("ViewOf(%s) = %s", boxTold(odd), viewTold(got))
	}
	wantView(t, impl.Box{})
	wantView(t, impl.Box{Mails: crowd(5000, 1)})
}

func TestViewOk(t *testing.T) {
	for _, c := range rightViewChanges() {
		wantViewOk(t, changedView(c), true)
	}
	for _, c := range wrongViewChanges() {
		wantViewOk(t, changedView(c), false)
	}
	for n := -3; n < 10005; n++ {
		right := n >= 1 && n <= 9999
		wantViewOk(t, viewAt(1, n), right)
		wantViewOk(t, impl.View{Box: "a", Valid: n, Mod: 1}, right)
		wantViewOk(t, viewAt(1, 4000, n), right && n > 4000)
		wantViewOk(t, viewAt(1, n, 4000), right && n < 4000)
	}
	for n := -3; n < 100005; n++ {
		wantViewOk(t, viewAt(n, 1), n >= 1 && n <= 100000)
	}
	for size := range 70 {
		wantViewOk(t, viewAt(1, uidRow(size, 1, 1)...), size <= 30)
		wantViewOk(t, viewAt(1, uidRow(size, 10, 9)...), size <= 30)
	}
}

func TestViewOkOfDrawnViews(t *testing.T) {
	r := rand.New(rand.NewSource(141))
	right := 0
	for range 200000 {
		v := impl.View{Box: []string{"a", "inbox", "", "B"}[min(r.Intn(9), 3)], Valid: r.Intn(12), Mod: r.Intn(12)}
		if r.Intn(9) == 0 {
			v.Valid, v.Mod = 9990+r.Intn(12), 99990+r.Intn(12)
		}
		from := []int{-1, 9990}[r.Intn(2)]
		for range r.Intn(4) {
			v.Uids = append(v.Uids, from+r.Intn(12))
		}
		want := plainViewOk(v)
		wantViewOk(t, v, want)
		if want && len(v.Uids) > 1 {
			right++
		}
	}
	if right < 1000 {
		t.Errorf("just %d of the views are right and have several Uids", right)
	}
}

// What is told of some box, to those who know more or less of it: its mails are 2, 3, 5, 8 and 9, of the Mods 18, 4, 20, 12 and 12.
func TestTellView(t *testing.T) {
	b := someBox()
	now := viewAt(20, 2, 3, 5, 8, 9)
	two, three, five, eight, nine := fetchLine(1, 2, 9, 18), fetchLine(2, 3, 0, 4), fetchLine(3, 5, 8, 20), fetchLine(4, 8, 31, 12), fetchLine(5, 9, 8, 12)
	gone := func(place int) impl.Line { return numLine(lnExpunge, place) }
	exists := numLine(lnExists, 5)
	for _, c := range []struct {
		view  impl.View
		lines []impl.Line
	}{
		{now, nil},
		{viewAt(19, now.Uids...), []impl.Line{five}},
		{viewAt(18, now.Uids...), []impl.Line{five}},
		{viewAt(17, now.Uids...), []impl.Line{two, five}},
		{viewAt(12, now.Uids...), []impl.Line{two, five}},
		{viewAt(11, now.Uids...), []impl.Line{two, five, eight, nine}},
		{viewAt(4, now.Uids...), []impl.Line{two, five, eight, nine}},
		{viewAt(3, now.Uids...), []impl.Line{two, three, five, eight, nine}},
		{viewAt(1, now.Uids...), []impl.Line{two, three, five, eight, nine}},
		// A view that is later than the box: there is nothing above it, and the Mod is the box's then.
		{viewAt(21, now.Uids...), nil},
		{viewAt(100000, now.Uids...), nil},
		// Mails that have gone: the first, the last, one between, and several side by side.
		{viewAt(20, 1, 2, 3, 5, 8, 9), []impl.Line{gone(1)}},
		{viewAt(20, 2, 3, 5, 8, 9, 10), []impl.Line{gone(6)}},
		{viewAt(20, 2, 3, 4, 5, 8, 9), []impl.Line{gone(3)}},
		{viewAt(20, 2, 3, 5, 6, 7, 8, 9), []impl.Line{gone(4), gone(4)}},
		{viewAt(20, 1, 2, 3, 4, 5, 6, 7, 8, 9, 10, 11), []impl.Line{gone(1), gone(3), gone(4), gone(4), gone(6), gone(6)}},
		{viewAt(20, 2, 3, 5, 8, 9, 12, 9999), []impl.Line{gone(6), gone(6)}},
		{viewAt(17, 1, 2, 3, 4, 5, 8, 9), []impl.Line{gone(1), gone(3), two, five}},
		// Mails that have come.
		{viewAt(20), []impl.Line{exists}},
		{viewAt(1), []impl.Line{exists, two, three, five, eight, nine}},
		{viewAt(19, 2, 3), []impl.Line{exists, five}},
		{viewAt(11, 2, 3, 5, 8), []impl.Line{exists, two, five, eight, nine}},
		{viewAt(20, 2, 3, 5, 8), []impl.Line{exists}},
		// Ahead of others: the places are those of the box, and what is told of is what is later.
		{viewAt(20, 3, 5, 8, 9), []impl.Line{exists}},
		{viewAt(20, 9), []impl.Line{exists}},
		{viewAt(18, 2, 8, 9), []impl.Line{exists, five}},
		{viewAt(11, 2, 3, 5, 9), []impl.Line{exists, two, five, eight, nine}},
		// At once, as many as went, more and fewer.
		{viewAt(20, 1, 2, 3, 5, 8), []impl.Line{gone(1), exists}},
		{viewAt(11, 1, 4, 6, 7, 10), []impl.Line{gone(1), gone(1), gone(1), gone(1), gone(1), exists, two, five, eight, nine}},
		{viewAt(20, 2, 7, 9998, 9999), []impl.Line{gone(2), gone(2), gone(2), exists}},
		{viewAt(19, 1, 2, 3, 4, 6, 7, 8, 9), []impl.Line{gone(1), gone(3), gone(3), gone(3), exists, five}},
	} {
		wantViewTold(t, c.view, b, now, c.lines...)
		wantToldAsPlain(t, c.view, b)
	}
}

// Lists as long as they may be: all of one goes, and all of another one comes.
func TestTellViewOfManyMails(t *testing.T) {
	wantViewTold(t, viewAt(9), boxOf(9), viewAt(9))
	wantViewTold(t, viewAt(9), boxOf(20), viewAt(20))
	odd, even := uidRow(30, 1, 2), uidRow(30, 2, 2)
	first := slices.Repeat([]impl.Line{numLine(lnExpunge, 1)}, 30)
	wantViewTold(t, viewAt(9, odd...), boxOf(9), viewAt(9), first...)
	wantViewTold(t, viewAt(9, odd...), boxOf(9, odd...), viewAt(9, odd...))
	wantViewTold(t, viewAt(9, odd...), boxOf(9, even...), viewAt(9, even...), append(first, numLine(lnExists, 30))...)
	wantViewTold(t, viewAt(9), boxOf(9, even...), viewAt(9, even...), numLine(lnExists, 30))
	wantViewTold(t, viewAt(9, odd...), boxOf(9, odd[29]), viewAt(9, odd[29]), first[:29]...)
	wantViewTold(t, viewAt(9, odd...), boxOf(9, odd[:29]...), viewAt(9, odd[:29]...), numLine(lnExpunge, 30))
	wantViewTold(t, viewAt(9, odd...), boxOf(9, odd[1:]...), viewAt(9, odd[1:]...), numLine(lnExpunge, 1))
	wantViewTold(t, viewAt(9, odd[:29]...), boxOf(9, odd...), viewAt(9, odd...), numLine(lnExists, 30))
	var news []impl.Line
	for i, uid := range even {
		news = append(news, fetchLine(i+1, uid, uid%32, 10))
	}
	wantViewTold(t, viewAt(9, even...), boxOf(10, even...), viewAt(10, even...), news...)
	wantViewTold(t, viewAt(9, odd...), boxOf(10, even...), viewAt(10, even...), slices.Concat(first, []impl.Line{numLine(lnExists, 30)}, news)...)
	for at := range 30 {
		fewer := slices.Delete(slices.Clone(odd), at, at+1)
		wantViewTold(t, viewAt(9, odd...), boxOf(9, fewer...), viewAt(9, fewer...), numLine(lnExpunge, at+1))
		wantViewTold(t, viewAt(9, fewer...), boxOf(9, odd...), viewAt(9, odd...), numLine(lnExists, 30))
		other := append(slices.Clone(fewer), 700)
		wantViewTold(t, viewAt(9, odd...), boxOf(9, other...), viewAt(9, other...), numLine(lnExpunge, at+1), numLine(lnExists, 30))
	}
}

// numberedBox has those of seven mails whose bits stand in bits; their Mods are told by the figures of mods.
func numberedBox(bits int, mods int) impl.Box {
	b := impl.Box{Name: "inbox", Valid: 3, Next: 9, Mod: 5}
	for i := range 7 {
		mod := 1 + mods%5
		mods /= 5
		if bits>>i&1 == 1 {
			b.Mails = append(b.Mails, mail(i+1, 31-i, mod, "x"))
		}
	}
	return b
}

// Each view of seven mails, and each box of these.
func TestTellViewOfAllPlaces(t *testing.T) {
	r := rand.New(rand.NewSource(142))
	for known := range 128 {
		v := plainViewOf(numberedBox(known, 0))
		for bits := range 128 {
			b := numberedBox(bits, r.Intn(78125))
			v.Mod = 1 + r.Intn(7)
			told, lines := wantToldAsPlain(t, v, b)
			for _, x := range lines {
				if !impl.LineOk(x) {
					t.Fatalf("the line %s is not right", lineTold(x))
				}
			}
			wantViewTold(t, told, b, plainViewOf(b))
		}
	}
}

func TestTellViewRefuses(t *testing.T) {
	b, v := someBox(), someView()
	for _, c := range wrongViewChanges() {
		wrong := changedView(c)
		wantBye(t, c.what, wrong, b)
		// The box is of the view's name and Valid, as far as there are such boxes.
		like := someBox()
		like.Name, like.Valid = wrong.Box, wrong.Valid
		wantBye(t, c.what, wrong, like)
	}
	for _, c := range wrongChanges() {
		wrong := someBox()
		c.do(&wrong)
		wantBye(t, "a box with a wrong "+c.what, v, wrong)
		like := v
		like.Box, like.Valid = wrong.Name, wrong.Valid
		wantBye(t, "a box with a wrong "+c.what, like, wrong)
	}
	wantBye(t, "nothing", impl.View{}, impl.Box{})
	for _, name := range []string{"a", "inbo", "inboxx", "inboy", "hnbox", "xobni", "zzzzzzzz"} {
		other := v
		other.Box = name
		wantBye(t, "another name", other, b)
		b.Name = name
		wantBye(t, "a box of another name", v, b)
		wantViewTold(t, other, b, other)
		b.Name = "inbox"
	}
	for _, n := range []int{1, 2, 4, 259, 9998, 9999} {
		other := v
		other.Valid = n
		wantBye(t, "another Valid", other, b)
		b.Valid = n
		wantBye(t, "a box of another Valid", v, b)
		wantViewTold(t, other, b, other)
		b.Valid = 3
	}
	// Both another one, and the box as empty as the view.
	wantBye(t, "another box", impl.View{Box: "a", Valid: 1, Mod: 1}, emptyBox("b", 2))
	wantBye(t, "the same box, made anew", impl.View{Box: "a", Valid: 1, Mod: 1}, emptyBox("a", 2))
}

// Each right view and each right box: what is right is not refused.
func TestTellViewOfAllBoxes(t *testing.T) {
	byes := 0
	for _, b := range changedBoxes(slices.Concat(rightChanges(), wrongChanges())) {
		for _, c := range slices.Concat(rightViewChanges(), wrongViewChanges()) {
			v := changedView(c)
			_, lines := wantToldAsPlain(t, v, b)
			byes += boolNumber(len(lines) == 1 && lines[0].Kind == lnBye)
			v.Box, v.Valid = b.Name, b.Valid
			wantToldAsPlain(t, v, b)
		}
	}
	if byes == 0 {
		t.Error("nothing was refused")
	}
}

// One change, and several one behind the other: whoever is told knows what is there.
func TestToldKnows(t *testing.T) {
	was := someBox()
	added, _ := impl.AddMail(was, 5, "new")
	more, _ := impl.AddMail(added, 0, "newer")
	one := setOf(span(8, 8))
	flagged, _, _ := impl.SetFlags(was, setOf(span(2, 5)), impl.HowSet, impl.FlagDraft, -1)
	deleted, _, _ := impl.SetFlags(was, setOf(span(1, topUid)), impl.HowAdd, impl.FlagDeleted, -1)
	first, _ := impl.Expunge(deleted, setOf(span(2, 2)))
	last, _ := impl.Expunge(deleted, setOf(span(9, 9)))
	between, _ := impl.Expunge(was, one)
	side, _ := impl.Expunge(deleted, setOf(span(3, 8)))
	all, _ := impl.Expunge(deleted, setOf(span(1, topUid)))
	anew, _ := impl.AddMail(all, 1, "anew")
	both, _ := impl.Expunge(more, one)
	other, _, _ := impl.SetFlags(both, setOf(span(1, topUid)), impl.HowTake, impl.FlagSeen, -1)
	fewer := impl.ForgetTombs(other, other.Mod)
	for _, b := range []impl.Box{was, added, more, flagged, deleted, first, last, between, side, all, anew, both, other, fewer} {
		wantKnown(t, was, b)
		wantKnown(t, b, b)
	}
	for _, b := range []impl.Box{first, last, side, all, anew} {
		wantKnown(t, deleted, b)
	}
	wantKnown(t, all, anew)
	wantKnown(t, added, more)
	wantKnown(t, more, fewer)
	if len(anew.Mails) != 1 || len(all.Mails) != 0 || len(side.Mails) != 2 {
		t.Error("the boxes are not as they were meant")
	}
	// As many as went have come.
	b := graveyard(30, 1)
	gone, _ := impl.Expunge(b, setOf(span(1, topUid)))
	for range 30 {
		gone, _ = impl.AddMail(gone, 0, "x")
	}
	wantKnown(t, b, gone)
	if len(gone.Mails) != 30 {
		t.Errorf("the box has %d mails", len(gone.Mails))
	}
}

// watcher looks at a box, and knows by places what it was told.
type watcher struct {
	view  impl.View
	known []impl.Seen
}

func (w *watcher) look(t *testing.T, b impl.Box) []impl.Line {
	t.Helper()
	var lines []impl.Line
	w.view, lines = wantToldAsPlain(t, w.view, b)
	w.known = takenAsTexts(t, w.known, lines)
	if !sameView(w.view, plainViewOf(b)) || !slices.Equal(w.known, seensOf(b)) {
		t.Fatalf("behind %s the view is %s, and known is %v; the box is %s", linesTold(lines), viewTold(w.view), w.known, boxTold(b))
	}
	wantViewTold(t, w.view, b, w.view)
	return lines
}

// wantPlacesKept asks that each Uid that was seen is known at its place still, as long as nothing is told.
func (w *watcher) wantPlacesKept(t *testing.T) {
	t.Helper()
	for i, s := range w.known {
		wantPlace(t, w.view, s.Uid, i+1)
		wantUidSet(t, w.view, setOf(span(i+1, i+1)), span(s.Uid, s.Uid))
	}
	wantUidSet(t, w.view, setOf(span(len(w.known)+1, topUid)))
}

func TestDrawnLivesAreTold(t *testing.T) {
	kinds := map[int]int{}
	for seed := range 12 {
		l := &boxLife{t: t, r: rand.New(rand.NewSource(int64(1400 + seed))), was: map[int]impl.Box{}}
		l.box, _ = impl.BoxNew("inbox", 1)
		if seed%3 == 2 {
			l.box, l.given = impl.Box{Name: "late", Valid: topUid, Next: 9900, Mod: 99800, Horizon: 99700}, 9899
		}
		watchers := make([]watcher, 4)
		for i := range watchers {
			watchers[i].view = impl.ViewOf(l.box)
		}
		for range 300 {
			l.step()
			for i := range watchers {
				// One looks each time, the others now and then.
				if l.r.Intn(1+i*i*4) == 0 {
					for _, x := range watchers[i].look(t, l.box) {
						kinds[x.Kind]++
					}
				}
			}
			watchers[l.r.Intn(len(watchers))].wantPlacesKept(t)
		}
	}
	for _, kind := range []int{lnExists, lnExpunge, lnFetch} {
		if kinds[kind] < 100 {
			t.Errorf("just %d lines of the kind %d are told", kinds[kind], kind)
		}
	}
	if len(kinds) != 3 {
		t.Errorf("lines of other kinds are told: %v", kinds)
	}
}

func TestPlaceIn(t *testing.T) {
	v := someView()
	for i, uid := range v.Uids {
		wantPlace(t, v, uid, i+1)
	}
	for _, uid := range []int{0, -1, -2, -9999, 1, 4, 6, 7, 10, 30, 9999, 10000, 1<<32 + 2, math.MinInt, math.MaxInt} {
		wantPlace(t, v, uid, 0)
	}
	for _, uid := range []int{0, 1, -1, 9999} {
		wantPlace(t, impl.View{}, uid, 0)
		wantPlace(t, viewAt(1), uid, 0)
	}
	wantPlaces(t, viewAt(1, uidRow(30, 9970, 1)...))
	wantPlaces(t, viewAt(1, uidRow(30, 1, 1)...))
	for _, c := range rightViewChanges() {
		wantPlaces(t, changedView(c))
	}
	// What stands in the room behind the list has no place.
	row := uidRow(20, 1, 1)
	short := viewAt(1, row[:4]...)
	wantPlace(t, short, 4, 4)
	wantPlace(t, short, 5, 0)
}

// No sentence asks for a right view there: it is the first place at which the number stands.
func TestPlaceInOfWrongViews(t *testing.T) {
	for _, c := range wrongViewChanges() {
		wantPlaces(t, changedView(c))
	}
	odd := impl.View{Uids: []int{7, 0, -4, 7, 3, 10000, 3, math.MinInt, math.MaxInt}}
	for _, c := range [][2]int{{7, 1}, {0, 2}, {-4, 3}, {3, 5}, {10000, 6}, {math.MinInt, 8}, {math.MaxInt, 9}, {5, 0}, {-7, 0}} {
		wantPlace(t, odd, c[0], c[1])
	}
	many := viewAt(1, uidRow(5000, 1, 1)...)
	wantPlace(t, many, 31, 31)
	wantPlace(t, many, 5000, 5000)
	wantPlace(t, many, 5001, 0)
}

func TestUidSet(t *testing.T) {
	v := someView()
	wantUidSet(t, v, nil)
	wantUidSet(t, v, []impl.Range{})
	wantUidSet(t, v, setOf(span(1, 1)), span(2, 2))
	wantUidSet(t, v, setOf(span(5, 5)), span(9, 9))
	wantUidSet(t, v, setOf(span(6, 6)))
	wantUidSet(t, v, setOf(span(6, 9999)))
	wantUidSet(t, v, setOf(span(9999, 9999)))
	wantUidSet(t, v, setOf(span(5, 6)), span(9, 9))
	wantUidSet(t, v, setOf(span(1, 2)), span(2, 3))
	wantUidSet(t, v, setOf(span(2, 4)), span(3, 3), span(5, 5), span(8, 8))
	wantUidSet(t, v, setOf(span(1, 1), span(3, 3), span(5, 5)), span(2, 2), span(5, 5), span(9, 9))
	wantUidSet(t, v, setOf(span(1, 5)), span(2, 3), span(5, 5), span(8, 9))
	wantUidSet(t, v, setOf(span(1, 9999)), span(2, 3), span(5, 5), span(8, 9))
	wantUidSet(t, v, setOf(span(2, 2), span(4, 5), span(9, 20)), span(3, 3), span(8, 9))
	wantUidSet(t, viewAt(1), setOf(span(1, 9999)))
	wantUidSet(t, impl.View{}, setOf(span(1, 1)))
	wantUidSet(t, viewAt(1, uidRow(30, 1, 1)...), setOf(span(1, 9999)), span(1, 30))
	wantUidSet(t, viewAt(1, uidRow(30, 9970, 1)...), setOf(span(30, 30)), span(9999, 9999))
	wantUidSet(t, viewAt(1, uidRow(30, 3, 300)...), setOf(span(1, 30)), sparse(30, 3, 1, 299)...)
	// As many ranges of places as there may be, and one more.
	wantUidSet(t, viewAt(1, uidRow(30, 1, 1)...), sparse(40, 1, 1, 1), sparse(15, 1, 1, 1)...)
	wantUidSet(t, viewAt(1, uidRow(30, 1, 1)...), sparse(40, 2, 1, 1), sparse(15, 2, 1, 1)...)
	wantNoUidSet(t, viewAt(1, uidRow(30, 1, 1)...), sparse(41, 1, 1, 1))
	for _, s := range wrongSets() {
		wantNoUidSet(t, v, s)
		wantNoUidSet(t, viewAt(1), s)
		wantNoUidSet(t, impl.View{}, s)
	}
	// What stands in the room behind the list has no place.
	row := uidRow(20, 1, 1)
	wantUidSet(t, viewAt(1, row[:4]...), setOf(span(3, 9)), span(3, 4))
}

// All sets of the places of a short view, and of some beyond it.
func TestUidSetOfAllPlaces(t *testing.T) {
	for bits := range 256 {
		places := subset(bits, 8, 1)
		for _, uids := range [][]int{nil, {1}, {9999}, {4, 5, 6, 7, 8, 9}, {2, 4, 6, 8, 10}, {1, 2, 4, 5, 9998, 9999}} {
			wantUidSetAsPlain(t, viewAt(1, uids...), places)
		}
	}
	r := rand.New(rand.NewSource(143))
	for range 1500 {
		var uids []int
		for uid := 1 + r.Intn(5); len(uids) < 30; uid += 1 + r.Intn(3) {
			uids = append(uids, uid)
		}
		wantUidSetAsPlain(t, viewAt(1, uids[:r.Intn(31)]...), drawnSet(r))
	}
	for _, c := range slices.Concat(rightViewChanges(), wrongViewChanges()) {
		for _, s := range allSets() {
			wantUidSetAsPlain(t, changedView(c), s)
		}
	}
}

// No sentence asks for a right view there, but the set has to be right: what is not asked for is not looked at.
func TestUidSetOfWrongViews(t *testing.T) {
	all := setOf(span(1, 9999))
	for _, uid := range []int{0, -1, -5, 10000, 10001, 1<<32 + 5, math.MinInt, math.MaxInt} {
		for at := range 5 {
			v := someView()
			v.Uids[at] = uid
			wantNoUidSet(t, v, setOf(span(at+1, at+1)))
			wantNoUidSet(t, v, all)
			var others []int
			for i, other := range v.Uids {
				if i != at {
					others = append(others, other)
				}
			}
			rest, _ := impl.SetDrop(all, at+1, at+1)
			wantUidSet(t, v, rest, setOfUids(others)...)
		}
	}
	// Those that hang together with others, or stand there twice.
	wantNoUidSet(t, viewAt(1, 0, 1), all)
	wantNoUidSet(t, viewAt(1, 9999, 10000), all)
	wantNoUidSet(t, viewAt(1, 0, 0), all)
	wantNoUidSet(t, viewAt(1, math.MaxInt, math.MaxInt, math.MinInt), all)
	wantUidSet(t, viewAt(1, 5, 5), all, span(5, 5))
	wantUidSet(t, viewAt(1, 5, 5, 6, 5), setOf(span(2, 4)), span(5, 6))
	wantUidSet(t, viewAt(1, 9, 8, 3, 1, 2), all, span(1, 3), span(8, 9))
	wantUidSet(t, viewAt(1, 9, 8, 3, 1, 2), setOf(span(2, 4)), span(1, 1), span(3, 3), span(8, 8))
	wantUidSet(t, impl.View{Box: "No", Valid: -1, Uids: []int{4}, Mod: -1}, all, span(4, 4))
	// As many ranges of Uids as there may be, and one more.
	wantUidSet(t, viewAt(1, uidRow(40, 1, 2)...), all, sparse(40, 1, 1, 1)...)
	wantNoUidSet(t, viewAt(1, uidRow(41, 1, 2)...), all)
	wantUidSet(t, viewAt(1, uidRow(41, 1, 2)...), setOf(span(2, 99)), sparse(40, 3, 1, 1)...)
	wantUidSet(t, viewAt(1, uidRow(41, 81, -2)...), setOf(span(1, 40)), sparse(40, 3, 1, 1)...)
	wantUidSet(t, viewAt(1, append(uidRow(41, 1, 2), 2)...), all, append(setOf(span(1, 3)), sparse(39, 5, 1, 1)...)...)
	wantUidSet(t, viewAt(1, uidRow(9999, 1, 1)...), all, span(1, 9999))
	wantUidSet(t, viewAt(1, append(uidRow(9999, 1, 1), 0)...), all, span(1, 9999))
}

// Places and Uids tell the same.
func TestPlacesComeBack(t *testing.T) {
	for _, c := range rightViewChanges() {
		v := changedView(c)
		for i, uid := range v.Uids {
			place := impl.PlaceIn(v, uid)
			wantUidSet(t, v, setOf(span(place, place)), span(uid, uid))
			if place != i+1 {
				t.Fatalf("the place of %d in %s is %d", uid, viewTold(v), place)
			}
		}
	}
}

// spareView is v with other Uids in the room behind its own.
func spareView(v impl.View) impl.View {
	v.Box = strings.Clone(v.Box)
	v.Uids = append(slices.Clone(v.Uids), uidRow(35, 9001, 1)...)[:len(v.Uids)]
	return v
}

// memoryViews are views of which lines of every Kind are told, and none.
func memoryViews() []impl.View {
	return []impl.View{
		{}, someView(), viewAt(1), viewAt(20), viewAt(1, 2, 3, 5, 8, 9), viewAt(11, 1, 2, 4, 5, 9), viewAt(20, 1, 2, 3, 4, 5, 8, 9), viewAt(20, 2, 3), viewAt(20, 7, 11),
		viewAt(20, uidRow(30, 1, 1)...), viewAt(20, uidRow(31, 1, 1)...), viewAt(0, 2, 3), viewAt(3, 5, 5), {Box: "other", Valid: 3, Mod: 20, Uids: []int{2, 3}},
	}
}

func memoryBoxes() []impl.Box {
	wrong := someBox()
	wrong.Mails[1].Flags = 32
	return []impl.Box{someBox(), boxOf(20), boxOf(25, uidRow(30, 1, 1)...), boxOf(20, 2, 3), wrong, {}}
}

func TestViewsAnswerNewMemory(t *testing.T) {
	for _, b := range memoryBoxes() {
		b = spareBox(b)
		one, two := impl.ViewOf(b), impl.ViewOf(b)
		if shares(one.Uids, two.Uids) {
			t.Errorf("two answers of ViewOf share their Uids")
		}
		wantNewTexts(t, "ViewOf", []string{one.Box}, []string{b.Name, two.Box})
		for _, v := range memoryViews() {
			v = spareView(v)
			first, lines := impl.TellView(v, b)
			second, others := impl.TellView(v, b)
			if shares(first.Uids, v.Uids) || shares(second.Uids, v.Uids) || shares(first.Uids, second.Uids) || shares(lines, others) {
				t.Errorf("TellView(%s, %s): an answer shares memory", viewTold(v), boxTold(b))
			}
			wantNewTexts(t, "TellView", []string{first.Box}, []string{v.Box, b.Name, second.Box})
		}
	}
	for _, v := range memoryViews() {
		for _, s := range append(boxSets(), someWrongSets()...) {
			s = spareSet(s)
			one, _ := impl.UidSet(v, s)
			two, _ := impl.UidSet(v, s)
			if shares(one, s) || shares(two, s) || shares(one, two) {
				t.Errorf("UidSet(%s, %v): an answer shares memory", viewTold(v), s)
			}
		}
	}
}

func TestViewsLeaveArgumentsAlone(t *testing.T) {
	for _, plain := range memoryViews() {
		v := spareView(plain)
		was := slices.Clone(v.Uids[:cap(v.Uids)])
		impl.ViewOk(v)
		for uid := -1; uid < 12; uid++ {
			impl.PlaceIn(v, uid)
		}
		for _, b := range memoryBoxes() {
			b = spareBox(b)
			mails, tombs := slices.Clone(b.Mails[:cap(b.Mails)]), slices.Clone(b.Tombs[:cap(b.Tombs)])
			impl.ViewOf(b)
			impl.TellView(v, b)
			if !slices.Equal(b.Mails[:cap(b.Mails)], mails) || !slices.Equal(b.Tombs[:cap(b.Tombs)], tombs) {
				t.Errorf("a box is changed, or the room behind its lists: %s", boxTold(b))
			}
		}
		for _, s := range append(boxSets(), someWrongSets()...) {
			given := spareSet(s)
			room := slices.Clone(given[:cap(given)])
			impl.UidSet(v, given)
			if !slices.Equal(given[:cap(given)], room) {
				t.Errorf("the places %v are changed, or the room behind them", s)
			}
		}
		if !slices.Equal(v.Uids[:cap(v.Uids)], was) {
			t.Errorf("the view %s is changed, or the room behind its Uids", viewTold(plain))
		}
	}
}

// An answer stays what it was, whatever becomes of the arguments and of other answers.
func TestViewsAnswersStand(t *testing.T) {
	for _, plain := range memoryViews() {
		for _, b := range memoryBoxes() {
			v, box := spareView(plain), spareBox(b)
			of := impl.ViewOf(box)
			told, lines := impl.TellView(v, box)
			other, others := impl.TellView(v, box)
			again, _ := impl.TellView(told, box)
			clear(v.Uids[:cap(v.Uids)])
			clear(box.Mails[:cap(box.Mails)])
			clear(other.Uids[:cap(other.Uids)])
			clear(again.Uids[:cap(again.Uids)])
			clear(others[:cap(others)])
			want, wanted := plainTellView(plain, b)
			if !sameView(of, plainViewOf(b)) || !sameView(told, want) || !slices.EqualFunc(lines, wanted, sameLine) {
				t.Fatalf("TellView(%s, %s) became %s, %s", viewTold(plain), boxTold(b), viewTold(told), linesTold(lines))
			}
		}
		for _, s := range boxSets() {
			v, places := spareView(plain), spareSet(s)
			got, ok := impl.UidSet(v, places)
			other, _ := impl.UidSet(v, places)
			clear(v.Uids[:cap(v.Uids)])
			clear(places[:cap(places)])
			clear(other[:cap(other)])
			if want, right := plainUidSet(plain, s); !sameAnswer(got, ok, want, right) {
				t.Fatalf("UidSet(%s, %v) became %v, %v", viewTold(plain), s, got, ok)
			}
		}
	}
}
