package tests

import (
	"fmt"
	"math"
	"math/rand"
	"regexp"
	"slices"
	"strings"
	"testing"

	"loop.example/g00247/impl"
)

// The document's numbers, told anew: what the program calls them may be wrong.
const (
	topUid    = 9999
	topMod    = 100000
	mostMails = 30
	mostTombs = 40
)

var plainBoxName = regexp.MustCompile(`\A[a-z]{1,8}\z`)

func mail(uid int, flags int, mod int, text string) impl.Mail {
	return impl.Mail{Uid: uid, Flags: flags, Mod: mod, Text: text}
}

func tomb(uid int, mod int) impl.Tomb { return impl.Tomb{Uid: uid, Mod: mod} }

// someBox has mails that were added and changed in turn, Tombs of one Mod and of several, and a Horizon.
func someBox() impl.Box {
	return impl.Box{
		Name: "inbox", Valid: 3, Next: 12, Mod: 20, Horizon: 5,
		Mails: []impl.Mail{mail(2, 9, 18, "two"), mail(3, 0, 4, "three"), mail(5, 8, 20, "five"), mail(8, 31, 12, "eight"), mail(9, 8, 12, "nine")},
		Tombs: []impl.Tomb{tomb(6, 7), tomb(1, 9), tomb(7, 9), tomb(4, 15), tomb(11, 19)},
	}
}

// crowd has count mails from the Uid from on, all with FlagDeleted and the Mod 1.
func crowd(count int, from int) []impl.Mail {
	var list []impl.Mail
	for i := range count {
		list = append(list, mail(from+i, impl.FlagDeleted, 1, "x"))
	}
	return list
}

// graves has Tombs of Uids from 1 on, as many of each Mod (from 2 on) as counts tells.
func graves(counts ...int) []impl.Tomb {
	var list []impl.Tomb
	for i, count := range counts {
		for range count {
			list = append(list, tomb(len(list)+1, i+2))
		}
	}
	return list
}

// graveyard has Tombs as graves has them, and behind them mails that may be expunged.
func graveyard(mails int, counts ...int) impl.Box {
	list := graves(counts...)
	return impl.Box{Name: "old", Valid: 1, Next: len(list) + mails + 1, Mod: len(counts) + 1, Mails: crowd(mails, len(list)+1), Tombs: list}
}

func sameBox(a impl.Box, b impl.Box) bool {
	return a.Name == b.Name && a.Valid == b.Valid && a.Next == b.Next && a.Mod == b.Mod && a.Horizon == b.Horizon &&
		slices.Equal(a.Mails, b.Mails) && slices.Equal(a.Tombs, b.Tombs)
}

// boxTold tells of a box in one line, without the whole of its texts.
func boxTold(b impl.Box) string {
	line := fmt.Sprintf("{%.20q valid %d next %d mod %d horizon %d, mails", b.Name, b.Valid, b.Next, b.Mod, b.Horizon)
	for _, m := range b.Mails {
		line += fmt.Sprintf(" %d/%d/%d/%.10q", m.Uid, m.Flags, m.Mod, m.Text)
	}
	return line + fmt.Sprintf(", tombs %v}", b.Tombs)
}

// ownBox is b in memory of its own, its texts, too.
func ownBox(b impl.Box) impl.Box {
	b.Name = strings.Clone(b.Name)
	b.Mails = slices.Clone(b.Mails)
	for i := range b.Mails {
		b.Mails[i].Text = strings.Clone(b.Mails[i].Text)
	}
	b.Tombs = slices.Clone(b.Tombs)
	return b
}

// plainBoxOk is the document's rule for a box, number by number.
func plainBoxOk(b impl.Box) bool {
	if !plainBoxName.MatchString(b.Name) || b.Valid < 1 || b.Valid > topUid || b.Next < 1 || b.Next > topUid || b.Mod < 1 || b.Mod > topMod {
		return false
	}
	if b.Horizon < 0 || b.Horizon > b.Mod || len(b.Mails) > mostMails || len(b.Tombs) > mostTombs {
		return false
	}
	times := map[int]int{}
	last := 0
	for _, m := range b.Mails {
		if m.Uid <= last || m.Uid >= b.Next || m.Flags < 0 || m.Flags > 31 || m.Mod < 1 || m.Mod > b.Mod {
			return false
		}
		if m.Text == "" || len(m.Text) > 200 || strings.Contains(m.Text, "\x00") {
			return false
		}
		times[m.Uid]++
		last = m.Uid
	}
	place := 0
	for _, x := range b.Tombs {
		if x.Uid < 1 || x.Uid >= b.Next || x.Mod <= b.Horizon || x.Mod > b.Mod || x.Mod*10000+x.Uid <= place {
			return false
		}
		times[x.Uid]++
		place = x.Mod*10000 + x.Uid
	}
	for _, n := range times {
		if n > 1 {
			return false
		}
	}
	return true
}

func setOfUids(uids []int) []impl.Range {
	var in plainNumbers
	for _, uid := range uids {
		in[uid] = true
	}
	return plainSet(&in)
}

func inSet(s []impl.Range, n int) bool {
	return slices.ContainsFunc(s, func(r impl.Range) bool { return n >= r.Lo && n <= r.Hi })
}

func plainAddMail(b impl.Box, flags int, text string) (impl.Box, int) {
	full := len(b.Mails) == mostMails || b.Next == topUid || b.Mod == topMod
	if !plainBoxOk(b) || full || flags < 0 || flags > 31 || text == "" || len(text) > 200 || strings.Contains(text, "\x00") {
		return b, 0
	}
	uid := b.Next
	b.Mails = append(slices.Clone(b.Mails), mail(uid, flags, b.Mod+1, text))
	b.Next, b.Mod = b.Next+1, b.Mod+1
	return b, uid
}

func plainSetFlags(b impl.Box, s []impl.Range, how int, bits int, since int) (impl.Box, []impl.Range, []impl.Range) {
	if !plainBoxOk(b) || !plainSetOk(s) || how < 1 || how > 3 || bits < 0 || bits > 31 {
		return b, nil, nil
	}
	was := b
	b.Mails = slices.Clone(b.Mails)
	var changed, late []int
	for i, m := range b.Mails {
		after := plainAfter(m.Flags, how, bits)
		switch {
		case !inSet(s, m.Uid):
		case since >= 0 && m.Mod > since:
			late = append(late, m.Uid)
		case after != m.Flags:
			changed = append(changed, m.Uid)
			b.Mails[i].Flags, b.Mails[i].Mod = after, b.Mod+1
		}
	}
	if len(changed) > 0 && b.Mod == topMod {
		return was, nil, nil
	}
	if len(changed) > 0 {
		b.Mod++
	}
	return b, setOfUids(changed), setOfUids(late)
}

func plainExpunge(b impl.Box, s []impl.Range) (impl.Box, []impl.Range) {
	if !plainBoxOk(b) || !plainSetOk(s) || b.Mod == topMod {
		return b, nil
	}
	var gone []int
	var left []impl.Mail
	for _, m := range b.Mails {
		if m.Flags/8%2 == 1 && inSet(s, m.Uid) {
			gone = append(gone, m.Uid)
		} else {
			left = append(left, m)
		}
	}
	if len(gone) == 0 {
		return b, nil
	}
	b.Mails = left
	b.Mod++
	b.Tombs = slices.Clone(b.Tombs)
	for _, uid := range gone {
		b.Tombs = append(b.Tombs, tomb(uid, b.Mod))
	}
	if len(b.Tombs) > mostTombs {
		b.Tombs, b.Horizon = plainTrimmed(b.Tombs)
	}
	return b, setOfUids(gone)
}

// plainTrimmed looks for the least Mod behind which there are few enough Tombs.
func plainTrimmed(list []impl.Tomb) ([]impl.Tomb, int) {
	for _, first := range list {
		var left []impl.Tomb
		for _, x := range list {
			if x.Mod > first.Mod {
				left = append(left, x)
			}
		}
		if len(left) <= mostTombs {
			return left, first.Mod
		}
	}
	return list, 0
}

func plainChanged(b impl.Box, since int) []impl.Mail {
	return slices.DeleteFunc(slices.Clone(b.Mails), func(m impl.Mail) bool { return m.Mod <= since })
}

func plainVanished(b impl.Box, since int) ([]impl.Range, bool) {
	if !plainBoxOk(b) || since < b.Horizon {
		return nil, false
	}
	var uids []int
	for _, x := range b.Tombs {
		if x.Mod > since {
			uids = append(uids, x.Uid)
		}
	}
	return setOfUids(uids), true
}

func plainForget(b impl.Box, upto int) impl.Box {
	if !plainBoxOk(b) || upto < 0 || upto > b.Mod || upto <= b.Horizon {
		return b
	}
	b.Horizon = upto
	b.Tombs = slices.DeleteFunc(slices.Clone(b.Tombs), func(x impl.Tomb) bool { return x.Mod <= upto })
	return b
}

func wantBox(t *testing.T, what string, got impl.Box, want impl.Box) {
	t.Helper()
	if !sameBox(got, want) {
		t.Fatalf("%s answers the box %s; want %s", what, boxTold(got), boxTold(want))
	}
}

func wantUids(t *testing.T, what string, got []impl.Range, want []impl.Range) {
	t.Helper()
	if !slices.Equal(got, want) {
		t.Fatalf("%s answers the Uids %v; want %v", what, got, want)
	}
}

func wantMails(t *testing.T, what string, got []impl.Mail, want []impl.Mail) {
	t.Helper()
	if !slices.Equal(got, want) {
		t.Fatalf("%s answers the mails %s; want %s", what, boxTold(impl.Box{Mails: got}), boxTold(impl.Box{Mails: want}))
	}
}

func wantMailAdded(t *testing.T, b impl.Box, flags int, text string) impl.Box {
	t.Helper()
	got, uid := impl.AddMail(b, flags, text)
	want, number := plainAddMail(b, flags, text)
	if uid != number {
		t.Fatalf("AddMail(%s, %d, %.20q) has the Uid %d; want %d", boxTold(b), flags, text, uid, number)
	}
	wantBox(t, "AddMail", got, want)
	return got
}

func wantFlagsSet(t *testing.T, b impl.Box, s []impl.Range, how int, bits int, since int) impl.Box {
	t.Helper()
	got, changed, late := impl.SetFlags(b, s, how, bits, since)
	want, some, others := plainSetFlags(b, s, how, bits, since)
	if !sameBox(got, want) || !slices.Equal(changed, some) || !slices.Equal(late, others) {
		t.Fatalf("SetFlags(%s, %v, %d, %d, %d) = %s, %v, %v; want %s, %v, %v", boxTold(b), s, how, bits, since, boxTold(got), changed, late, boxTold(want), some, others)
	}
	return got
}

func wantExpunged(t *testing.T, b impl.Box, s []impl.Range) impl.Box {
	t.Helper()
	got, gone := impl.Expunge(b, s)
	want, uids := plainExpunge(b, s)
	if !sameBox(got, want) || !slices.Equal(gone, uids) {
		t.Fatalf("Expunge(%s, %v) = %s, %v; want %s, %v", boxTold(b), s, boxTold(got), gone, boxTold(want), uids)
	}
	return got
}

// wantTold holds Changed and Vanished against the document's rule.
func wantTold(t *testing.T, b impl.Box, since int) {
	t.Helper()
	if got, want := impl.Changed(b, since), plainChanged(b, since); !slices.Equal(got, want) {
		t.Fatalf("Changed(%s, %d) = %s; want %s", boxTold(b), since, boxTold(impl.Box{Mails: got}), boxTold(impl.Box{Mails: want}))
	}
	got, ok := impl.Vanished(b, since)
	if want, right := plainVanished(b, since); !sameAnswer(got, ok, want, right) {
		t.Fatalf("Vanished(%s, %d) = %v, %v; want %v, %v", boxTold(b), since, got, ok, want, right)
	}
}

func wantForgotten(t *testing.T, b impl.Box, upto int) impl.Box {
	t.Helper()
	got := impl.ForgetTombs(b, upto)
	if want := plainForget(b, upto); !sameBox(got, want) {
		t.Fatalf("ForgetTombs(%s, %d) = %s; want %s", boxTold(b), upto, boxTold(got), boxTold(want))
	}
	return got
}

// boxChange is what makes another box of some box.
type boxChange struct {
	what string
	do   func(b *impl.Box)
}

// changedBoxes has some box with each of the changes, one at a time.
func changedBoxes(changes []boxChange) []impl.Box {
	var list []impl.Box
	for _, c := range changes {
		b := someBox()
		c.do(&b)
		list = append(list, b)
	}
	return list
}

// rightChanges leave a box right, at the limits.
func rightChanges() []boxChange {
	return []boxChange{
		{"nothing", func(b *impl.Box) {}},
		{"a name of 1 letter", func(b *impl.Box) { b.Name = "a" }},
		{"a name of 1 letter, the last", func(b *impl.Box) { b.Name = "z" }},
		{"a name of 8 letters", func(b *impl.Box) { b.Name = "abcdwxyz" }},
		{"Valid 1", func(b *impl.Box) { b.Valid = 1 }},
		{"Valid 9999", func(b *impl.Box) { b.Valid = 9999 }},
		{"Next 9999", func(b *impl.Box) { b.Next = 9999 }},
		{"Next 1, without anything", func(b *impl.Box) { b.Next, b.Mails, b.Tombs = 1, nil, nil }},
		{"Next 1, with empty lists", func(b *impl.Box) { b.Next, b.Mails, b.Tombs = 1, []impl.Mail{}, []impl.Tomb{} }},
		{"Mod 100000", func(b *impl.Box) { b.Mod = 100000 }},
		{"Mod 99999", func(b *impl.Box) { b.Mod = 99999 }},
		{"Mod 1, Horizon 1", func(b *impl.Box) { b.Mod, b.Horizon, b.Mails, b.Tombs = 1, 1, []impl.Mail{mail(1, 8, 1, "a")}, nil }},
		{"a mail 1, a mail 9998", func(b *impl.Box) {
			b.Next, b.Tombs = 9999, nil
			b.Mails = []impl.Mail{mail(1, 8, 1, "a"), mail(9998, 8, 20, "b")}
		}},
		{"Tombs 1 and 9998", func(b *impl.Box) { b.Next, b.Tombs = 9999, []impl.Tomb{tomb(9998, 6), tomb(1, 20)} }},
		{"no mails", func(b *impl.Box) { b.Mails = nil }},
		{"no Tombs", func(b *impl.Box) { b.Tombs = nil }},
		{"Horizon 0", func(b *impl.Box) { b.Horizon = 0 }},
		{"Horizon just below the first Tomb", func(b *impl.Box) { b.Horizon = 6 }},
		{"Horizon 20", func(b *impl.Box) { b.Horizon, b.Tombs = 20, nil }},
		{"Horizon 100000", func(b *impl.Box) { b.Mod, b.Horizon, b.Tombs = 100000, 100000, nil }},
		{"no flags, and all of them", func(b *impl.Box) { b.Mails[0].Flags, b.Mails[1].Flags = 0, 31 }},
		{"all mails of one Mod", func(b *impl.Box) {
			for i := range b.Mails {
				b.Mails[i].Mod = 20
			}
		}},
		{"a text of 1 byte", func(b *impl.Box) { b.Mails[4].Text = "\xff" }},
		{"a text of 200 bytes", func(b *impl.Box) { b.Mails[4].Text = strings.Repeat("\n", 200) }},
		{"30 mails", func(b *impl.Box) { b.Next, b.Mails = 1000, crowd(30, 100) }},
		{"29 mails", func(b *impl.Box) { b.Next, b.Mails = 1000, crowd(29, 100) }},
		{"40 Tombs of one Mod", func(b *impl.Box) { *b = graveyard(30, 40) }},
		{"40 Tombs of 40 Mods", func(b *impl.Box) { *b = graveyard(30, slices.Repeat([]int{1}, 40)...) }},
		{"39 Tombs", func(b *impl.Box) { *b = graveyard(5, 9, 30) }},
		{"40 Tombs", func(b *impl.Box) { *b = graveyard(12, 3, 20, 1, 16) }},
		{"40 Tombs, Mod 99999", func(b *impl.Box) { *b = graveyard(12, 3, 20, 1, 16); b.Mod = 99999 }},
		{"40 Tombs, Mod 100000", func(b *impl.Box) { *b = graveyard(12, 3, 20, 1, 16); b.Mod = 100000 }},
	}
}

func wrongOwnNumbers() []boxChange {
	var list []boxChange
	for _, name := range []string{"", "abcdefghi", "abcdefghijklmnop", "A", "inboX", "in box", " inbox", "inbox ", "in1", "inbox\n", "a\x00", "`", "{", "a-b", "\xff", "a\xff", "\u00e9", "ab\u00e9", "\uff41", "a/b"} {
		list = append(list, boxChange{"Name", func(b *impl.Box) { b.Name = name }})
	}
	for _, n := range []int{0, -1, -3, 10000, 10001, 1<<32 + 3, math.MinInt, math.MaxInt} {
		list = append(list, boxChange{"Valid", func(b *impl.Box) { b.Valid = n }}, boxChange{"Next", func(b *impl.Box) { b.Next = n }},
			boxChange{"Next, without mails", func(b *impl.Box) { b.Next, b.Mails, b.Tombs = n, nil, nil }})
	}
	for _, n := range []int{0, -1, -20, 100001, 100002, 1<<32 + 20, math.MinInt, math.MaxInt} {
		list = append(list, boxChange{"Mod", func(b *impl.Box) { b.Mod = n }},
			boxChange{"Mod, without mails", func(b *impl.Box) { b.Mod, b.Horizon, b.Mails, b.Tombs = n, 0, nil, nil }})
	}
	for _, n := range []int{-1, -2, 21, 22, 100000, 100001, math.MinInt, math.MaxInt} {
		list = append(list, boxChange{"Horizon", func(b *impl.Box) { b.Horizon, b.Tombs = n, nil }}, boxChange{"Horizon", func(b *impl.Box) { b.Horizon = n }})
	}
	return append(list,
		boxChange{"Next is the last mail's Uid", func(b *impl.Box) { b.Next, b.Tombs = 9, nil }},
		boxChange{"Next is a Tomb's Uid", func(b *impl.Box) { b.Next = 11 }},
		boxChange{"Mod below a mail's", func(b *impl.Box) { b.Mod, b.Tombs = 19, nil }},
		boxChange{"Mod below a Tomb's", func(b *impl.Box) { b.Mod, b.Mails = 18, nil }},
		boxChange{"Mod below Horizon", func(b *impl.Box) { b.Mod, b.Mails, b.Tombs = 4, nil, nil }},
		boxChange{"Horizon at a Tomb's Mod", func(b *impl.Box) { b.Horizon = 7 }},
		boxChange{"Horizon beyond a Tomb's Mod", func(b *impl.Box) { b.Horizon = 8 }},
		boxChange{"Horizon at the last Tomb's Mod", func(b *impl.Box) { b.Horizon = 19 }},
		boxChange{"the zero value", func(b *impl.Box) { *b = impl.Box{} }})
}

func wrongMails() []boxChange {
	var list []boxChange
	for at := range 5 {
		for _, n := range []int{0, -1, -5, 12, 13, 9998, 9999, 10000, math.MinInt, math.MaxInt} {
			list = append(list, boxChange{"a mail's Uid", func(b *impl.Box) { b.Mails[at].Uid = n }})
		}
		for _, bits := range wrongBits() {
			list = append(list, boxChange{"a mail's Flags", func(b *impl.Box) { b.Mails[at].Flags = bits }})
		}
		for _, n := range []int{0, -1, 21, 22, 100000, 100001, math.MinInt, math.MaxInt} {
			list = append(list, boxChange{"a mail's Mod", func(b *impl.Box) { b.Mails[at].Mod = n }})
		}
		for _, text := range []string{"", "\x00", "a\x00", "\x00a", strings.Repeat("a", 201), strings.Repeat("a", 70000), strings.Repeat("a", 199) + "\x00"} {
			list = append(list, boxChange{"a mail's Text", func(b *impl.Box) { b.Mails[at].Text = text }})
		}
		list = append(list, boxChange{"a mail of nothing", func(b *impl.Box) { b.Mails[at] = impl.Mail{} }})
	}
	for at := range 4 {
		list = append(list, boxChange{"mails out of order", func(b *impl.Box) { b.Mails[at], b.Mails[at+1] = b.Mails[at+1], b.Mails[at] }},
			boxChange{"a mail twice", func(b *impl.Box) { b.Mails[at] = b.Mails[at+1] }},
			boxChange{"a Uid twice", func(b *impl.Box) { b.Mails[at+1].Uid = b.Mails[at].Uid }})
	}
	return append(list,
		boxChange{"mails downward", func(b *impl.Box) { slices.Reverse(b.Mails) }},
		boxChange{"31 mails", func(b *impl.Box) { b.Next, b.Mails = 1000, crowd(31, 100) }},
		boxChange{"31 mails without a Tomb", func(b *impl.Box) { b.Next, b.Mails, b.Tombs = 1000, crowd(31, 100), nil }},
		boxChange{"90 mails", func(b *impl.Box) { b.Next, b.Mails = 1000, crowd(90, 100) }})
}

func wrongTombs() []boxChange {
	var list []boxChange
	for at := range 5 {
		for _, n := range []int{0, -1, -5, 12, 13, 9998, 9999, 10000, math.MinInt, math.MaxInt} {
			list = append(list, boxChange{"a Tomb's Uid", func(b *impl.Box) { b.Tombs[at].Uid = n }})
		}
		for _, n := range []int{5, 4, 1, 0, -1, 21, 22, 100000, 100001, math.MinInt, math.MaxInt} {
			list = append(list, boxChange{"a Tomb's Mod", func(b *impl.Box) { b.Tombs[at].Mod = n }})
		}
		for _, uid := range []int{2, 3, 5, 8, 9} {
			list = append(list, boxChange{"a mail's Uid at a Tomb", func(b *impl.Box) { b.Tombs[at].Uid = uid }},
				boxChange{"a mail's Uid at a Tomb alone", func(b *impl.Box) { b.Tombs = []impl.Tomb{tomb(uid, b.Tombs[at].Mod)} }})
		}
		for other := range 5 {
			if other != at {
				list = append(list, boxChange{"a Tomb's Uid twice", func(b *impl.Box) { b.Tombs[at].Uid = b.Tombs[other].Uid }})
			}
		}
		list = append(list, boxChange{"a Tomb of nothing", func(b *impl.Box) { b.Tombs[at] = impl.Tomb{} }},
			boxChange{"a Tomb twice", func(b *impl.Box) { b.Tombs = slices.Insert(b.Tombs, at, b.Tombs[at]) }})
	}
	for at := range 4 {
		list = append(list, boxChange{"Tombs out of order", func(b *impl.Box) { b.Tombs[at], b.Tombs[at+1] = b.Tombs[at+1], b.Tombs[at] }})
	}
	return append(list,
		boxChange{"Tombs downward", func(b *impl.Box) { slices.Reverse(b.Tombs) }},
		boxChange{"Tombs by Uid", func(b *impl.Box) {
			slices.SortFunc(b.Tombs, func(x impl.Tomb, y impl.Tomb) int { return x.Uid - y.Uid })
		}},
		boxChange{"41 Tombs of one Mod", func(b *impl.Box) { *b = graveyard(5, 41) }},
		boxChange{"41 Tombs", func(b *impl.Box) { *b = graveyard(0, 20, 21) }},
		boxChange{"90 Tombs", func(b *impl.Box) { *b = graveyard(0, slices.Repeat([]int{1}, 90)...) }})
}

func wrongChanges() []boxChange { return slices.Concat(wrongOwnNumbers(), wrongMails(), wrongTombs()) }

// boxSets are sets that have all, some and none of some box's Uids.
func boxSets() [][]impl.Range {
	return [][]impl.Range{
		nil, setOf(span(1, topUid)), setOf(span(5, 5)), setOf(span(2, 3), span(9, 9)), setOf(span(4, 4), span(6, 7), span(10, 9998)),
		setOf(span(3, 8)), setOf(span(41, 50), span(60, 70)), setOf(span(9998, 9999)), sparse(impl.MaxRanges, 1, 1, 1),
	}
}

func someWrongSets() [][]impl.Range {
	return [][]impl.Range{
		setOf(span(0, 5)), setOf(span(5, 2)), setOf(span(5, 10000)), setOf(span(1, 5), span(6, 9)), setOf(span(8, 9), span(2, 3)),
		setOf(span(2, 3), span(2, 3)), sparse(impl.MaxRanges+1, 1, 1, 1), setOf(span(math.MinInt, math.MaxInt)), setOf(impl.Range{}),
	}
}

// moments are numbers about the Mods of some box, and far from these.
func moments() []int {
	list := []int{math.MinInt, math.MinInt + 1, -100000, -2, -1, 99998, 99999, 100000, 100001, 1 << 32, math.MaxInt - 1, math.MaxInt}
	for n := range 24 {
		list = append(list, n)
	}
	return list
}

func TestBoxLimits(t *testing.T) {
	if impl.MaxMails != mostMails || impl.MaxTombs != mostTombs {
		t.Error("a limit is not the document's")
	}
}

func TestBoxName(t *testing.T) {
	for _, name := range []string{"a", "z", "m", "in", "inbox", "aaaaaaaa", "zzzzzzzz", "abcdefgh"} {
		if !impl.BoxName(name) {
			t.Errorf("BoxName(%q) is false", name)
		}
	}
	for _, name := range []string{"", "aaaaaaaaa", "abcdefghi", strings.Repeat("a", 16), strings.Repeat("a", 256), strings.Repeat("a", 264), strings.Repeat("z", 100000), " ", "a b", "aB", "Inbox", "a1", "1"} {
		if impl.BoxName(name) {
			t.Errorf("BoxName(%.40q) is true", name)
		}
	}
	for _, odd := range oddTexts() {
		if impl.BoxName(odd) || impl.BoxName("a"+odd) || impl.BoxName(odd+"a") {
			t.Errorf("BoxName takes %q", odd)
		}
	}
}

func TestBoxNameOfEveryByte(t *testing.T) {
	for c := range 256 {
		for size := 1; size <= 9; size++ {
			for at := range size {
				name := []byte(strings.Repeat("q", size))
				name[at] = byte(c)
				want := c >= 'a' && c <= 'z' && size <= 8
				if got := impl.BoxName(string(name)); got != want {
					t.Errorf("BoxName(%q) is %v", name, got)
				}
			}
		}
	}
}

func TestBoxOk(t *testing.T) {
	for _, c := range rightChanges() {
		b := someBox()
		c.do(&b)
		if !impl.BoxOk(b) {
			t.Errorf("with %s a box is not right: %s", c.what, boxTold(b))
		}
	}
	for _, c := range wrongChanges() {
		b := someBox()
		c.do(&b)
		if impl.BoxOk(b) {
			t.Errorf("with a wrong %s a box is right: %s", c.what, boxTold(b))
		}
	}
}

// drawnSmallBox has few numbers, so that each may be at a limit of another one.
func drawnSmallBox(r *rand.Rand) impl.Box {
	b := impl.Box{Name: "a", Valid: 1, Next: r.Intn(8), Mod: r.Intn(7), Horizon: r.Intn(4) - 1}
	for range r.Intn(3) {
		b.Mails = append(b.Mails, mail(r.Intn(7), r.Intn(34)-1, r.Intn(7), "m"))
	}
	for range r.Intn(4) {
		b.Tombs = append(b.Tombs, tomb(r.Intn(7), r.Intn(7)))
	}
	return b
}

func TestBoxOkOfDrawnBoxes(t *testing.T) {
	r := rand.New(rand.NewSource(81))
	right := 0
	for range 1000000 {
		b := drawnSmallBox(r)
		want := plainBoxOk(b)
		if got := impl.BoxOk(b); got != want {
			t.Fatalf("BoxOk(%s) is %v", boxTold(b), got)
		}
		if want && len(b.Mails) > 0 && len(b.Tombs) > 1 {
			right++
		}
	}
	if right < 100 {
		t.Errorf("%d boxes with mails and Tombs are right: they are drawn too wildly", right)
	}
}

func TestBoxNew(t *testing.T) {
	for _, name := range []string{"a", "inbox", "zzzzzzzz"} {
		for _, valid := range []int{1, 2, 5000, 9998, 9999} {
			b, ok := impl.BoxNew(name, valid)
			if !ok {
				t.Errorf("BoxNew(%q, %d) is false", name, valid)
			}
			wantBox(t, "BoxNew", b, impl.Box{Name: name, Valid: valid, Next: 1, Mod: 1})
		}
		for _, valid := range []int{0, -1, 10000, 10001, 1<<32 + 1, math.MinInt, math.MaxInt} {
			b, ok := impl.BoxNew(name, valid)
			if ok {
				t.Errorf("BoxNew(%q, %d) is true", name, valid)
			}
			wantBox(t, "BoxNew, being false,", b, impl.Box{})
		}
	}
	for _, name := range append(oddTexts(), "", "abcdefghi", "A", "a b", "a1", "a\n") {
		b, ok := impl.BoxNew(name, 1)
		if ok {
			t.Errorf("BoxNew(%q, 1) is true", name)
		}
		wantBox(t, "BoxNew, being false,", b, impl.Box{})
	}
}

func TestAddMail(t *testing.T) {
	b, _ := impl.BoxNew("inbox", 7)
	var want []impl.Mail
	for i, text := range []string{"one", "two", "one", "\xff\n"} {
		var uid int
		b, uid = impl.AddMail(b, i*8, text)
		if uid != i+1 {
			t.Fatalf("mail %d has the Uid %d", i, uid)
		}
		want = append(want, mail(i+1, i*8, i+2, text))
		wantBox(t, "AddMail", b, impl.Box{Name: "inbox", Valid: 7, Next: i + 2, Mod: i + 2, Mails: want})
	}
	b, uid := impl.AddMail(someBox(), 4, "new")
	more := someBox()
	more.Next, more.Mod, more.Mails = 13, 21, append(more.Mails, mail(12, 4, 21, "new"))
	wantBox(t, "AddMail", b, more)
	if uid != 12 {
		t.Errorf("the Uid is %d", uid)
	}
}

func wantNoMailAdded(t *testing.T, why string, b impl.Box, flags int, text string) {
	t.Helper()
	got, uid := impl.AddMail(b, flags, text)
	if uid != 0 {
		t.Errorf("AddMail to a box %s has the Uid %d", why, uid)
	}
	wantBox(t, "AddMail to a box "+why, got, b)
}

func TestAddMailAtTheLimits(t *testing.T) {
	for _, last := range []struct {
		what string
		do   func(b *impl.Box)
		uid  int
	}{
		{"with 30 mails", func(b *impl.Box) { b.Next, b.Mails = 200, crowd(29, 100) }, 200},
		{"with Next 9999", func(b *impl.Box) { b.Next = 9998 }, 9998},
		{"with Mod 100000", func(b *impl.Box) { b.Mod = 99999 }, 12},
	} {
		b := someBox()
		last.do(&b)
		b, uid := impl.AddMail(b, 0, "the last one")
		if uid != last.uid || !impl.BoxOk(b) {
			t.Errorf("the last mail of a box %s has the Uid %d: %s", last.what, uid, boxTold(b))
		}
		wantNoMailAdded(t, last.what, b, 0, "x")
	}
	for _, bits := range wrongBits() {
		wantNoMailAdded(t, "with wrong flags", someBox(), bits, "x")
	}
	for _, text := range []string{"", "\x00", "a\x00b", strings.Repeat("a", 201), strings.Repeat("a", 256), strings.Repeat("a", 100000)} {
		wantNoMailAdded(t, "with a wrong text", someBox(), 0, text)
	}
}

func TestAddMailOfAllBoxes(t *testing.T) {
	texts := []string{"", "a", "\x00", "\xff\x80", strings.Repeat("b", 200), strings.Repeat("b", 201)}
	for _, b := range changedBoxes(slices.Concat(rightChanges(), wrongChanges())) {
		for _, text := range texts {
			for _, bits := range []int{0, 8, 31, 32, -1, math.MinInt, math.MaxInt} {
				wantMailAdded(t, b, bits, text)
			}
		}
	}
}

// wantFlagged holds SetFlags of some box against what is told, mail by mail: Uid, Flags and Mod.
func wantFlagged(t *testing.T, s []impl.Range, how int, bits int, since int, mod int, changed []impl.Range, late []impl.Range, mails ...[3]int) {
	t.Helper()
	want := someBox()
	want.Mod = mod
	for i, m := range mails {
		want.Mails[i].Uid, want.Mails[i].Flags, want.Mails[i].Mod = m[0], m[1], m[2]
	}
	got, some, others := impl.SetFlags(someBox(), s, how, bits, since)
	wantBox(t, "SetFlags", got, want)
	wantUids(t, "SetFlags", some, changed)
	wantUids(t, "SetFlags (too late)", others, late)
}

func TestSetFlags(t *testing.T) {
	all, one := setOf(span(1, topUid)), setOf(span(3, 3))
	wantFlagged(t, all, impl.HowSet, 4, -1, 21, setOf(span(2, 3), span(5, 5), span(8, 9)), nil, [3]int{2, 4, 21}, [3]int{3, 4, 21}, [3]int{5, 4, 21}, [3]int{8, 4, 21}, [3]int{9, 4, 21})
	wantFlagged(t, all, impl.HowSet, 8, -1, 21, setOf(span(2, 3), span(8, 8)), nil, [3]int{2, 8, 21}, [3]int{3, 8, 21}, [3]int{5, 8, 20}, [3]int{8, 8, 21}, [3]int{9, 8, 12})
	wantFlagged(t, all, impl.HowAdd, 8, -1, 21, one, nil, [3]int{2, 9, 18}, [3]int{3, 8, 21}, [3]int{5, 8, 20}, [3]int{8, 31, 12}, [3]int{9, 8, 12})
	wantFlagged(t, all, impl.HowAdd, 3, -1, 21, setOf(span(2, 3), span(5, 5), span(9, 9)), nil, [3]int{2, 11, 21}, [3]int{3, 3, 21}, [3]int{5, 11, 21}, [3]int{8, 31, 12}, [3]int{9, 11, 21})
	wantFlagged(t, all, impl.HowTake, 8, -1, 21, setOf(span(2, 2), span(5, 5), span(8, 9)), nil, [3]int{2, 1, 21}, [3]int{3, 0, 4}, [3]int{5, 0, 21}, [3]int{8, 23, 21}, [3]int{9, 0, 21})
	wantFlagged(t, all, impl.HowTake, 1, -1, 21, setOf(span(2, 2), span(8, 8)), nil, [3]int{2, 8, 21}, [3]int{3, 0, 4}, [3]int{5, 8, 20}, [3]int{8, 30, 21}, [3]int{9, 8, 12})
	wantFlagged(t, setOf(span(3, 5)), impl.HowSet, 1, -1, 21, setOf(span(3, 3), span(5, 5)), nil, [3]int{2, 9, 18}, [3]int{3, 1, 21}, [3]int{5, 1, 21})
	wantFlagged(t, setOf(span(8, 8), span(10, 90)), impl.HowSet, 0, -1, 21, setOf(span(8, 8)), nil, [3]int{2, 9, 18}, [3]int{3, 0, 4}, [3]int{5, 8, 20}, [3]int{8, 0, 21})
}

// Flags that do not change give no new Mod, and no Uid that is not a mail's is told.
func TestSetFlagsWithoutChange(t *testing.T) {
	all := setOf(span(1, topUid))
	wantFlagged(t, all, impl.HowAdd, 0, -1, 20, nil, nil)
	wantFlagged(t, all, impl.HowTake, 0, -1, 20, nil, nil)
	wantFlagged(t, nil, impl.HowSet, 4, -1, 20, nil, nil)
	wantFlagged(t, nil, impl.HowSet, 4, 0, 20, nil, nil)
	wantFlagged(t, setOf(span(1, 1), span(4, 4), span(6, 7), span(10, topUid)), impl.HowSet, 4, -1, 20, nil, nil)
	wantFlagged(t, setOf(span(1, 1), span(4, 4), span(6, 7), span(10, topUid)), impl.HowSet, 4, 0, 20, nil, nil)
	wantFlagged(t, setOf(span(3, 3)), impl.HowSet, 0, -1, 20, nil, nil)
	wantFlagged(t, setOf(span(8, 8)), impl.HowSet, 31, -1, 20, nil, nil)
	wantFlagged(t, setOf(span(8, 8)), impl.HowAdd, 31, 12, 20, nil, nil)
	// Too late is too late, whether or not there was something to change.
	wantFlagged(t, all, impl.HowAdd, 0, 12, 20, nil, setOf(span(2, 2), span(5, 5)))
	wantFlagged(t, setOf(span(8, 8)), impl.HowAdd, 31, 11, 20, nil, setOf(span(8, 8)))
}

func TestSetFlagsSince(t *testing.T) {
	all := setOf(span(1, topUid))
	none := [][3]int{{2, 9, 18}, {3, 0, 4}, {5, 8, 20}, {8, 31, 12}, {9, 8, 12}}
	for _, since := range []int{0, 1, 3} {
		wantFlagged(t, all, impl.HowSet, 2, since, 20, nil, setOf(span(2, 3), span(5, 5), span(8, 9)), none...)
	}
	for _, since := range []int{4, 5, 11} {
		wantFlagged(t, all, impl.HowSet, 2, since, 21, setOf(span(3, 3)), setOf(span(2, 2), span(5, 5), span(8, 9)), [3]int{2, 9, 18}, [3]int{3, 2, 21})
	}
	for _, since := range []int{12, 13, 17} {
		wantFlagged(t, all, impl.HowSet, 2, since, 21, setOf(span(3, 3), span(8, 9)), setOf(span(2, 2), span(5, 5)),
			[3]int{2, 9, 18}, [3]int{3, 2, 21}, [3]int{5, 8, 20}, [3]int{8, 2, 21}, [3]int{9, 2, 21})
	}
	for _, since := range []int{18, 19} {
		wantFlagged(t, all, impl.HowSet, 2, since, 21, setOf(span(2, 3), span(8, 9)), setOf(span(5, 5)),
			[3]int{2, 2, 21}, [3]int{3, 2, 21}, [3]int{5, 8, 20}, [3]int{8, 2, 21}, [3]int{9, 2, 21})
	}
	for _, since := range []int{20, 21, 100000, math.MaxInt, -1, -2, -20, math.MinInt} {
		wantFlagged(t, all, impl.HowSet, 2, since, 21, setOf(span(2, 3), span(5, 5), span(8, 9)), nil,
			[3]int{2, 2, 21}, [3]int{3, 2, 21}, [3]int{5, 2, 21}, [3]int{8, 2, 21}, [3]int{9, 2, 21})
	}
	wantFlagged(t, setOf(span(4, 8)), impl.HowSet, 2, 12, 21, setOf(span(8, 8)), setOf(span(5, 5)), [3]int{2, 9, 18}, [3]int{3, 0, 4}, [3]int{5, 8, 20}, [3]int{8, 2, 21})
}

func TestSetFlagsAtTheLimits(t *testing.T) {
	all := setOf(span(1, topUid))
	b := someBox()
	b.Mod = 99999
	b, changed, late := impl.SetFlags(b, setOf(span(3, 3)), impl.HowAdd, 1, -1)
	if b.Mod != 100000 || b.Mails[1].Mod != 100000 || b.Mails[1].Flags != 1 || !impl.BoxOk(b) {
		t.Errorf("behind Mod 99999 the box is %s", boxTold(b))
	}
	wantUids(t, "SetFlags", changed, setOf(span(3, 3)))
	wantUids(t, "SetFlags (too late)", late, nil)
	// There is no Mod any more: nothing is told, of those that came too late neither.
	got, changed, late := impl.SetFlags(b, all, impl.HowAdd, 2, 19)
	wantBox(t, "SetFlags at Mod 100000", got, b)
	wantUids(t, "SetFlags at Mod 100000", changed, nil)
	wantUids(t, "SetFlags at Mod 100000 (too late)", late, nil)
	// Without a change no Mod is asked for.
	got, changed, late = impl.SetFlags(b, all, impl.HowAdd, 0, 19)
	wantBox(t, "SetFlags at Mod 100000", got, b)
	wantUids(t, "SetFlags at Mod 100000", changed, nil)
	wantUids(t, "SetFlags at Mod 100000 (too late)", late, setOf(span(3, 3), span(5, 5)))
	full := graveyard(30, 40)
	full, changed, _ = impl.SetFlags(full, all, impl.HowSet, 0, 1)
	wantUids(t, "SetFlags of 30 mails", changed, setOf(span(41, 70)))
	if full.Mod != 3 || !impl.BoxOk(full) {
		t.Errorf("a full box is %s", boxTold(full))
	}
}

func TestSetFlagsRefuses(t *testing.T) {
	all := setOf(span(1, topUid))
	refused := func(what string, b impl.Box, s []impl.Range, how int, bits int) {
		for _, since := range []int{-1, 0, 12, 100, math.MaxInt, math.MinInt} {
			got, changed, late := impl.SetFlags(b, s, how, bits, since)
			wantBox(t, "SetFlags with "+what, got, b)
			wantUids(t, "SetFlags with "+what, changed, nil)
			wantUids(t, "SetFlags with "+what+" (too late)", late, nil)
		}
	}
	for _, s := range wrongSets() {
		refused("a wrong set", someBox(), s, impl.HowSet, 2)
	}
	for _, how := range wrongHows() {
		refused("a wrong how", someBox(), all, how, 2)
	}
	for _, bits := range wrongBits() {
		for _, how := range []int{impl.HowSet, impl.HowAdd, impl.HowTake} {
			refused("wrong bits", someBox(), all, how, bits)
		}
	}
	for _, b := range changedBoxes(wrongChanges()) {
		refused("a wrong box", b, all, impl.HowSet, 2)
	}
}

func TestSetFlagsOfAllBoxes(t *testing.T) {
	for _, b := range changedBoxes(rightChanges()) {
		for _, s := range append(boxSets(), someWrongSets()...) {
			for _, how := range []int{0, 1, 2, 3, 4} {
				for _, since := range moments() {
					wantFlagsSet(t, b, s, how, 8, since)
				}
				for _, bits := range []int{0, 1, 16, 31, 32, -1} {
					wantFlagsSet(t, b, s, how, bits, 12)
				}
			}
		}
	}
}

func TestExpunge(t *testing.T) {
	expunged := func(s []impl.Range, uids []impl.Range, mails []impl.Mail, tombs ...impl.Tomb) {
		t.Helper()
		want := someBox()
		want.Mod, want.Mails, want.Tombs = 21, mails, append(want.Tombs, tombs...)
		got, gone := impl.Expunge(someBox(), s)
		wantBox(t, "Expunge", got, want)
		wantUids(t, "Expunge", gone, uids)
	}
	m := someBox().Mails
	expunged(setOf(span(1, topUid)), setOf(span(2, 2), span(5, 5), span(8, 9)), m[1:2], tomb(2, 21), tomb(5, 21), tomb(8, 21), tomb(9, 21))
	expunged(setOf(span(1, 5)), setOf(span(2, 2), span(5, 5)), []impl.Mail{m[1], m[3], m[4]}, tomb(2, 21), tomb(5, 21))
	expunged(setOf(span(9, 9)), setOf(span(9, 9)), m[:4], tomb(9, 21))
	expunged(setOf(span(2, 2)), setOf(span(2, 2)), m[1:], tomb(2, 21))
	expunged(setOf(span(3, 4), span(8, 8), span(10, 20)), setOf(span(8, 8)), []impl.Mail{m[0], m[1], m[2], m[4]}, tomb(8, 21))
}

func wantNotExpunged(t *testing.T, what string, b impl.Box, s []impl.Range) {
	t.Helper()
	got, gone := impl.Expunge(b, s)
	wantBox(t, "Expunge with "+what, got, b)
	wantUids(t, "Expunge with "+what, gone, nil)
}

func TestExpungeRefuses(t *testing.T) {
	all := setOf(span(1, topUid))
	wantNotExpunged(t, "nothing in the set", someBox(), nil)
	wantNotExpunged(t, "a mail without FlagDeleted", someBox(), setOf(span(3, 3)))
	wantNotExpunged(t, "numbers that are no mails", someBox(), setOf(span(1, 1), span(4, 4), span(6, 7), span(10, topUid)))
	for bits := range 32 {
		b := someBox()
		b.Mails = []impl.Mail{mail(2, bits, 18, "two")}
		if bits&impl.FlagDeleted == 0 {
			wantNotExpunged(t, "other flags", b, all)
		} else if _, gone := impl.Expunge(b, all); !slices.Equal(gone, setOf(span(2, 2))) {
			t.Errorf("Expunge with the flags %d takes %v", bits, gone)
		}
	}
	empty, _ := impl.BoxNew("a", 1)
	wantNotExpunged(t, "no mails", empty, all)
	for _, s := range wrongSets() {
		wantNotExpunged(t, "a wrong set", someBox(), s)
	}
	for _, b := range changedBoxes(wrongChanges()) {
		wantNotExpunged(t, "a wrong box", b, all)
		wantNotExpunged(t, "a wrong box", b, setOf(span(5, 5)))
	}
	b := someBox()
	b.Mod = 100000
	wantNotExpunged(t, "Mod 100000", b, all)
	b = graveyard(30, 40)
	b.Mod = 100000
	wantNotExpunged(t, "Mod 100000 and 40 Tombs", b, all)
	b.Mod = 99999
	b, gone := impl.Expunge(b, all)
	if b.Mod != 100000 || len(b.Tombs) != 30 || b.Horizon != 2 || !impl.BoxOk(b) {
		t.Errorf("behind Mod 99999 the box is %s", boxTold(b))
	}
	wantUids(t, "Expunge at Mod 99999", gone, setOf(span(41, 70)))
}

// Of too many Tombs those of the least Mod are gone, all of them, and again as long as there are too many.
func TestExpungeOfTooManyTombs(t *testing.T) {
	for _, c := range []struct {
		counts  []int
		takes   int
		left    int
		horizon int
	}{
		{[]int{39}, 1, 40, 0},
		{[]int{10}, 30, 40, 0},
		{[]int{10, 20}, 10, 40, 0},
		{[]int{40}, 1, 1, 2},
		{[]int{40}, 30, 30, 2},
		{[]int{11}, 30, 30, 2},
		{[]int{20, 20}, 1, 21, 2},
		{[]int{1, 39}, 1, 40, 2},
		{[]int{1, 39}, 2, 2, 3},
		{[]int{39, 1}, 1, 2, 2},
		{[]int{1, 1, 1, 37}, 1, 40, 2},
		{[]int{1, 1, 1, 37}, 2, 40, 3},
		{[]int{1, 1, 1, 37}, 3, 40, 4},
		{[]int{1, 1, 1, 37}, 4, 4, 5},
		{[]int{3, 20, 1, 16}, 3, 40, 2},
		{[]int{3, 20, 1, 16}, 4, 21, 3},
		{[]int{3, 20, 1, 16}, 23, 40, 3},
		{[]int{3, 20, 1, 16}, 24, 40, 4},
		{[]int{3, 20, 1, 16}, 25, 25, 5},
		{slices.Repeat([]int{1}, 40), 1, 40, 2},
		{slices.Repeat([]int{1}, 40), 7, 40, 8},
		{slices.Repeat([]int{1}, 40), 30, 40, 31},
		{slices.Repeat([]int{2}, 20), 3, 39, 3},
	} {
		b := graveyard(30, c.counts...)
		first := b.Mails[0].Uid
		s := setOf(span(first, first+c.takes-1))
		got, gone := impl.Expunge(b, s)
		wantUids(t, "Expunge", gone, s)
		if len(got.Tombs) != c.left || got.Horizon != c.horizon || got.Mod != b.Mod+1 || got.Next != b.Next || len(got.Mails) != 30-c.takes || !impl.BoxOk(got) {
			t.Errorf("behind Tombs %v, and %d more, the box is %s", c.counts, c.takes, boxTold(got))
		}
		whole := slices.Clone(b.Tombs)
		for uid := first; uid < first+c.takes; uid++ {
			whole = append(whole, tomb(uid, b.Mod+1))
		}
		if !slices.Equal(got.Tombs, whole[len(whole)-c.left:]) {
			t.Errorf("behind Tombs %v, and %d more, there are %v", c.counts, c.takes, got.Tombs)
		}
		wantExpunged(t, b, s)
	}
}

// A Horizon that there was, with Mods that are far apart.
func TestExpungeMovesHorizon(t *testing.T) {
	b := impl.Box{Name: "a", Valid: 1, Next: 100, Mod: 900, Horizon: 50, Mails: []impl.Mail{mail(70, 8, 1, "x"), mail(80, 8, 900, "y")}}
	for i := range 20 {
		b.Tombs = append(b.Tombs, tomb(20-i, 100+10*i))
	}
	for i := range 20 {
		b.Tombs = append(b.Tombs, tomb(i+21, 700))
	}
	one, gone := impl.Expunge(b, setOf(span(80, 80)))
	want := b
	want.Mod, want.Horizon, want.Mails, want.Tombs = 901, 100, b.Mails[:1], append(slices.Clone(b.Tombs[1:]), tomb(80, 901))
	wantBox(t, "Expunge", one, want)
	wantUids(t, "Expunge", gone, setOf(span(80, 80)))
	two, gone := impl.Expunge(one, setOf(span(1, topUid)))
	want.Mod, want.Horizon, want.Mails, want.Tombs = 902, 110, nil, append(slices.Clone(b.Tombs[2:]), tomb(80, 901), tomb(70, 902))
	wantBox(t, "Expunge", two, want)
	wantUids(t, "Expunge", gone, setOf(span(70, 70)))
}

func TestExpungeOfAllBoxes(t *testing.T) {
	for _, b := range changedBoxes(slices.Concat(rightChanges(), wrongChanges())) {
		for _, s := range append(boxSets(), someWrongSets()...) {
			wantExpunged(t, b, s)
		}
	}
}

func TestChanged(t *testing.T) {
	b := someBox()
	m := b.Mails
	for _, since := range []int{math.MinInt, -1, 0, 3} {
		wantMails(t, "Changed", impl.Changed(b, since), m)
	}
	for _, since := range []int{4, 5, 6, 11} {
		wantMails(t, "Changed", impl.Changed(b, since), []impl.Mail{m[0], m[2], m[3], m[4]})
	}
	for _, since := range []int{12, 17} {
		wantMails(t, "Changed", impl.Changed(b, since), []impl.Mail{m[0], m[2]})
	}
	for _, since := range []int{18, 19} {
		wantMails(t, "Changed", impl.Changed(b, since), m[2:3])
	}
	for _, since := range []int{20, 21, 100000, math.MaxInt} {
		wantMails(t, "Changed", impl.Changed(b, since), nil)
	}
}

// No sentence asks for a right box here: it is those whose Mod is above since, in the order of the box.
func TestChangedOfWrongBoxes(t *testing.T) {
	b := impl.Box{Mails: []impl.Mail{mail(5, 99, 7, ""), mail(-1, -1, -3, "\x00"), mail(5, 0, math.MaxInt, "b"), mail(2, 0, math.MinInt, "c"), mail(1, 0, 6, "d")}}
	m := b.Mails
	wantMails(t, "Changed", impl.Changed(b, math.MinInt), []impl.Mail{m[0], m[1], m[2], m[4]})
	wantMails(t, "Changed", impl.Changed(b, -4), []impl.Mail{m[0], m[1], m[2], m[4]})
	wantMails(t, "Changed", impl.Changed(b, -3), []impl.Mail{m[0], m[2], m[4]})
	wantMails(t, "Changed", impl.Changed(b, 6), []impl.Mail{m[0], m[2]})
	wantMails(t, "Changed", impl.Changed(b, 7), m[2:3])
	wantMails(t, "Changed", impl.Changed(b, math.MaxInt), nil)
	wantMails(t, "Changed", impl.Changed(impl.Box{}, -1), nil)
	many := impl.Box{Mails: crowd(5000, 1)}
	wantMails(t, "Changed", impl.Changed(many, 0), many.Mails)
}

func TestVanished(t *testing.T) {
	wantVanished := func(b impl.Box, since int, want []impl.Range, right bool) {
		t.Helper()
		if got, ok := impl.Vanished(b, since); !sameAnswer(got, ok, want, right) {
			t.Fatalf("Vanished(%s, %d) = %v, %v; want %v, %v", boxTold(b), since, got, ok, want, right)
		}
	}
	b := someBox()
	for _, since := range []int{math.MinInt, -1, 0, 1, 4} {
		wantVanished(b, since, nil, false)
	}
	for _, since := range []int{5, 6} {
		wantVanished(b, since, setOf(span(1, 1), span(4, 4), span(6, 7), span(11, 11)), true)
	}
	for _, since := range []int{7, 8} {
		wantVanished(b, since, setOf(span(1, 1), span(4, 4), span(7, 7), span(11, 11)), true)
	}
	for _, since := range []int{9, 14} {
		wantVanished(b, since, setOf(span(4, 4), span(11, 11)), true)
	}
	for _, since := range []int{15, 18} {
		wantVanished(b, since, setOf(span(11, 11)), true)
	}
	for _, since := range []int{19, 20, 21, 100000, math.MaxInt} {
		wantVanished(b, since, nil, true)
	}
	b.Horizon = 0
	wantVanished(b, -1, nil, false)
	wantVanished(b, 0, setOf(span(1, 1), span(4, 4), span(6, 7), span(11, 11)), true)
	far := impl.Box{Name: "a", Valid: 1, Next: 9999, Mod: 50}
	for i := range 40 {
		far.Tombs = append(far.Tombs, tomb(9998-2*i, i+2))
	}
	wantVanished(far, 0, sparse(40, 9920, 1, 1), true)
	wantVanished(far, 21, sparse(20, 9920, 1, 1), true)
	for _, wrong := range changedBoxes(wrongChanges()) {
		for _, since := range moments() {
			wantVanished(wrong, since, nil, false)
		}
	}
}

func TestChangedAndVanishedOfAllBoxes(t *testing.T) {
	for _, b := range changedBoxes(slices.Concat(rightChanges(), wrongChanges())) {
		for _, since := range moments() {
			wantTold(t, b, since)
		}
	}
}

func TestForgetTombs(t *testing.T) {
	all := someBox().Tombs
	for upto := range 21 {
		want := someBox()
		want.Horizon = max(5, upto)
		switch {
		case upto >= 19:
			want.Tombs = nil
		case upto >= 15:
			want.Tombs = all[4:]
		case upto >= 9:
			want.Tombs = all[3:]
		case upto >= 7:
			want.Tombs = all[1:]
		}
		got := impl.ForgetTombs(someBox(), upto)
		wantBox(t, "ForgetTombs", got, want)
		if !impl.BoxOk(got) {
			t.Errorf("behind ForgetTombs up to %d a box is not right: %s", upto, boxTold(got))
		}
		wantBox(t, "ForgetTombs once more", impl.ForgetTombs(got, upto), want)
		for since := range 22 {
			before, could := impl.Vanished(someBox(), since)
			uids, ok := impl.Vanished(got, since)
			if ok != (could && since >= upto) || ok && !slices.Equal(uids, before) {
				t.Errorf("Vanished since %d, all up to %d forgotten: %v, %v", since, upto, uids, ok)
			}
		}
	}
}

func TestForgetTombsRefuses(t *testing.T) {
	for _, upto := range []int{-1, -2, -100000, math.MinInt, 21, 22, 100000, 100001, math.MaxInt} {
		wantBox(t, "ForgetTombs", impl.ForgetTombs(someBox(), upto), someBox())
	}
	last := someBox()
	last.Mod = 100000
	if got := impl.ForgetTombs(last, 100000); got.Horizon != 100000 || len(got.Tombs) != 0 || !impl.BoxOk(got) {
		t.Errorf("ForgetTombs up to 100000 answers %s", boxTold(got))
	}
	wantBox(t, "ForgetTombs", impl.ForgetTombs(last, 100001), last)
	for _, b := range changedBoxes(wrongChanges()) {
		for _, upto := range moments() {
			wantBox(t, "ForgetTombs of a wrong box", impl.ForgetTombs(b, upto), b)
		}
	}
	for _, b := range changedBoxes(rightChanges()) {
		for _, upto := range moments() {
			wantForgotten(t, b, upto)
		}
	}
}

// boxLife is a box through its changes, with what it was at each Mod.
type boxLife struct {
	t     *testing.T
	r     *rand.Rand
	box   impl.Box
	was   map[int]impl.Box
	given int
}

// step makes one drawn change, and holds it against the document's rule.
func (l *boxLife) step() {
	l.t.Helper()
	lo := 1 + l.r.Intn(l.box.Next)
	s := setOf(span(max(1, lo-l.r.Intn(40)), min(topUid, lo+l.r.Intn(10))))
	if l.r.Intn(4) == 0 {
		s = setOf(span(1, topUid))
	}
	since := -1
	if l.r.Intn(2) == 0 {
		since = max(0, l.box.Mod-l.r.Intn(12))
	}
	switch l.r.Intn(10) {
	case 0, 1, 2, 3:
		was := l.box
		l.box = wantMailAdded(l.t, l.box, l.r.Intn(32), "mail")
		l.newNumber(was)
	case 4, 5, 6:
		l.box = wantFlagsSet(l.t, l.box, s, 1+l.r.Intn(3), l.r.Intn(32), since)
	case 7, 8:
		l.box = wantExpunged(l.t, l.box, s)
	case 9:
		l.box = wantForgotten(l.t, l.box, l.box.Mod-l.r.Intn(300))
	}
	l.was[l.box.Mod] = ownBox(l.box)
}

// newNumber tells when the number of the last mail was given ahead, whatever became of that mail.
func (l *boxLife) newNumber(was impl.Box) {
	l.t.Helper()
	if len(l.box.Mails) == len(was.Mails) {
		return
	}
	uid := l.box.Mails[len(l.box.Mails)-1].Uid
	if uid <= l.given {
		l.t.Fatalf("the number %d is given again", uid)
	}
	l.given = uid
}

// tellsAll holds what is told since each Mod against what the box was then: all that is another one now, and nothing else.
func (l *boxLife) tellsAll() {
	l.t.Helper()
	for since, was := range l.was {
		changed := slices.DeleteFunc(slices.Clone(l.box.Mails), func(m impl.Mail) bool { return slices.Contains(was.Mails, m) })
		wantMails(l.t, "Changed", impl.Changed(l.box, since), changed)
		uids, ok := impl.Vanished(l.box, since)
		if ok != (since >= l.box.Horizon) {
			l.t.Fatalf("Vanished(%s, %d) is %v", boxTold(l.box), since, ok)
		}
		if ok {
			wantUids(l.t, "Vanished", uids, goneSince(was, l.box))
			wantMails(l.t, "a copy that was told", caughtUp(was.Mails, impl.Changed(l.box, since), uids), l.box.Mails)
		}
	}
}

// goneSince are the Uids of mails that were there, or that came later, and that are not there now.
func goneSince(was impl.Box, is impl.Box) []impl.Range {
	var gone plainNumbers
	for _, m := range was.Mails {
		gone[m.Uid] = true
	}
	for uid := was.Next; uid < is.Next; uid++ {
		gone[uid] = true
	}
	for _, m := range is.Mails {
		gone[m.Uid] = false
	}
	return plainSet(&gone)
}

// caughtUp puts what is told onto what was.
func caughtUp(was []impl.Mail, changed []impl.Mail, vanished []impl.Range) []impl.Mail {
	byUid := map[int]impl.Mail{}
	for _, m := range append(slices.Clone(was), changed...) {
		byUid[m.Uid] = m
	}
	var list []impl.Mail
	for _, m := range byUid {
		if !inSet(vanished, m.Uid) {
			list = append(list, m)
		}
	}
	slices.SortFunc(list, func(a impl.Mail, b impl.Mail) int { return a.Uid - b.Uid })
	return list
}

func TestDrawnBoxLives(t *testing.T) {
	late := impl.Box{Name: "late", Valid: topUid, Next: 9900, Mod: 99800, Horizon: 99700}
	for seed := range 12 {
		l := &boxLife{t: t, r: rand.New(rand.NewSource(int64(seed))), was: map[int]impl.Box{}}
		l.box, _ = impl.BoxNew("inbox", 1)
		if seed%3 == 2 {
			l.box, l.given = late, 9899
		}
		l.was[l.box.Mod] = l.box
		horizons := 0
		for i := range 500 {
			horizon := l.box.Horizon
			l.step()
			if !impl.BoxOk(l.box) {
				t.Fatalf("life %d, step %d: the box is not right: %s", seed, i, boxTold(l.box))
			}
			if l.box.Horizon != horizon {
				horizons++
			}
			if i%10 == 9 {
				l.tellsAll()
			}
			if t.Failed() {
				t.Fatalf("life %d, step %d", seed, i)
			}
		}
		if horizons == 0 {
			t.Errorf("life %d: Horizon never moved", seed)
		}
		if seed%3 == 2 && l.box.Mod != topMod && l.box.Next != topUid {
			t.Errorf("life %d: the box came to no limit: Mod %d, Next %d", seed, l.box.Mod, l.box.Next)
		}
	}
}

// What is gone and forgotten leaves no room for its number.
func TestNumbersAreNotGivenAgain(t *testing.T) {
	b, _ := impl.BoxNew("inbox", 1)
	for want := 1; want <= 200; want++ {
		var uid int
		b, uid = impl.AddMail(b, impl.FlagDeleted, "x")
		if uid != want {
			t.Fatalf("the Uid is %d; want %d", uid, want)
		}
		b, _ = impl.Expunge(b, setOf(span(1, topUid)))
		if want%3 == 0 {
			b = impl.ForgetTombs(b, b.Mod)
		}
		if len(b.Mails) != 0 || b.Next != want+1 || b.Mod != 1+2*want || !impl.BoxOk(b) {
			t.Fatalf("the box is %s", boxTold(b))
		}
	}
}

func TestBoxesComeToTheirEnd(t *testing.T) {
	b := impl.Box{Name: "a", Valid: 1, Next: 9990, Mod: 99990}
	added := 0
	for range 30 {
		was := b
		var uid int
		b, uid = impl.AddMail(b, 8, "x")
		if uid == 0 {
			wantBox(t, "AddMail, refused,", b, was)
			break
		}
		added++
	}
	if added != 9 || b.Next != 9999 || b.Mod != 99999 {
		t.Fatalf("%d mails are added: %s", added, boxTold(b))
	}
	b, gone := impl.Expunge(b, setOf(span(9991, 9992)))
	wantUids(t, "Expunge", gone, setOf(span(9991, 9992)))
	wantNotExpunged(t, "Mod 100000", b, setOf(span(1, topUid)))
	b = impl.ForgetTombs(b, 100000)
	wantNoMailAdded(t, "that has come to its end", b, 0, "x")
	if b.Next != 9999 || b.Mod != 100000 || b.Horizon != 100000 || len(b.Mails) != 7 || len(b.Tombs) != 0 || !impl.BoxOk(b) {
		t.Errorf("the box is %s", boxTold(b))
	}
}

// spareBox is b with mails and Tombs in the spare room behind its lists.
func spareBox(b impl.Box) impl.Box {
	b = ownBox(b)
	b.Mails = append(b.Mails, mail(901, 1, 1, "spare"), mail(902, 8, 2, "spare"), mail(903, 8, 3, "spare"))[:len(b.Mails)]
	b.Tombs = append(b.Tombs, tomb(911, 1), tomb(912, 2), tomb(913, 3), tomb(914, 4), tomb(915, 5), tomb(916, 6))[:len(b.Tombs)]
	return b
}

func boxTexts(b impl.Box) []string {
	list := []string{b.Name}
	for _, m := range b.Mails {
		list = append(list, m.Text)
	}
	return list
}

// wantNewBox tells when the answer got has memory of b, or of another text that was handed in.
func wantNewBox(t *testing.T, what string, got impl.Box, b impl.Box, others ...string) {
	t.Helper()
	if shares(got.Mails, b.Mails) || shares(got.Tombs, b.Tombs) {
		t.Errorf("%s answers a list of its argument", what)
	}
	wantNewTexts(t, what, boxTexts(got), append(boxTexts(b), others...))
}

func wantNewTexts(t *testing.T, what string, got []string, given []string) {
	t.Helper()
	for _, part := range got {
		for _, whole := range given {
			if lies(part, whole) {
				t.Errorf("%s answers the text %.20q of its argument", what, part)
			}
		}
	}
}

func TestBoxesAnswerNewMemory(t *testing.T) {
	name, text := strings.Clone("inbox"), strings.Clone("some text")
	fresh, _ := impl.BoxNew(name, 1)
	wantNewTexts(t, "BoxNew", []string{fresh.Name}, []string{name})
	sets := append(boxSets(), someWrongSets()...)
	for _, c := range slices.Concat(rightChanges(), wrongChanges()) {
		b := someBox()
		c.do(&b)
		b = spareBox(b)
		for _, bits := range []int{0, 32} {
			got, _ := impl.AddMail(b, bits, text)
			wantNewBox(t, "AddMail", got, b, text)
		}
		for _, s := range sets {
			s = spareSet(s)
			got, changed, late := impl.SetFlags(b, s, impl.HowSet, 2, 12)
			wantNewBox(t, "SetFlags", got, b)
			if shares(changed, s) || shares(late, s) || shares(changed, late) {
				t.Errorf("SetFlags answers sets that share memory")
			}
			got, gone := impl.Expunge(b, s)
			wantNewBox(t, "Expunge", got, b)
			if shares(gone, s) {
				t.Errorf("Expunge answers the set that it was handed")
			}
		}
		for _, n := range []int{-1, 0, 5, 12, 20, 21} {
			wantNewBox(t, "ForgetTombs", impl.ForgetTombs(b, n), b)
			wantNewBox(t, "Changed", impl.Box{Mails: impl.Changed(b, n)}, b)
		}
	}
}

func TestBoxesLeaveArgumentsAlone(t *testing.T) {
	sets := append(boxSets(), someWrongSets()...)
	for _, c := range slices.Concat(rightChanges(), wrongChanges()) {
		b := someBox()
		c.do(&b)
		b = spareBox(b)
		mails, tombs := slices.Clone(b.Mails[:cap(b.Mails)]), slices.Clone(b.Tombs[:cap(b.Tombs)])
		impl.BoxOk(b)
		impl.AddMail(b, 0, "text")
		impl.AddMail(b, 32, "text")
		for _, s := range sets {
			given := spareSet(s)
			room := slices.Clone(given[:cap(given)])
			impl.SetFlags(b, given, impl.HowSet, 2, -1)
			impl.SetFlags(b, given, impl.HowAdd, 1, 12)
			impl.Expunge(b, given)
			if !slices.Equal(given[:cap(given)], room) {
				t.Errorf("the set %v is changed, or the room behind it", s)
			}
		}
		for _, n := range moments() {
			impl.Changed(b, n)
			impl.Vanished(b, n)
			impl.ForgetTombs(b, n)
		}
		if !slices.Equal(b.Mails[:cap(b.Mails)], mails) || !slices.Equal(b.Tombs[:cap(b.Tombs)], tombs) {
			t.Errorf("with %s a box is changed, or the room behind it", c.what)
		}
	}
}

// An answer of one call is not changed by the next ones that are handed it, be there room behind its lists or not.
func TestBoxesAnswersStand(t *testing.T) {
	all := setOf(span(1, topUid))
	b, _ := impl.BoxNew("inbox", 1)
	var got, copies []impl.Box
	keep := func(list ...impl.Box) {
		for _, x := range list {
			got, copies = append(got, x), append(copies, ownBox(x))
		}
	}
	for i := range 60 {
		one, _ := impl.AddMail(b, 8, "one")
		two, _ := impl.AddMail(b, 1, "two")
		three, _, _ := impl.SetFlags(two, all, impl.HowAdd, 8, two.Mod-4)
		four, _ := impl.Expunge(one, setOf(span(max(1, one.Next-3), one.Next)))
		five, _ := impl.Expunge(one, all)
		six, _ := impl.AddMail(four, 2, "six")
		seven := impl.ForgetTombs(four, max(0, four.Mod-20))
		keep(one, two, three, four, five, six, seven)
		b = []impl.Box{one, three, four, seven, three}[i%5]
	}
	for i := range got {
		wantBox(t, "a call, some calls ago,", got[i], copies[i])
	}
}
