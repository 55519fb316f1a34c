package tests

import (
	"fmt"
	"math"
	"math/rand"
	"slices"
	"strconv"
	"strings"
	"testing"

	"loop.example/g00247/impl"
)

// The document's names, told anew: what the program calls them may be wrong.
const (
	logName = "log"
	newName = "new"
)

// lifeEdits are edits of all eight kinds that are done, one behind the other, from StoreNew on.
func lifeEdits() []impl.Edit {
	return []impl.Edit{
		{Kind: edMake, Box: "work"},
		{Kind: edAdd, Box: "inbox", Bits: 1, Text: "subject: a\n"},
		{Kind: edAdd, Box: "inbox", Bits: 24, Text: "b\n\nbody"},
		{Kind: edAdd, Box: "inbox", Text: "\xff\x01"},
		{Kind: edFlag, Box: "inbox", Set: setOf(span(1, 1), span(3, 9999)), How: 2, Bits: 8, Since: -1},
		{Kind: edCopy, Box: "inbox", To: "work", Set: setOf(span(1, 2))},
		{Kind: edMove, Box: "inbox", To: "work", Set: setOf(span(2, 2))},
		{Kind: edExpunge, Box: "inbox", Set: setOf(span(2, 3))},
		{Kind: edForget, Box: "inbox", Since: 7},
		{Kind: edMake, Box: "old"},
		{Kind: edDrop, Box: "work"},
	}
}

// refusedEdits are right edits that Apply refuses behind lifeEdits: without a box, with a box that is there, with both the same, of the inbox.
func refusedEdits() []impl.Edit {
	return []impl.Edit{
		{Kind: edAdd, Box: "work", Text: "x"},
		{Kind: edDrop, Box: "none"},
		{Kind: edMake, Box: "old"},
		{Kind: edMove, Box: "old", To: "old", Set: setOf(span(1, 1))},
		{Kind: edDrop, Box: "inbox"},
		{Kind: edCopy, Box: "inbox", To: "work", Set: setOf(span(1, 9999))},
	}
}

func frameOfEdit(e impl.Edit) string { return plainFrame(plainEditText(e)) }

func framesOfEdits(list ...impl.Edit) string {
	var texts []string
	for _, e := range list {
		texts = append(texts, plainEditText(e))
	}
	return framesIn(texts...)
}

// logDisk has a log of this text, all of it kept, and nothing else.
func logDisk(text string) impl.Disk { return diskOf(file(logName, text, len(text))) }

func sameEdits(a []impl.Edit, b []impl.Edit) bool { return slices.EqualFunc(a, b, sameEdit) }

func editsTold(list []impl.Edit) string {
	line := strconv.Itoa(len(list)) + " edits"
	for i, e := range list {
		if i == 5 {
			return line + " .."
		}
		line += "\n\t" + editTold(e)
	}
	return line
}

func actsTold(list []impl.Act) string {
	line := strconv.Itoa(len(list)) + " acts"
	for _, a := range list {
		line += fmt.Sprintf(", {%d %q %.30q of %d, to %q}", a.Kind, a.Name, a.Text, len(a.Text), a.To)
	}
	return line
}

// plainLogActs is the document's rule for a right edit.
func plainLogActs(e impl.Edit) []impl.Act {
	return []impl.Act{{Kind: 1, Name: logName, Text: frameOfEdit(e)}, {Kind: 2, Name: logName}}
}

// plainAnewActs is the document's rule for a right disk and right edits.
func plainAnewActs(d impl.Disk, list []impl.Edit) []impl.Act {
	var acts []impl.Act
	for _, f := range d.Files {
		if f.Name == newName {
			acts = append(acts, impl.Act{Kind: 4, Name: newName})
		}
	}
	return append(acts, impl.Act{Kind: 1, Name: newName, Text: framesOfEdits(list...)}, impl.Act{Kind: 2, Name: newName}, impl.Act{Kind: 3, Name: newName, To: logName})
}

// plainDone is what the edits make of a new store, one behind the other.
func plainDone(list []impl.Edit) impl.Store {
	s := impl.Store{Boxes: []impl.Box{emptyBox("inbox", 1)}, Valid: 2}
	for _, e := range list {
		s, _ = plainApply(s, e)
	}
	return s
}

// plainEdits are the edits that a log of this text tells.
func plainEdits(text string) []impl.Edit {
	var list []impl.Edit
	records, _ := plainUnframe(text)
	for _, record := range records {
		if e, ok := plainReadEdit(record); ok {
			list = append(list, e)
		}
	}
	return list
}

func wantLogged(t *testing.T, e impl.Edit) []impl.Act {
	t.Helper()
	got, ok := impl.LogActs(e)
	if want := plainLogActs(e); !ok || !slices.Equal(got, want) {
		t.Fatalf("LogActs(%s) = %s, %v; want %s", editTold(e), actsTold(got), ok, actsTold(want))
	}
	return got
}

// wantRecovered holds that Recover gives these edits, and what they make of a new store.
func wantRecovered(t *testing.T, what string, d impl.Disk, list ...impl.Edit) {
	t.Helper()
	s, got := impl.Recover(d)
	if !sameEdits(got, list) {
		t.Fatalf("%s: Recover(%s) gives %s;\nwant %s", what, told(d), editsTold(got), editsTold(list))
	}
	wantStore(t, what+": Recover", s, 0, plainDone(list), 0)
}

func wantAnew(t *testing.T, d impl.Disk, list []impl.Edit) []impl.Act {
	t.Helper()
	got, ok := impl.AnewActs(d, list)
	if want := plainAnewActs(d, list); !ok || !slices.Equal(got, want) {
		t.Fatalf("AnewActs(%s, %s) = %s, %v; want %s", told(d), editsTold(list), actsTold(got), ok, actsTold(want))
	}
	return got
}

func wantNotAnew(t *testing.T, what string, d impl.Disk, list []impl.Edit) {
	t.Helper()
	if got, ok := impl.AnewActs(d, list); ok || len(got) != 0 {
		t.Fatalf("%s: AnewActs(%s, %s) = %s, %v; want nothing, false", what, told(d), editsTold(list), actsTold(got), ok)
	}
}

// doneOn is the disk behind the acts, all of which are true.
func doneOn(t *testing.T, d impl.Disk, acts []impl.Act) impl.Disk {
	t.Helper()
	got, n := impl.DoActs(d, acts)
	if n != len(acts) {
		t.Fatalf("of %s on %s just %d are true", actsTold(acts), told(d), n)
	}
	return got
}

// loggedOn is the disk on which the edits are written down, one behind the other.
func loggedOn(t *testing.T, d impl.Disk, list ...impl.Edit) impl.Disk {
	t.Helper()
	for _, e := range list {
		d = doneOn(t, d, wantLogged(t, e))
	}
	return d
}

func TestLogNames(t *testing.T) {
	if impl.NameLog != "log" || impl.NameNew != "new" {
		t.Errorf("the names are %q and %q", impl.NameLog, impl.NameNew)
	}
}

func TestLogActsBytes(t *testing.T) {
	for _, c := range []struct {
		e    impl.Edit
		text string
	}{
		{impl.Edit{Kind: 1, Box: "a"}, "\x01\x01a\x00\x00\x00\x00\x01\x00"},
		{impl.Edit{Kind: 3, Box: "inbox", Bits: 1, Text: "subject: a\n"}, "\x03\x05inbox\x00\x00\x00\x01\x01\x0bsubject: a\n"},
		{impl.Edit{Kind: 4, Box: "b", Set: setOf(span(1, 3), span(9, 9)), How: 1, Bits: 8, Since: -1}, "\x04\x01b\x00\x051:3,9\x01\x08\x00\x00"},
		{impl.Edit{Kind: 7, Box: "cd", To: "b", Set: setOf(span(10, 11))}, "\x07\x02cd\x01b\x0510:11\x00\x00\x01\x00"},
	} {
		sum := plainSum(4294967295, c.text)
		frame := string([]byte{byte(len(c.text)), byte(sum >> 24), byte(sum >> 16), byte(sum >> 8), byte(sum)}) + c.text
		want := []impl.Act{{Kind: 1, Name: "log", Text: frame}, {Kind: 2, Name: "log"}}
		if got, ok := impl.LogActs(c.e); !ok || !slices.Equal(got, want) {
			t.Errorf("LogActs(%s) = %s, %v; want %s", editTold(c.e), actsTold(got), ok, actsTold(want))
		}
	}
}

func TestLogActsOfRightEdits(t *testing.T) {
	for _, e := range slices.Concat(rightEdits(), lifeEdits(), refusedEdits(), storeEdits()) {
		d := doneOn(t, impl.Disk{}, wantLogged(t, e))
		if want := logDisk(frameOfEdit(e)); !sameDisk(d, want) || !impl.AllKept(d) {
			t.Fatalf("the acts of %s leave %s; want %s", editTold(e), told(d), told(want))
		}
		wantRecovered(t, "one edit", d, e)
	}
}

func TestLogActsOfWrongEdits(t *testing.T) {
	for _, e := range wrongEdits() {
		if got, ok := impl.LogActs(e); ok || len(got) != 0 {
			t.Fatalf("LogActs(%s) = %s, %v; want nothing, false", editTold(e), actsTold(got), ok)
		}
	}
}

// What each edit of a life leaves, told by hand.
func TestRecoverOfALife(t *testing.T) {
	list := lifeEdits()
	a, b, c := mail(1, 1, 2, "subject: a\n"), mail(2, 24, 3, "b\n\nbody"), mail(3, 0, 4, "\xff\x01")
	late, gone := mail(1, 9, 5, a.Text), mail(3, 8, 5, c.Text)
	box := func(next int, mod int, mails ...impl.Mail) impl.Box {
		return impl.Box{Name: "inbox", Valid: 1, Next: next, Mod: mod, Mails: mails}
	}
	work := func(mails ...impl.Mail) impl.Box {
		return impl.Box{Name: "work", Valid: 2, Next: len(mails) + 1, Mod: len(mails) + 1, Mails: mails}
	}
	one, two, three := mail(1, 9, 2, a.Text), mail(2, 24, 3, b.Text), mail(3, 24, 4, b.Text)
	moved, expunged, forgotten := box(4, 6, late, gone), box(4, 7, late), box(4, 7, late)
	moved.Tombs = []impl.Tomb{tomb(2, 6)}
	expunged.Tombs = []impl.Tomb{tomb(2, 6), tomb(3, 7)}
	forgotten.Horizon = 7
	want := []impl.Store{
		{Boxes: []impl.Box{box(1, 1)}, Valid: 2},
		{Boxes: []impl.Box{box(1, 1), work()}, Valid: 3},
		{Boxes: []impl.Box{box(2, 2, a), work()}, Valid: 3},
		{Boxes: []impl.Box{box(3, 3, a, b), work()}, Valid: 3},
		{Boxes: []impl.Box{box(4, 4, a, b, c), work()}, Valid: 3},
		{Boxes: []impl.Box{box(4, 5, late, b, gone), work()}, Valid: 3},
		{Boxes: []impl.Box{box(4, 5, late, b, gone), work(one, two)}, Valid: 3},
		{Boxes: []impl.Box{moved, work(one, two, three)}, Valid: 3},
		{Boxes: []impl.Box{expunged, work(one, two, three)}, Valid: 3},
		{Boxes: []impl.Box{forgotten, work(one, two, three)}, Valid: 3},
		{Boxes: []impl.Box{forgotten, emptyBox("old", 3), work(one, two, three)}, Valid: 4},
		{Boxes: []impl.Box{forgotten, emptyBox("old", 3)}, Valid: 4},
	}
	d, live := impl.Disk{}, impl.StoreNew()
	for i := range len(want) {
		if i > 0 {
			code := 0
			d = loggedOn(t, d, list[i-1])
			live, code = impl.Apply(live, list[i-1])
			wantStore(t, "Apply of "+editTold(list[i-1]), live, code, want[i], 0)
		}
		s, edits := impl.Recover(d)
		if !sameEdits(edits, list[:i]) {
			t.Fatalf("behind %d edits Recover gives %s", i, editsTold(edits))
		}
		wantStore(t, fmt.Sprintf("behind %d edits Recover", i), s, 0, want[i], 0)
	}
}

// Edits that Apply refuses are edits all the same; they change nothing, wherever they stand.
func TestRecoverOfRefusedEdits(t *testing.T) {
	life, refused := lifeEdits(), refusedEdits()
	live := plainDone(life)
	codes := map[int]int{}
	for _, e := range refused {
		got, code := impl.Apply(live, e)
		if code == 0 || !sameStore(got, live) {
			t.Fatalf("%s is not refused", editTold(e))
		}
		codes[code]++
		s, edits := impl.Recover(logDisk(framesOfEdits(append(slices.Clone(life), e)...)))
		if !sameEdits(edits, append(slices.Clone(life), e)) {
			t.Fatalf("with a refused edit behind it Recover gives %s", editsTold(edits))
		}
		wantStore(t, "Recover with a refused edit behind it", s, 0, live, 0)
	}
	if codes[codeNone] == 0 || codes[codeThere] == 0 || codes[codeBad] == 0 {
		t.Errorf("the codes are %v", codes)
	}
	all := slices.Concat(refused[3:], life, refused, refused[:2], []impl.Edit{{Kind: edAdd, Box: "old", Text: "last"}})
	wantRecovered(t, "refused edits ahead, behind and among", logDisk(framesOfEdits(all...)), all...)
}

// A box that is full refuses a mail, and takes one again behind a mail that is gone.
func TestRecoverOfAFullBox(t *testing.T) {
	add := impl.Edit{Kind: edAdd, Box: "inbox", Bits: 8, Text: "x"}
	list := slices.Repeat([]impl.Edit{add}, 32)
	list = append(list, impl.Edit{Kind: edExpunge, Box: "inbox", Set: setOf(span(7, 7))}, add, add)
	d := logDisk(framesOfEdits(list...))
	wantRecovered(t, "a full box", d, list...)
	s, _ := impl.Recover(d)
	if b := s.Boxes[0]; len(b.Mails) != 30 || b.Mails[29].Uid != 31 || b.Next != 32 || len(b.Tombs) != 1 {
		t.Errorf("the box is %s", boxTold(b))
	}
	makes := []impl.Edit{{Kind: edMake, Box: "a"}, {Kind: edMake, Box: "b"}, {Kind: edMake, Box: "c"}, {Kind: edMake, Box: "d"}, {Kind: edDrop, Box: "a"}, {Kind: edMake, Box: "d"}}
	wantRecovered(t, "a full store", logDisk(framesOfEdits(makes...)), makes...)
}

// A log that is cut at each byte: the edits that are whole come back, and no other one.
func TestRecoverOfATornEdit(t *testing.T) {
	list := lifeEdits()
	text := framesOfEdits(list...)
	for end := range len(text) + 1 {
		count := 0
		for count < len(list) && len(framesOfEdits(list[:count+1]...)) <= end {
			count++
		}
		wantRecovered(t, "a log that is cut", logDisk(text[:end]), list[:count]...)
		wantRecovered(t, "a log that is cut and not kept", diskOf(file("a", text, 0), file(logName, text[:end], 0), file(newName, text, 0)), list[:count]...)
	}
}

// Behind a torn edit nothing is read any more, be it whole or not.
func TestRecoverStopsAtTheTorn(t *testing.T) {
	list := lifeEdits()[:6]
	for i, e := range list {
		ahead, frame, behind := framesOfEdits(list[:i]...), frameOfEdit(e), framesOfEdits(list[i+1:]...)
		for cut := 1; cut < len(frame); cut++ {
			wantRecovered(t, "an edit that is torn", logDisk(ahead+frame[:cut]), list[:i]...)
			wantRecovered(t, "an edit that is torn, others behind", logDisk(ahead+frame[:cut]+behind), list[:i]...)
		}
		for at := range len(frame) {
			text := ahead + turned(frame, at, 1+at%255) + behind
			wantRecovered(t, "a byte that is turned", logDisk(text), plainEdits(text)...)
			if at >= 5 {
				wantRecovered(t, "a byte of the record that is turned", logDisk(text), list[:i]...)
			}
		}
		wantRecovered(t, "a nought between", logDisk(ahead+"\x00"+frame+behind), list[:i]...)
	}
}

// noEdits are records that are no edits.
func noEdits() []string {
	life := lifeEdits()
	add, flag := plainEditText(life[1]), plainEditText(life[4])
	return []string{
		"x", "\x00", "\xff", "some record", strings.Repeat("r", 9000), strings.Repeat("\x00", 8999), allBytes(),
		add[:len(add)-1], add[1:], add + "\x00", add + add, "\x00" + add, frameOfEdit(life[1]), turned(add, 0, 8), turned(add, 2, 128), flag[:8], flag + "x",
		"\x09" + add[1:], "\x00" + add[1:], bytesOf(life[4], "3:9999,1"), bytesOf(life[4], "1,2"), bytesOf(life[4], "*"), bytesOf(life[4], "5:5"),
		plainEditText(impl.Edit{Kind: edAdd, Box: "inbox"}), plainEditText(impl.Edit{Kind: edAdd, Box: "Inbox", Text: "x"}), plainEditText(impl.Edit{Kind: edMake, Box: "a", Since: 1}),
		plainEditText(impl.Edit{Kind: edForget, Box: "inbox", Since: 100001}), plainEditText(impl.Edit{Kind: edFlag, Box: "inbox", How: 4}), plainEditText(impl.Edit{Kind: edAdd, Box: "inbox", Bits: 32, Text: "x"}),
	}
}

// A frame that is whole but no edit is passed over, ahead of those that are, among them and behind them.
func TestRecoverPassesOverWhatIsNoEdit(t *testing.T) {
	list := lifeEdits()
	for _, record := range noEdits() {
		frame := plainFrame(record)
		wantRecovered(t, "a record that is no edit", logDisk(frame))
		for at := range len(list) + 1 {
			text := framesOfEdits(list[:at]...) + frame + framesOfEdits(list[at:]...)
			wantRecovered(t, fmt.Sprintf("%.20q at %d", record, at), logDisk(text), list...)
			// What is torn behind it ends the log as ever.
			wantRecovered(t, fmt.Sprintf("%.20q at %d, and torn", record, at), logDisk(framesOfEdits(list[:at]...)+frame+frame[:len(frame)-1]), list[:at]...)
		}
	}
	text := ""
	for i, record := range noEdits() {
		if len(record) < 1000 {
			text += plainFrame(record) + frameOfEdit(list[i%2+1]) + plainFrame(record)
		}
	}
	wantRecovered(t, "many records that are no edits", logDisk(text), plainEdits(text)...)
	if got := plainEdits(text); len(got) < 20 {
		t.Errorf("just %s are among them", editsTold(got))
	}
}

// The file is found by its whole name, among whatever others; how much of it is kept does not count.
func TestRecoverOfDisks(t *testing.T) {
	list := lifeEdits()
	text, other := framesOfEdits(list...), framesOfEdits(list[:2]...)
	wantRecovered(t, "a disk without files", impl.Disk{})
	wantRecovered(t, "a disk without files", impl.Disk{Files: []impl.File{}})
	wantRecovered(t, "a log without anything", logDisk(""))
	for _, d := range rightDisks() {
		wantRecovered(t, "a disk without a log", d)
	}
	beside := []impl.File{file("Log", other, 3), file("l", other, 0), file("lo", other, 0), file("lof", other, 1)}
	behind := []impl.File{file("log ", other, 0), file("log\x00", other, 0), file("logs", other, 2), file("new", other, len(other)), file("old", other, 0)}
	byName := func(a impl.File, b impl.File) int { return strings.Compare(a.Name, b.Name) }
	files := slices.SortedFunc(slices.Values(slices.Concat(beside, behind)), byName)
	wantRecovered(t, "names like that of the log", diskOf(files...))
	for _, kept := range []int{0, 1, 20, len(text) - 1, len(text)} {
		wantRecovered(t, "a log alone", diskOf(file(logName, text, kept)), list...)
		with := slices.SortedFunc(slices.Values(append(slices.Clone(files), file(logName, text, kept))), byName)
		wantRecovered(t, "a log among others", diskOf(with...), list...)
	}
	most := append(manyFiles(29), file(logName, text, 0))
	wantRecovered(t, "a log on a full disk", diskOf(most...), list...)
}

// filling are edits whose frames take just so many bytes.
func filling(t *testing.T, size int) []impl.Edit {
	t.Helper()
	var list []impl.Edit
	e := impl.Edit{Kind: edAdd, Box: "inbox", Text: strings.Repeat("x", 100)}
	rest := size
	for rest >= 2*len(frameOfEdit(e)) {
		list, rest = append(list, e), rest-len(frameOfEdit(e))
	}
	for last := "x"; len(last) <= 200; last += "x" {
		e.Text = last
		if len(frameOfEdit(e)) == rest {
			return append(list, e)
		}
	}
	t.Fatalf("no edit takes the last %d of %d bytes", rest, size)
	return nil
}

// A log of as many bytes as a file may have, and of as many edits as these may tell.
func TestRecoverOfTheLongestLog(t *testing.T) {
	for _, size := range []int{19999, 20000} {
		list := filling(t, size)
		wantRecovered(t, "a long log", logDisk(framesOfEdits(list...)), list...)
	}
	shortest := impl.Edit{Kind: edForget, Box: "a"}
	list := slices.Repeat([]impl.Edit{shortest}, 20000/len(frameOfEdit(shortest)))
	text := framesOfEdits(list...)
	wantRecovered(t, "a log of short edits", logDisk(text), list...)
	wantRecovered(t, "a log of short edits, torn", logDisk(text+frameOfEdit(shortest)[:20000-len(text)]), list...)
	s, edits := impl.Recover(logDisk(framesOfEdits(filling(t, 20001)...)))
	wantStore(t, "Recover of a log that is too long", s, 0, plainDone(nil), 0)
	if len(edits) != 0 {
		t.Errorf("a log that is too long gives %s", editsTold(edits))
	}
}

func boolNumber(b bool) int {
	if b {
		return 1
	}
	return 0
}

// diskChange is what makes another list of files of one.
type diskChange struct {
	what string
	do   func(files []impl.File) []impl.File
}

// filesWithLog are files with a log of that text among them.
func filesWithLog(text string) []impl.File {
	return []impl.File{file("aa", "ahead", 2), file(logName, text, len(text)-1), file(newName, text[:len(text)/2], 3), file("zz", "", 0)}
}

// wrongDiskChanges make one field of one file wrong, or the list of them.
func wrongDiskChanges() []diskChange {
	var list []diskChange
	for at := range 4 {
		put := func(what string, do func(f *impl.File)) {
			list = append(list, diskChange{fmt.Sprintf("%s at %d", what, at), func(files []impl.File) []impl.File {
				do(&files[at])
				return files
			}})
		}
		for _, kept := range []int{-1, -2, math.MinInt, math.MaxInt} {
			put("Kept "+strconv.Itoa(kept), func(f *impl.File) { f.Kept = kept })
		}
		put("Kept beyond", func(f *impl.File) { f.Kept = len(f.Text) + 1 })
		put("Text too long", func(f *impl.File) { f.Text += strings.Repeat("t", 20001-len(f.Text)) })
		put("no Name", func(f *impl.File) { f.Name = "" })
		put("Name too long", func(f *impl.File) { f.Name += "3456789" })
		put("Name that is there", func(f *impl.File) {
			if f.Name = logName; at == 1 {
				f.Name = newName
			}
		})
		put("Name out of its order", func(f *impl.File) { f.Name = []string{"m", "zzz", "b", "b"}[at] })
	}
	twice := func(files []impl.File) []impl.File { return slices.Insert(files, 1, files[1]) }
	about := func(files []impl.File) []impl.File { slices.Reverse(files); return files }
	many := func(files []impl.File) []impl.File {
		for i := range 27 {
			files = append(files, file("zz"+strconv.Itoa(100+i), "", 0))
		}
		return files
	}
	return append(list, diskChange{"a log twice", twice}, diskChange{"turned about", about}, diskChange{"31 files", many})
}

func TestLogOfWrongDisks(t *testing.T) {
	list := lifeEdits()
	text := framesOfEdits(list...)
	right := diskOf(filesWithLog(text)...)
	wantRecovered(t, "a right disk", right, list...)
	wantAnew(t, right, list)
	many := slices.DeleteFunc(wrongDiskChanges(), func(c diskChange) bool { return c.what != "31 files" })[0].do(filesWithLog(text))
	wantRecovered(t, "30 files", diskOf(many[:30]...), list...)
	wantAnew(t, diskOf(many[:30]...), list)
	disks := map[string]impl.Disk{}
	for _, c := range wrongDiskChanges() {
		disks[c.what] = diskOf(c.do(filesWithLog(text))...)
	}
	for i, d := range wrongDisks() {
		disks["wrong disk "+strconv.Itoa(i)] = d
		d.Files = append(slices.Clone(d.Files), file(logName, text, 0))
		disks["wrong disk with a log "+strconv.Itoa(i)] = d
	}
	for what, d := range disks {
		s, edits := impl.Recover(d)
		if !sameStore(s, impl.Store{Boxes: []impl.Box{emptyBox("inbox", 1)}, Valid: 2}) || len(edits) != 0 {
			t.Errorf("%s: Recover(%s) gives %s and %s", what, told(d), storeTold(s), editsTold(edits))
		}
		wantNotAnew(t, what, d, nil)
		wantNotAnew(t, what, d, list)
		wantNotAnew(t, what, d, append(slices.Clone(list), impl.Edit{}))
	}
}

// anewDisks are right disks with and without a log and what AnewActs may find in its way.
func anewDisks(text string) []impl.Disk {
	return []impl.Disk{
		{},
		logDisk(""),
		logDisk(text),
		diskOf(file(logName, text, 0)),
		diskOf(file(newName, "", 0)),
		diskOf(file(newName, "some rest", 0)),
		diskOf(file(newName, text, len(text))),
		diskOf(file(logName, text, len(text)), file(newName, "", 0)),
		diskOf(file(logName, text, len(text)), file(newName, "some rest", 4)),
		diskOf(file(logName, text, 5), file(newName, text, 0)),
		diskOf(file("New", "a", 0), file(logName, text, 5), file("ne", "b", 1), file("new ", text, 0), file("news", "", 0)),
		diskOf(file("New", "a", 0), file(logName, text, 5), file("ne", "b", 1), file("new", text, 0), file("new ", "", 0), file("news", "c", 0)),
		diskOf(append(manyFiles(28), file(logName, text, len(text)))...),
		diskOf(append(manyFiles(28), file(logName, text, len(text)), file(newName, text, 0))...),
		diskOf(filesWithLog(text)...),
	}
}

func TestAnewActs(t *testing.T) {
	life := lifeEdits()
	text := framesOfEdits(life[:5]...)
	lists := [][]impl.Edit{nil, {}, life[:1], life[:3], life, refusedEdits(), slices.Concat(life, refusedEdits()), storeEdits()[:300]}
	for _, d := range anewDisks(text) {
		for _, list := range lists {
			acts := wantAnew(t, d, list)
			if count := 3 + boolNumber(slices.ContainsFunc(d.Files, func(f impl.File) bool { return f.Name == newName })); len(acts) != count {
				t.Fatalf("on %s there are %s", told(d), actsTold(acts))
			}
			got := doneOn(t, d, acts)
			want := slices.DeleteFunc(slices.Clone(d.Files), func(f impl.File) bool { return f.Name == newName || f.Name == logName })
			anew := framesOfEdits(list...)
			want = append(want, file(logName, anew, len(anew)))
			slices.SortFunc(want, func(a impl.File, b impl.File) int { return strings.Compare(a.Name, b.Name) })
			if !sameDisk(got, diskOf(want...)) {
				t.Fatalf("the acts leave %s; want %s", told(got), told(diskOf(want...)))
			}
			wantRecovered(t, "a log anew", got, list...)
		}
	}
	for _, e := range rightEdits() {
		acts := wantAnew(t, logDisk(text), []impl.Edit{life[0], e, life[1]})
		wantRecovered(t, "a log anew", doneOn(t, logDisk(text), acts), life[0], e, life[1])
	}
}

// What a log tells is the same when it is made anew of it, again and again; what is torn or no edit is gone then.
func TestAnewOfWhatIsRecovered(t *testing.T) {
	list := slices.Concat(refusedEdits()[:2], lifeEdits(), refusedEdits())
	frames := framesOfEdits(list...)
	for _, text := range []string{frames, frames + "x", frames + frames[:10], plainFrame("none") + frames + plainFrame("none"), frames + "\x00" + frames} {
		d := logDisk(text)
		for range 3 {
			s, edits := impl.Recover(d)
			wantStore(t, "Recover", s, 0, plainDone(list), 0)
			d = doneOn(t, d, wantAnew(t, d, edits))
			if !sameDisk(d, logDisk(frames)) {
				t.Fatalf("the log anew is %s", told(d))
			}
		}
		wantRecovered(t, "an edit behind a log anew", loggedOn(t, d, list[3]), append(slices.Clone(list), list[3])...)
	}
}

// Acts are told even where the disk has no room for them: they are false when they are done, and the old log stays.
func TestAnewActsWithoutRoom(t *testing.T) {
	old := lifeEdits()[:3]
	text := framesOfEdits(old...)
	full, over := filling(t, 20000), filling(t, 20001)
	for _, d := range anewDisks(text) {
		wantRecovered(t, "a log of as many bytes as there may be", doneOn(t, d, wantAnew(t, d, full)), full...)
		for _, list := range [][]impl.Edit{over, slices.Concat(full, full[:1]), slices.Repeat(full, 2)} {
			acts := wantAnew(t, d, list)
			got, n := impl.DoActs(d, acts)
			if n != len(acts)-3 {
				t.Fatalf("%d acts of %s are true", n, actsTold(acts))
			}
			wantRecovered(t, "a log anew that is too long", got, plainEdits(logOf(d))...)
		}
	}
	crowded := diskOf(append(manyFiles(29), file(logName, text, len(text)))...)
	got, n := impl.DoActs(crowded, wantAnew(t, crowded, full[:2]))
	if n != 0 {
		t.Errorf("on a full disk %d acts are true", n)
	}
	wantRecovered(t, "a full disk", got, old...)
}

func logOf(d impl.Disk) string {
	for _, f := range d.Files {
		if f.Name == logName {
			return f.Text
		}
	}
	return ""
}

func TestAnewActsOfWrongEdits(t *testing.T) {
	life := lifeEdits()
	disks := anewDisks(framesOfEdits(life...))
	for i, wrong := range wrongEdits() {
		d := disks[i%len(disks)]
		wantNotAnew(t, "a wrong edit alone", d, []impl.Edit{wrong})
		wantNotAnew(t, "a wrong edit ahead", d, append([]impl.Edit{wrong}, life...))
		wantNotAnew(t, "a wrong edit behind", d, append(slices.Clone(life), wrong))
		wantNotAnew(t, "a wrong edit among others", d, slices.Insert(slices.Clone(life), 1+i%9, wrong))
		if i%50 == 0 {
			wantNotAnew(t, "wrong edits alone", d, []impl.Edit{wrong, wrong})
		}
	}
}

// Whenever the power goes while an edit is written down, and whatever it leaves: what was done ahead is done again, and the edit wholly or not at all.
func TestPowerGoesWhileAnEditIsWritten(t *testing.T) {
	list := lifeEdits()
	for _, files := range [][]impl.File{nil, {file("aa", "beside", 2)}, {file("aa", "beside", 0), file(newName, "rest", 1)}} {
		d, place := diskOf(files...), min(1, len(files))
		for i, e := range list {
			acts := wantLogged(t, e)
			ahead := len(framesOfEdits(list[:i]...))
			all := ahead + len(frameOfEdit(e))
			for whole := range 3 {
				for left := -1; left <= all+1; left++ {
					lost, ok := impl.CutActs(d, acts, whole, []int{left, left, left}[:place+1])
					if !ok {
						t.Fatalf("CutActs behind %d is false", whole)
					}
					count := i + boolNumber(whole == 2 || whole == 1 && left >= all)
					wantRecovered(t, fmt.Sprintf("the power goes behind %d acts of edit %d and leaves %d bytes", whole, i, left), lost, list[:count]...)
				}
				lost, _ := impl.CutActs(d, acts, whole, nil)
				wantRecovered(t, fmt.Sprintf("the power goes behind %d acts of edit %d", whole, i), lost, list[:i+boolNumber(whole == 2)]...)
			}
			d = doneOn(t, d, acts)
		}
	}
}

// Behind a fall that tore an edit the log is made anew, and what is written down then is not lost behind what was torn.
func TestEditsBehindATornOne(t *testing.T) {
	list := lifeEdits()
	for i := range len(list) - 1 {
		d := loggedOn(t, impl.Disk{}, list[:i]...)
		frame := frameOfEdit(list[i])
		for left := range len(frame) {
			lost, ok := impl.CutActs(d, wantLogged(t, list[i]), 1, []int{len(framesOfEdits(list[:i]...)) + left})
			if !ok {
				t.Fatal("CutActs is false")
			}
			_, edits := impl.Recover(lost)
			anew := doneOn(t, lost, wantAnew(t, lost, edits))
			wantRecovered(t, "behind a torn edit, done once more,", loggedOn(t, anew, list[i:]...), list...)
		}
	}
}

// Whenever the power goes while the log is made anew, and whatever it leaves: it is the old log or the new one, and it can be made anew once more.
func TestPowerGoesWhileTheLogIsMadeAnew(t *testing.T) {
	life := lifeEdits()
	old, list := life[:6], slices.Concat(life[:2], refusedEdits()[:1], life[3:5])
	text, anew := framesOfEdits(old...), framesOfEdits(list...)
	for _, files := range [][]impl.File{
		nil,
		{file(newName, "", 0)},
		{file(newName, "some rest", 4)},
		{file(newName, anew[:len(anew)-1], len(anew)-1)},
		{file(newName, framesOfEdits(life[7:]...), 0)},
		{file("zz", "beside", 3)},
	} {
		d := diskOf(append([]impl.File{file(logName, text, len(text))}, files...)...)
		acts := wantAnew(t, d, list)
		for whole := range len(acts) + 1 {
			for left := -1; left <= len(anew)+1; left++ {
				lost, ok := impl.CutActs(d, acts, whole, []int{left, left, left})
				if !ok {
					t.Fatalf("CutActs behind %d is false", whole)
				}
				want := old
				if whole == len(acts) {
					want = list
				}
				what := fmt.Sprintf("the power goes behind %d of %s and leaves %d bytes", whole, actsTold(acts), left)
				wantRecovered(t, what, lost, want...)
				again := doneOn(t, lost, wantAnew(t, lost, list))
				if anewLog := logOf(again); anewLog != anew {
					t.Fatalf("%s; made anew once more the log is %.40q of %d", what, anewLog, len(anewLog))
				}
			}
		}
	}
}

// drawnLife is a life on a disk, and beside it the edits of which it is known that they were written down.
type drawnLife struct {
	t     *testing.T
	r     *rand.Rand
	disk  impl.Disk
	known []impl.Edit
	falls int
}

// left draws how many bytes the power leaves of each file.
func (l *drawnLife) left() []int {
	list := make([]int, l.r.Intn(5))
	for i := range list {
		if size := 1; i < len(l.disk.Files) {
			size += len(l.disk.Files[i].Text)
			list[i] = size + 2 - l.r.Intn(1<<l.r.Intn(9))
		}
	}
	return list
}

// write writes the edit down, or lets the power go on the way: the edit is there then, if it was kept, and else may be.
func (l *drawnLife) write(e impl.Edit) {
	acts := wantLogged(l.t, e)
	behind := append(slices.Clone(l.known), e)
	if l.r.Intn(4) > 0 {
		if d, n := impl.DoActs(l.disk, acts); n == 2 {
			l.disk, l.known = d, behind
		}
		return
	}
	whole := l.r.Intn(3)
	lost, ok := impl.CutActs(l.disk, acts, whole, l.left())
	if !ok {
		return
	}
	l.disk = lost
	if whole == 2 {
		l.known = behind
	}
	l.rise(behind)
}

// rise is what comes behind a fall: the log tells what is known, or that and what was on the way, and is made anew; the power may go meanwhile.
func (l *drawnLife) rise(behind []impl.Edit) {
	l.falls++
	if _, edits := impl.Recover(l.disk); !sameEdits(edits, l.known) {
		l.known = behind
	}
	wantRecovered(l.t, "behind a fall", l.disk, l.known...)
	for {
		acts := wantAnew(l.t, l.disk, l.known)
		if l.r.Intn(3) > 0 {
			l.disk = doneOn(l.t, l.disk, acts)
			return
		}
		l.falls++
		lost, ok := impl.CutActs(l.disk, acts, l.r.Intn(len(acts)+1), l.left())
		if !ok {
			l.t.Fatalf("CutActs of %s is false", actsTold(acts))
		}
		l.disk = lost
		wantRecovered(l.t, "behind a fall while the log was made anew", l.disk, l.known...)
	}
}

func TestDrawnLogs(t *testing.T) {
	for seed := range 25 {
		l := drawnLife{t: t, r: rand.New(rand.NewSource(int64(seed)))}
		if seed%2 == 1 {
			l.disk = diskOf(file("aa", "beside", 3), file("zz", "", 0))
		}
		for range 80 {
			if e := drawnStoreEdit(l.r); plainEditOk(e) {
				l.write(e)
			} else if got, ok := impl.LogActs(e); ok || len(got) != 0 {
				t.Fatalf("LogActs(%s) = %s, %v", editTold(e), actsTold(got), ok)
			}
		}
		wantRecovered(t, "a drawn life", l.disk, l.known...)
		if len(l.known) < 30 || l.falls < 5 {
			t.Errorf("in the life %d there are just %d edits and %d falls", seed, len(l.known), l.falls)
		}
	}
}

// Logs of drawn bytes, and of right ones that are spoilt.
func TestRecoverOfSpoiltLogs(t *testing.T) {
	r := rand.New(rand.NewSource(41))
	counts := map[bool]int{}
	for range 1500 {
		var list []impl.Edit
		text := ""
		for range 1 + r.Intn(8) {
			if e := drawnStoreEdit(r); plainEditOk(e) {
				list = append(list, e)
				text += frameOfEdit(e)
			}
			if r.Intn(4) == 0 {
				text += plainFrame("r" + drawnText(r, r.Intn(12)))
			}
		}
		wantRecovered(t, "a drawn log", logDisk(text), list...)
		text = spoilt(r, text)
		edits := plainEdits(text)
		counts[len(edits) == len(list)]++
		wantRecovered(t, "a spoilt log", logDisk(text), edits...)
		noise := drawnText(r, r.Intn(30))
		wantRecovered(t, "drawn bytes", logDisk(noise), plainEdits(noise)...)
	}
	if counts[true] == 0 || counts[false] < 500 {
		t.Errorf("of the spoilt logs %d tell all, %d do not", counts[true], counts[false])
	}
}

// spareEdits is the list in memory of its own, with edits in the spare room behind it, and room behind their sets.
func spareEdits(list []impl.Edit) []impl.Edit {
	var out []impl.Edit
	for _, e := range append(slices.Clone(list), someEdits()...) {
		out = append(out, spareEdit(e))
	}
	return out[:len(list)]
}

func textsOfEdits(list []impl.Edit) []string {
	var texts []string
	for _, e := range list {
		texts = append(texts, editTexts(e)...)
	}
	return texts
}

func textsOfActs(list []impl.Act) []string {
	var texts []string
	for _, a := range list {
		texts = append(texts, a.Name, a.Text, a.To)
	}
	return texts
}

func TestLogActsAnswerNewMemory(t *testing.T) {
	disks := anewDisks(framesOfEdits(lifeEdits()...))
	for i, e := range slices.Concat(rightEdits(), lifeEdits()) {
		e = spareEdit(e)
		acts, _ := impl.LogActs(e)
		wantNewTexts(t, "LogActs", textsOfActs(acts), editTexts(e))
		again, _ := impl.LogActs(e)
		if shares(acts, again) {
			t.Fatal("two answers of LogActs share memory")
		}
		d := spareDisk(ownDisk(disks[i%len(disks)]))
		for _, list := range [][]impl.Edit{nil, spareEdits([]impl.Edit{e}), spareEdits(append(lifeEdits(), e))} {
			acts, _ := impl.AnewActs(d, list)
			wantNewTexts(t, "AnewActs", textsOfActs(acts), append(textsOfEdits(list), textsOf(d)...))
			again, _ := impl.AnewActs(d, list)
			if shares(acts, again) {
				t.Fatal("two answers of AnewActs share memory")
			}
		}
	}
}

// Beside the argument, the store that is answered and the edits share nothing with each other.
func TestRecoverAnswersNewMemory(t *testing.T) {
	list := slices.Concat(lifeEdits(), lifeEdits(), refusedEdits(), someEdits())
	text := framesOfEdits(list...)
	for _, d := range append(anewDisks(text), logDisk(plainFrame("x")+text+"y"), diskOf(file(logName, text, -1))) {
		d = spareDisk(ownDisk(d))
		s, edits := impl.Recover(d)
		wantNewStore(t, "Recover", s, impl.Store{})
		wantNewTexts(t, "Recover", textsOfEdits(edits), textsOf(d))
		for _, b := range s.Boxes {
			wantNewTexts(t, "Recover", boxTexts(b), append(textsOfEdits(edits), textsOf(d)...))
			wantNewTexts(t, "Recover", textsOfEdits(edits), boxTexts(b))
		}
		other, more := impl.Recover(d)
		if shares(edits, more) {
			t.Fatal("two answers of Recover share their edits")
		}
		wantNewStore(t, "Recover once more", other, s)
		for i, e := range edits {
			for j := range more {
				if shares(e.Set, more[j].Set) || i != j && shares(e.Set, edits[j].Set) {
					t.Fatal("two edits of Recover share a set")
				}
			}
		}
	}
}

func TestLogsLeaveArgumentsAlone(t *testing.T) {
	text := framesOfEdits(lifeEdits()...)
	disks := append(anewDisks(text), wrongDisks()...)
	for _, c := range wrongDiskChanges() {
		disks = append(disks, diskOf(c.do(filesWithLog(text))...))
	}
	wrong := wrongEdits()
	for i, d := range disks {
		d = spareDisk(ownDisk(d))
		before := slices.Clone(d.Files[:cap(d.Files)])
		for _, list := range [][]impl.Edit{nil, lifeEdits(), rightEdits()[i : i+30], wrong[9*i : 9*i+9], append(lifeEdits(), wrong[i])} {
			list = spareEdits(list)
			var room []impl.Edit
			for _, e := range list[:cap(list)] {
				e.Set = slices.Clone(e.Set[:cap(e.Set)])
				room = append(room, e)
			}
			impl.Recover(d)
			impl.AnewActs(d, list)
			for _, e := range list {
				impl.LogActs(e)
			}
			for at, e := range list[:cap(list)] {
				e.Set = e.Set[:cap(e.Set)]
				if !sameEdit(e, room[at]) {
					t.Fatalf("the edit %s is changed, or the room behind it", editTold(e))
				}
			}
		}
		if !slices.Equal(d.Files[:cap(d.Files)], before) {
			t.Fatalf("the disk %s is changed, or the room behind it", told(d))
		}
	}
}

// An answer of one call is not changed by the next ones, nor by what becomes of another answer; nothing is kept between them.
func TestLogsAnswersStand(t *testing.T) {
	list := lifeEdits()
	d := logDisk(framesOfEdits(list...))
	first, edits := impl.Recover(d)
	acts, _ := impl.AnewActs(d, edits)
	one, _ := impl.LogActs(list[4])
	spoil, others := impl.Recover(d)
	for i := range others {
		others[i].Box = "changed"
		for at := range others[i].Set {
			others[i].Set[at] = span(77, 78)
		}
	}
	for i := range spoil.Boxes {
		for at := range spoil.Boxes[i].Mails {
			spoil.Boxes[i].Mails[at].Text = "changed"
		}
		spoil.Boxes[i].Name = "changed"
	}
	more, _ := impl.AnewActs(impl.Disk{}, list[:2])
	two, _ := impl.LogActs(list[1])
	more[0], two[0] = impl.Act{}, impl.Act{}
	impl.Recover(logDisk("torn"))
	impl.LogActs(impl.Edit{})
	if !sameEdits(edits, list) || !slices.Equal(acts, plainAnewActs(d, list)) || !slices.Equal(one, plainLogActs(list[4])) {
		t.Errorf("the answers are now %s, %s, %s", editsTold(edits), actsTold(acts), actsTold(one))
	}
	wantStore(t, "Recover, some calls ago,", first, 0, plainDone(list), 0)
	wantRecovered(t, "once more", d, list...)
}
