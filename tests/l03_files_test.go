package tests

import (
	"math"
	"math/rand"
	"slices"
	"strconv"
	"strings"
	"testing"
	"unsafe"

	"loop.example/g00247/impl"
)

func diskOf(files ...impl.File) impl.Disk { return impl.Disk{Files: files} }

func file(name string, text string, kept int) impl.File {
	return impl.File{Name: name, Text: text, Kept: kept}
}

func addAct(name string, text string) impl.Act {
	return impl.Act{Kind: impl.ActAdd, Name: name, Text: text}
}

func keepAct(name string) impl.Act { return impl.Act{Kind: impl.ActKeep, Name: name} }

func moveAct(name string, to string) impl.Act {
	return impl.Act{Kind: impl.ActMove, Name: name, To: to}
}

func dropAct(name string) impl.Act { return impl.Act{Kind: impl.ActDrop, Name: name} }

// manyFiles are count files with names that ascend.
func manyFiles(count int) []impl.File {
	var list []impl.File
	for i := range count {
		list = append(list, file("f"+strconv.Itoa(100+i), "text", i%5))
	}
	return list
}

func sameDisk(a impl.Disk, b impl.Disk) bool { return slices.Equal(a.Files, b.Files) }

// told is a disk in few words.
func told(d impl.Disk) string {
	var parts []string
	for i, f := range d.Files {
		if i == 6 {
			parts = append(parts, "..")
			break
		}
		text := f.Text
		if len(text) > 12 {
			text = text[:12] + ".. of " + strconv.Itoa(len(f.Text))
		}
		parts = append(parts, strconv.Quote(f.Name)+" "+strconv.Quote(text)+" "+strconv.Itoa(f.Kept))
	}
	return "[" + strings.Join(parts, ", ") + "] of " + strconv.Itoa(len(d.Files))
}

func wantAct(t *testing.T, d impl.Disk, a impl.Act, want impl.Disk) {
	t.Helper()
	got, ok := impl.DoAct(d, a)
	if !ok || !sameDisk(got, want) {
		t.Errorf("DoAct(%s, %d %q %.12q %q) = %s, %v; want %s", told(d), a.Kind, a.Name, a.Text, a.To, told(got), ok, told(want))
	}
	if !impl.DiskOk(got) {
		t.Errorf("DoAct(%s, %d %q) is not right: %s", told(d), a.Kind, a.Name, told(got))
	}
}

func wantNoAct(t *testing.T, d impl.Disk, a impl.Act) {
	t.Helper()
	if got, ok := impl.DoAct(d, a); ok || got.Files != nil {
		t.Errorf("DoAct(%s, %d %q %.12q %q) = %s, %v; want a false", told(d), a.Kind, a.Name, a.Text, a.To, told(got), ok)
	}
}

func wantLost(t *testing.T, d impl.Disk, left []int, want impl.Disk) {
	t.Helper()
	got, ok := impl.LoseDisk(d, left)
	if !ok || !sameDisk(got, want) || !impl.AllKept(got) {
		t.Errorf("LoseDisk(%s, %v) = %s, %v; want %s", told(d), left, told(got), ok, told(want))
	}
}

func wantCut(t *testing.T, d impl.Disk, list []impl.Act, whole int, left []int, want impl.Disk) {
	t.Helper()
	got, ok := impl.CutActs(d, list, whole, left)
	if !ok || !sameDisk(got, want) || !impl.AllKept(got) {
		t.Errorf("CutActs(%s, of %d, %d, %v) = %s, %v; want %s", told(d), len(list), whole, left, told(got), ok, told(want))
	}
}

func wantNoCut(t *testing.T, d impl.Disk, list []impl.Act, whole int, left []int) {
	t.Helper()
	if got, ok := impl.CutActs(d, list, whole, left); ok || got.Files != nil {
		t.Errorf("CutActs(%s, of %d, %d, %v) = %s, %v; want a false", told(d), len(list), whole, left, told(got), ok)
	}
}

func wantActs(t *testing.T, d impl.Disk, list []impl.Act, want impl.Disk, count int) {
	t.Helper()
	got, n := impl.DoActs(d, list)
	if n != count || !sameDisk(got, want) {
		t.Errorf("DoActs(%s, of %d) = %s, %d; want %s, %d", told(d), len(list), told(got), n, told(want), count)
	}
}

// rightDisks are disks at the limits and within them.
func rightDisks() []impl.Disk {
	most := strings.Repeat("t", impl.MaxText)
	return []impl.Disk{
		{},
		{Files: []impl.File{}},
		diskOf(file("a", "", 0)),
		diskOf(file("a", "123", 0)),
		diskOf(file("a", "123", 1)),
		diskOf(file("a", "123", 3)),
		diskOf(file("12345678", "x", 1)),
		diskOf(file("\x00", "", 0), file("\x00\x00", "", 0), file("\x7f", "", 0), file("\x80", "", 0), file("\xff", "", 0)),
		diskOf(file("A", "", 0), file("Z", "", 0), file("a", "", 0)),
		diskOf(file("a", "", 0), file("a\x00", "", 0), file("aa", "", 0), file("b", "", 0)),
		diskOf(file("10", "", 0), file("9", "", 0)),
		diskOf(file("a", most, 0), file("b", most, impl.MaxText), file("c", allBytes(), 7)),
		diskOf(manyFiles(impl.MaxFiles - 1)...),
		diskOf(manyFiles(impl.MaxFiles)...),
	}
}

// wrongDisks are disks that are not right, each for one cause.
func wrongDisks() []impl.Disk {
	over := strings.Repeat("t", impl.MaxText+1)
	return []impl.Disk{
		diskOf(manyFiles(impl.MaxFiles + 1)...),
		diskOf(manyFiles(3 * impl.MaxFiles)...),
		diskOf(file("", "", 0)),
		diskOf(file("", "", 0), file("a", "", 0)),
		diskOf(file("123456789", "", 0)),
		diskOf(file("a", "", 0), file("b23456789", "", 0), file("c", "", 0)),
		diskOf(file("a", over, 0)),
		diskOf(file("a", "", 0), file("b", over, impl.MaxText+1)),
		diskOf(file("a", "123", 4)),
		diskOf(file("a", "123", -1)),
		diskOf(file("a", "", 1)),
		diskOf(file("a", "", math.MinInt)),
		diskOf(file("a", "", math.MaxInt)),
		diskOf(file("a", "1", 1), file("b", "1", 2)),
		diskOf(file("b", "", 0), file("a", "", 0)),
		diskOf(file("a", "", 0), file("a", "", 0)),
		diskOf(file("a", "1", 1), file("b", "2", 1), file("b", "3", 1), file("c", "4", 1)),
		diskOf(file("a", "", 0), file("c", "", 0), file("b", "", 0)),
		diskOf(file("aa", "", 0), file("a", "", 0)),
		diskOf(file("a", "", 0), file("A", "", 0)),
		diskOf(file("\xff", "", 0), file("\x00", "", 0)),
		diskOf(file("9", "", 0), file("10", "", 0)),
	}
}

func TestFilesConstants(t *testing.T) {
	if impl.MaxFiles != 30 || impl.MaxName != 8 {
		t.Error("a limit is not the document's")
	}
	if impl.ActAdd != 1 || impl.ActKeep != 2 || impl.ActMove != 3 || impl.ActDrop != 4 {
		t.Error("a kind is not the document's")
	}
}

func TestDiskOk(t *testing.T) {
	for _, d := range rightDisks() {
		if !impl.DiskOk(d) {
			t.Errorf("DiskOk(%s) is false", told(d))
		}
	}
	for _, d := range wrongDisks() {
		if impl.DiskOk(d) {
			t.Errorf("DiskOk(%s) is true", told(d))
		}
	}
}

func TestDiskOkOfEveryKept(t *testing.T) {
	for size := range 5 {
		for kept := -2; kept <= size+2; kept++ {
			d := diskOf(file("a", "12345"[:size], kept), file("b", "", 0))
			if got := impl.DiskOk(d); got != (kept >= 0 && kept <= size) {
				t.Errorf("DiskOk(%s) is %v", told(d), got)
			}
		}
	}
}

func TestDiskOkOfEveryName(t *testing.T) {
	for size := range 2*impl.MaxName + 1 {
		d := diskOf(file(strings.Repeat("n", size), "", 0))
		if got := impl.DiskOk(d); got != (size >= 1 && size <= impl.MaxName) {
			t.Errorf("DiskOk of a name of %d bytes is %v", size, got)
		}
	}
}

func TestFileAt(t *testing.T) {
	d := diskOf(file("a", "text of a", 2), file("b", "", 0), file("bb", allBytes(), 256))
	for _, f := range d.Files {
		if got, ok := impl.FileAt(d, f.Name); got != f.Text || !ok {
			t.Errorf("FileAt(%q) = %q, %v", f.Name, got, ok)
		}
	}
	for _, name := range []string{"", "A", "c", "aa", "bbb", "a\x00", "\x00", "123456789"} {
		if got, ok := impl.FileAt(d, name); got != "" || ok {
			t.Errorf("FileAt(%q) = %q, %v; want a false", name, got, ok)
		}
	}
	if got, ok := impl.FileAt(impl.Disk{}, "a"); got != "" || ok {
		t.Errorf("FileAt of no files is %q, %v", got, ok)
	}
}

// No rule says that the disk must be right for FileAt.
func TestFileAtOfWrongDisks(t *testing.T) {
	d := diskOf(file("z", "last", 9), file("a", "first", -1), file("", "none", 0), file("123456789", "long", 0))
	for _, f := range d.Files {
		if got, ok := impl.FileAt(d, f.Name); got != f.Text || !ok {
			t.Errorf("FileAt(%q) = %q, %v", f.Name, got, ok)
		}
	}
	for _, d := range wrongDisks() {
		for _, f := range d.Files {
			if _, ok := impl.FileAt(d, f.Name); !ok {
				t.Errorf("FileAt(%s, %q) is false", told(d), f.Name)
			}
		}
	}
}

func TestAllKept(t *testing.T) {
	for _, c := range []struct {
		d    impl.Disk
		want bool
	}{
		{impl.Disk{}, true},
		{diskOf(file("a", "", 0)), true},
		{diskOf(file("a", "1", 1)), true},
		{diskOf(file("a", "1", 0)), false},
		{diskOf(file("a", "123", 2)), false},
		{diskOf(file("a", "1", 1), file("b", "22", 2), file("c", "", 0)), true},
		{diskOf(file("a", "1", 0), file("b", "22", 2), file("c", "", 0)), false},
		{diskOf(file("a", "1", 1), file("b", "22", 1), file("c", "", 0)), false},
		{diskOf(file("a", "1", 1), file("b", "22", 2), file("c", "3", 0)), false},
	} {
		if got := impl.AllKept(c.d); got != c.want {
			t.Errorf("AllKept(%s) is %v", told(c.d), got)
		}
	}
	// All of each file is kept in these, but the disks are not right.
	for _, d := range []impl.Disk{
		diskOf(file("b", "1", 1), file("a", "1", 1)),
		diskOf(file("a", "1", 1), file("a", "1", 1)),
		diskOf(file("", "1", 1)),
		diskOf(file("123456789", "1", 1)),
		diskOf(file("a", strings.Repeat("t", impl.MaxText+1), impl.MaxText+1)),
		diskOf(slices.Repeat([]impl.File{{}}, impl.MaxFiles+1)...),
	} {
		if impl.AllKept(d) {
			t.Errorf("AllKept(%s) is true", told(d))
		}
	}
	for _, d := range wrongDisks() {
		if impl.AllKept(d) {
			t.Errorf("AllKept(%s) is true", told(d))
		}
	}
}

func TestActAdd(t *testing.T) {
	for _, c := range []struct {
		d    impl.Disk
		a    impl.Act
		want impl.Disk
	}{
		{impl.Disk{}, addAct("a", "1"), diskOf(file("a", "1", 0))},
		{impl.Disk{}, addAct("a", ""), diskOf(file("a", "", 0))},
		{diskOf(file("a", "1", 1)), addAct("a", ""), diskOf(file("a", "1", 1))},
		{diskOf(file("a", "1", 1)), addAct("a", "23"), diskOf(file("a", "123", 1))},
		{diskOf(file("a", "1", 0)), addAct("a", "23"), diskOf(file("a", "123", 0))},
		{diskOf(file("a", "", 0)), addAct("a", "\x00\xff"), diskOf(file("a", "\x00\xff", 0))},
		{diskOf(file("b", "1", 1), file("d", "2", 0)), addAct("a", "n"), diskOf(file("a", "n", 0), file("b", "1", 1), file("d", "2", 0))},
		{diskOf(file("b", "1", 1), file("d", "2", 0)), addAct("c", "n"), diskOf(file("b", "1", 1), file("c", "n", 0), file("d", "2", 0))},
		{diskOf(file("b", "1", 1), file("d", "2", 0)), addAct("e", "n"), diskOf(file("b", "1", 1), file("d", "2", 0), file("e", "n", 0))},
		{diskOf(file("b", "1", 1), file("d", "2", 0)), addAct("bb", "n"), diskOf(file("b", "1", 1), file("bb", "n", 0), file("d", "2", 0))},
		{diskOf(file("b", "1", 1), file("d", "2", 0)), addAct("B", "n"), diskOf(file("B", "n", 0), file("b", "1", 1), file("d", "2", 0))},
		{diskOf(file("b", "1", 1), file("d", "2", 0)), addAct("\xff", "n"), diskOf(file("b", "1", 1), file("d", "2", 0), file("\xff", "n", 0))},
		{diskOf(file("b", "1", 1), file("d", "2", 0)), addAct("d", "n"), diskOf(file("b", "1", 1), file("d", "2n", 0))},
		{diskOf(file("b", "1", 1), file("d", "2", 0), file("f", "", 0)), addAct("d", "n"), diskOf(file("b", "1", 1), file("d", "2n", 0), file("f", "", 0))},
	} {
		wantAct(t, c.d, c.a, c.want)
	}
}

func TestActAddLimits(t *testing.T) {
	most := strings.Repeat("t", impl.MaxText)
	wantAct(t, impl.Disk{}, addAct("a", most), diskOf(file("a", most, 0)))
	wantNoAct(t, impl.Disk{}, addAct("a", most+"t"))
	wantAct(t, diskOf(file("a", most[1:], 5)), addAct("a", "t"), diskOf(file("a", most, 5)))
	wantNoAct(t, diskOf(file("a", most[1:], 5)), addAct("a", "tt"))
	wantAct(t, diskOf(file("a", most, 5)), addAct("a", ""), diskOf(file("a", most, 5)))
	wantNoAct(t, diskOf(file("a", most, 5)), addAct("a", "t"))
	wantNoAct(t, diskOf(file("a", most, impl.MaxText)), addAct("a", most))

	wantAct(t, impl.Disk{}, addAct("12345678", "1"), diskOf(file("12345678", "1", 0)))
	for _, name := range []string{"", "123456789", strings.Repeat("n", 100)} {
		wantNoAct(t, impl.Disk{}, addAct(name, "1"))
		wantNoAct(t, impl.Disk{}, addAct(name, ""))
		wantNoAct(t, diskOf(file("a", "1", 1)), addAct(name, "1"))
	}

	files := manyFiles(impl.MaxFiles)
	last := impl.MaxFiles - 1
	text := file(files[last].Name, "n", 0)
	wantAct(t, diskOf(files[:last]...), addAct(text.Name, "n"), diskOf(append(manyFiles(last), text)...))
	wantAct(t, diskOf(files[:last]...), addAct("a", "n"), diskOf(append([]impl.File{file("a", "n", 0)}, files[:last]...)...))
	for _, name := range []string{"a", "f1000", "z"} {
		wantNoAct(t, diskOf(files...), addAct(name, "n"))
		wantNoAct(t, diskOf(files...), addAct(name, ""))
	}
	longer := manyFiles(impl.MaxFiles)
	longer[4].Text += "n"
	wantAct(t, diskOf(files...), addAct(longer[4].Name, "n"), diskOf(longer...))
}

func TestActKeep(t *testing.T) {
	for _, c := range []struct {
		d    impl.Disk
		name string
		want impl.Disk
	}{
		{diskOf(file("a", "", 0)), "a", diskOf(file("a", "", 0))},
		{diskOf(file("a", "123", 0)), "a", diskOf(file("a", "123", 3))},
		{diskOf(file("a", "123", 2)), "a", diskOf(file("a", "123", 3))},
		{diskOf(file("a", "123", 3)), "a", diskOf(file("a", "123", 3))},
		{diskOf(file("a", "1", 0), file("b", "22", 0), file("c", "3", 0)), "a", diskOf(file("a", "1", 1), file("b", "22", 0), file("c", "3", 0))},
		{diskOf(file("a", "1", 0), file("b", "22", 0), file("c", "3", 0)), "b", diskOf(file("a", "1", 0), file("b", "22", 2), file("c", "3", 0))},
		{diskOf(file("a", "1", 0), file("b", "22", 0), file("c", "3", 0)), "c", diskOf(file("a", "1", 0), file("b", "22", 0), file("c", "3", 1))},
	} {
		wantAct(t, c.d, keepAct(c.name), c.want)
	}
	most := strings.Repeat("t", impl.MaxText)
	wantAct(t, diskOf(file("a", most, 0)), keepAct("a"), diskOf(file("a", most, impl.MaxText)))
}

func TestActMove(t *testing.T) {
	three := diskOf(file("b", "1", 1), file("d", "2", 1), file("f", "345", 0))
	for _, c := range []struct {
		d        impl.Disk
		name, to string
		want     impl.Disk
	}{
		{diskOf(file("a", "1", 1)), "a", "b", diskOf(file("b", "1", 1))},
		{diskOf(file("b", "", 0)), "b", "a", diskOf(file("a", "", 0))},
		{diskOf(file("a", "1", 1)), "a", "12345678", diskOf(file("12345678", "1", 1))},
		{three, "b", "a", diskOf(file("a", "1", 1), file("d", "2", 1), file("f", "345", 0))},
		{three, "b", "c", diskOf(file("c", "1", 1), file("d", "2", 1), file("f", "345", 0))},
		{three, "b", "e", diskOf(file("d", "2", 1), file("e", "1", 1), file("f", "345", 0))},
		{three, "b", "g", diskOf(file("d", "2", 1), file("f", "345", 0), file("g", "1", 1))},
		{three, "d", "a", diskOf(file("a", "2", 1), file("b", "1", 1), file("f", "345", 0))},
		{three, "b", "d", diskOf(file("d", "1", 1), file("f", "345", 0))},
		{three, "d", "b", diskOf(file("b", "2", 1), file("f", "345", 0))},
		{three, "b", "f", diskOf(file("d", "2", 1), file("f", "1", 1))},
		{three, "d", "f", diskOf(file("b", "1", 1), file("f", "2", 1))},
	} {
		wantAct(t, c.d, moveAct(c.name, c.to), c.want)
	}
	files := manyFiles(impl.MaxFiles)
	moved := append(slices.Clone(files[1:]), file("g", "text", 4))
	files[0].Kept = 4
	wantAct(t, diskOf(files...), moveAct(files[0].Name, "g"), diskOf(moved...))
}

func TestActMoveRefuses(t *testing.T) {
	for _, d := range []impl.Disk{
		diskOf(file("a", "123", 3)),
		diskOf(file("a", "", 0), file("b", "1", 1)),
	} {
		for _, to := range []string{"a", "", "123456789"} {
			wantNoAct(t, d, moveAct("a", to))
		}
	}
	for kept := range 3 {
		for _, to := range []string{"c", "b", "a", "A"} {
			wantNoAct(t, diskOf(file("a", "123", kept), file("b", "1", 1)), moveAct("a", to))
		}
	}
	// The file that gives way may be kept or not.
	wantAct(t, diskOf(file("a", "1", 1), file("b", "345", 0)), moveAct("a", "b"), diskOf(file("b", "1", 1)))
}

func TestActDrop(t *testing.T) {
	three := diskOf(file("b", "1", 1), file("d", "2", 0), file("f", "345", 2))
	wantAct(t, three, dropAct("b"), diskOf(three.Files[1:]...))
	wantAct(t, three, dropAct("d"), diskOf(three.Files[0], three.Files[2]))
	wantAct(t, three, dropAct("f"), diskOf(three.Files[:2]...))
	for kept := range 4 {
		wantAct(t, diskOf(file("a", "123", kept)), dropAct("a"), impl.Disk{})
	}
	files := manyFiles(impl.MaxFiles)
	wantAct(t, diskOf(files...), dropAct(files[9].Name), diskOf(slices.Concat(files[:9], files[10:])...))
}

func TestActsOnNoSuchFile(t *testing.T) {
	for _, d := range []impl.Disk{{}, diskOf(file("a", "1", 1)), diskOf(file("a", "1", 1), file("c", "1", 1)), diskOf(manyFiles(impl.MaxFiles)...)} {
		for _, name := range []string{"", "b", "A", "aa", "a\x00", "123456789"} {
			wantNoAct(t, d, keepAct(name))
			wantNoAct(t, d, dropAct(name))
			wantNoAct(t, d, moveAct(name, "n"))
			wantNoAct(t, d, moveAct(name, "a"))
		}
	}
}

func TestActsOfNoKind(t *testing.T) {
	for _, d := range []impl.Disk{{}, diskOf(file("a", "1", 1)), diskOf(manyFiles(3)...)} {
		for _, kind := range []int{0, 5, 6, -1, -4, 255, 257, 1 << 32, math.MinInt, math.MaxInt} {
			for _, name := range []string{"", "a", "b", "f100"} {
				wantNoAct(t, d, impl.Act{Kind: kind, Name: name})
				wantNoAct(t, d, impl.Act{Kind: kind, Name: name, Text: "x"})
				wantNoAct(t, d, impl.Act{Kind: kind, Name: name, To: "x"})
			}
		}
		wantNoAct(t, d, impl.Act{})
	}
}

func TestActsWithNeedlessFields(t *testing.T) {
	for _, d := range []impl.Disk{{}, diskOf(file("a", "1", 1)), diskOf(file("a", "1", 1), file("b", "2", 2-1))} {
		for _, s := range []string{"b", "a", "\x00", " ", "123456789"} {
			wantNoAct(t, d, impl.Act{Kind: impl.ActAdd, Name: "a", To: s})
			wantNoAct(t, d, impl.Act{Kind: impl.ActAdd, Name: "a", Text: "x", To: s})
			wantNoAct(t, d, impl.Act{Kind: impl.ActKeep, Name: "a", To: s})
			wantNoAct(t, d, impl.Act{Kind: impl.ActKeep, Name: "a", Text: s})
			wantNoAct(t, d, impl.Act{Kind: impl.ActDrop, Name: "a", To: s})
			wantNoAct(t, d, impl.Act{Kind: impl.ActDrop, Name: "a", Text: s})
			wantNoAct(t, d, impl.Act{Kind: impl.ActMove, Name: "a", To: "c", Text: s})
		}
	}
}

func TestActsOnWrongDisks(t *testing.T) {
	for _, d := range wrongDisks() {
		for _, name := range []string{"a", "b", d.Files[0].Name} {
			for _, a := range []impl.Act{addAct(name, "1"), addAct(name, ""), keepAct(name), moveAct(name, "m"), dropAct(name), addAct("new", "")} {
				wantNoAct(t, d, a)
				wantActs(t, d, []impl.Act{a, addAct("new", "")}, d, 0)
				wantNoCut(t, d, []impl.Act{a}, 1, nil)
			}
		}
		wantActs(t, d, nil, d, 0)
		wantNoCut(t, d, nil, 0, nil)
		wantNoCut(t, d, []impl.Act{addAct("new", "")}, 0, []int{1, 2})
		for _, left := range [][]int{nil, {0}, {-1}, {1, 2, 3}} {
			if got, ok := impl.LoseDisk(d, left); ok || got.Files != nil {
				t.Errorf("LoseDisk(%s) = %s, %v; want a false", told(d), told(got), ok)
			}
		}
	}
}

// trueActs are acts that are true one behind the other on a disk without files, with the disks behind each.
func trueActs() ([]impl.Act, []impl.Disk) {
	return []impl.Act{
		addAct("log", "one"),
		keepAct("log"),
		addAct("log", "two"),
		addAct("new", "all"),
		keepAct("new"),
		moveAct("new", "log"),
		addAct("a", ""),
		dropAct("log"),
		addAct("log", "x"),
	}, []impl.Disk{
		{},
		diskOf(file("log", "one", 0)),
		diskOf(file("log", "one", 3)),
		diskOf(file("log", "onetwo", 3)),
		diskOf(file("log", "onetwo", 3), file("new", "all", 0)),
		diskOf(file("log", "onetwo", 3), file("new", "all", 3)),
		diskOf(file("log", "all", 3)),
		diskOf(file("a", "", 0), file("log", "all", 3)),
		diskOf(file("a", "", 0)),
		diskOf(file("a", "", 0), file("log", "x", 0)),
	}
}

func TestDoActsOfTrueOnes(t *testing.T) {
	list, disks := trueActs()
	for n := range len(list) + 1 {
		wantActs(t, impl.Disk{}, list[:n], disks[n], n)
		for from := range n {
			wantActs(t, disks[from], list[from:n], disks[n], n-from)
		}
	}
	for _, d := range rightDisks() {
		wantActs(t, d, nil, d, 0)
		wantActs(t, d, []impl.Act{}, d, 0)
	}
}

func TestDoActsStopAtTheFirstFalse(t *testing.T) {
	list, disks := trueActs()
	wrong := []impl.Act{{}, keepAct("none"), moveAct("log", "log"), {Kind: impl.ActDrop, Name: "a", To: "b"}, addAct("123456789", ""), addAct("log", strings.Repeat("t", impl.MaxText+1)), {Kind: 5, Name: "log"}}
	for at := range len(list) + 1 {
		for _, a := range wrong {
			with := slices.Insert(slices.Clone(list), at, a)
			wantActs(t, impl.Disk{}, with, disks[at], at)
			// A second false one is not come to.
			wantActs(t, impl.Disk{}, append(with, a), disks[at], at)
			for whole := range len(with) + 1 {
				if whole > at {
					wantNoCut(t, impl.Disk{}, with, whole, []int{1, 2})
				} else {
					want, _ := plainLost(disks[whole], []int{1, 2})
					wantCut(t, impl.Disk{}, with, whole, []int{1, 2}, want)
				}
			}
		}
	}
}

// What an act refuses leaves nothing behind, so that the disk behind the acts ahead of it is the answer.
func TestDoActsRefuseWithoutTrace(t *testing.T) {
	most := strings.Repeat("t", impl.MaxText)
	full := diskOf(manyFiles(impl.MaxFiles)...)
	for _, c := range []struct {
		d impl.Disk
		a impl.Act
	}{
		{diskOf(file("a", most, 3)), addAct("a", "t")},
		{full, addAct("a", "t")},
		{diskOf(file("a", "12", 1)), moveAct("a", "b")},
		{diskOf(file("a", "12", 2), file("b", "3", 0)), moveAct("a", "a")},
		{diskOf(file("a", "12", 2), file("b", "3", 0)), moveAct("a", "123456789")},
		{diskOf(file("a", "12", 2), file("b", "3", 0)), moveAct("a", "")},
		{diskOf(file("a", "12", 1)), impl.Act{Kind: impl.ActKeep, Name: "a", Text: "x"}},
		{diskOf(file("a", "12", 1)), impl.Act{Kind: impl.ActDrop, Name: "a", To: "x"}},
		{impl.Disk{}, addAct("", "x")},
	} {
		wantNoAct(t, c.d, c.a)
		wantActs(t, c.d, []impl.Act{c.a}, c.d, 0)
		wantActs(t, c.d, []impl.Act{c.a, addAct("z", "1")}, c.d, 0)
	}
}

// plainLost is the document's rule of LoseDisk, byte by byte.
func plainLost(d impl.Disk, left []int) (impl.Disk, bool) {
	var out impl.Disk
	for i, f := range d.Files {
		var text []byte
		for at := range len(f.Text) {
			stays := i < len(left) && at < left[i]
			if stays || at < f.Kept {
				text = append(text, f.Text[at])
			}
		}
		out.Files = append(out.Files, file(f.Name, string(text), len(text)))
	}
	return out, true
}

func TestLoseDiskAtEveryNumber(t *testing.T) {
	text := "12345"
	for size := range len(text) + 1 {
		for kept := range size + 1 {
			for left := -2; left <= size+2; left++ {
				stays := min(max(left, kept), size)
				d := diskOf(file("a", text[:size], kept))
				want := diskOf(file("a", text[:stays], stays))
				wantLost(t, d, []int{left}, want)
				wantLost(t, d, []int{left, 1, 2}, want)
				wantCut(t, d, nil, 0, []int{left}, want)
				wantCut(t, d, []impl.Act{keepAct("none")}, 0, []int{left}, want)
			}
			wantLost(t, diskOf(file("a", text[:size], kept)), nil, diskOf(file("a", text[:kept], kept)))
			wantLost(t, diskOf(file("a", text[:size], kept)), []int{}, diskOf(file("a", text[:kept], kept)))
			wantLost(t, diskOf(file("a", text[:size], kept)), []int{math.MaxInt}, diskOf(file("a", text[:size], size)))
			wantLost(t, diskOf(file("a", text[:size], kept)), []int{math.MinInt}, diskOf(file("a", text[:kept], kept)))
		}
	}
}

func TestLoseDiskOfSeveral(t *testing.T) {
	d := diskOf(file("a", "123", 0), file("b", "456", 1), file("c", "789", 3), file("d", "", 0))
	for _, c := range []struct {
		left []int
		want impl.Disk
	}{
		{nil, diskOf(file("a", "", 0), file("b", "4", 1), file("c", "789", 3), file("d", "", 0))},
		{[]int{2}, diskOf(file("a", "12", 2), file("b", "4", 1), file("c", "789", 3), file("d", "", 0))},
		{[]int{0, 2}, diskOf(file("a", "", 0), file("b", "45", 2), file("c", "789", 3), file("d", "", 0))},
		{[]int{-1, 0, -9}, diskOf(file("a", "", 0), file("b", "4", 1), file("c", "789", 3), file("d", "", 0))},
		{[]int{3, 3, 1, 1}, diskOf(file("a", "123", 3), file("b", "456", 3), file("c", "789", 3), file("d", "", 0))},
		{[]int{4, 400, 0, 0}, diskOf(file("a", "123", 3), file("b", "456", 3), file("c", "789", 3), file("d", "", 0))},
		{[]int{1, 1, 1, 1, 1, 1}, diskOf(file("a", "1", 1), file("b", "4", 1), file("c", "789", 3), file("d", "", 0))},
	} {
		wantLost(t, d, c.left, c.want)
		wantCut(t, d, nil, 0, c.left, c.want)
	}
	wantLost(t, impl.Disk{}, nil, impl.Disk{})
	wantLost(t, impl.Disk{}, []int{1, 2, 3}, impl.Disk{})
	for _, d := range rightDisks() {
		for _, left := range [][]int{nil, {0}, {1}, {2, 1, 0, -1}, slices.Repeat([]int{3}, impl.MaxFiles+3), slices.Repeat([]int{impl.MaxText - 1}, impl.MaxFiles)} {
			want, _ := plainLost(d, left)
			wantLost(t, d, left, want)
		}
	}
}

func TestCutActsAtEveryPlace(t *testing.T) {
	list, disks := trueActs()
	for whole := range len(list) + 1 {
		wantNoCut(t, impl.Disk{}, list[:whole], whole+1, nil)
		for first := -1; first <= 8; first++ {
			for second := -1; second <= 5; second++ {
				left := []int{first, second}
				want, _ := plainLost(disks[whole], left)
				wantCut(t, impl.Disk{}, list, whole, left, want)
				wantCut(t, impl.Disk{}, list[:whole], whole, left, want)
			}
		}
		want, _ := plainLost(disks[whole], nil)
		wantCut(t, impl.Disk{}, list, whole, nil, want)
	}
	for _, whole := range []int{-1, -2, len(list) + 1, math.MinInt, math.MaxInt} {
		wantNoCut(t, impl.Disk{}, list, whole, nil)
		wantNoCut(t, impl.Disk{}, list, whole, []int{1})
	}
	wantNoCut(t, impl.Disk{}, nil, 1, nil)
	wantNoCut(t, impl.Disk{}, nil, -1, nil)
	wantCut(t, impl.Disk{}, nil, 0, nil, impl.Disk{})
}

// plainAct is the document's rule of DoAct on a list of files.
func plainAct(d impl.Disk, a impl.Act) (impl.Disk, bool) {
	files := slices.Clone(d.Files)
	at := slices.IndexFunc(files, func(f impl.File) bool { return f.Name == a.Name })
	plain := a.Text == "" && a.To == ""
	switch {
	case a.Kind == impl.ActAdd && a.To == "":
		if at < 0 {
			at = len(files)
			files = append(files, file(a.Name, "", 0))
		}
		files[at].Text += a.Text
	case a.Kind == impl.ActKeep && plain && at >= 0:
		files[at].Kept = len(files[at].Text)
	case a.Kind == impl.ActDrop && plain && at >= 0:
		files = slices.Delete(files, at, at+1)
	case a.Kind == impl.ActMove && a.Text == "" && a.To != a.Name && at >= 0 && files[at].Kept == len(files[at].Text):
		files[at].Name = a.To
		moved := files[at]
		files = slices.DeleteFunc(files, func(f impl.File) bool { return f.Name == a.To })
		files = append(files, moved)
	default:
		return impl.Disk{}, false
	}
	slices.SortFunc(files, func(a, b impl.File) int { return strings.Compare(a.Name, b.Name) })
	if !impl.DiskOk(impl.Disk{Files: files}) {
		return impl.Disk{}, false
	}
	return impl.Disk{Files: files}, true
}

// drawnAct is an act, mostly a true one, on few names.
func drawnAct(r *rand.Rand) impl.Act {
	names := []string{"a", "b", "c", "d", "log", "12345678", "\xff", ""}
	name := func() string { return names[min(r.Intn(len(names)+2), len(names)-1-r.Intn(2))] }
	a := impl.Act{Kind: 1 + r.Intn(4), Name: name()}
	if a.Kind == impl.ActAdd {
		a.Text = drawnText(r, r.Intn(5))
	}
	if a.Kind == impl.ActMove {
		a.To = name()
	}
	switch r.Intn(40) {
	case 0:
		a.To = name()
	case 1:
		a.Text = "x"
	case 2:
		a.Kind = r.Intn(8) - 1
	case 3:
		a.Name = "123456789"
	}
	return a
}

func TestDrawnActs(t *testing.T) {
	r := rand.New(rand.NewSource(7))
	for range 300 {
		var d impl.Disk
		var list []impl.Act
		for range 40 {
			a := drawnAct(r)
			want, ok := plainAct(d, a)
			if !ok {
				wantNoAct(t, d, a)
				wantActs(t, impl.Disk{}, append(slices.Clone(list), a), d, len(list))
				continue
			}
			wantAct(t, d, a, want)
			d, list = want, append(list, a)
			wantActs(t, impl.Disk{}, list, d, len(list))
		}
	}
}

// checkLost holds what the power leaves of d against the promise itself.
func checkLost(t *testing.T, d impl.Disk, lost impl.Disk) {
	t.Helper()
	if len(lost.Files) != len(d.Files) {
		t.Fatalf("of %s there is %s", told(d), told(lost))
	}
	for i, f := range d.Files {
		g := lost.Files[i]
		if g.Name != f.Name || !strings.HasPrefix(g.Text, f.Text[:f.Kept]) || !strings.HasPrefix(f.Text, g.Text) || g.Kept != len(g.Text) {
			t.Errorf("of %s there is %s", told(d), told(lost))
		}
	}
}

func TestWhatIsKeptIsNeverLost(t *testing.T) {
	r := rand.New(rand.NewSource(8))
	for range 200 {
		var list []impl.Act
		disks := []impl.Disk{{}}
		for range 25 {
			a := drawnAct(r)
			if d, ok := plainAct(disks[len(disks)-1], a); ok {
				list, disks = append(list, a), append(disks, d)
			}
		}
		for whole := range len(list) + 1 {
			left := make([]int, r.Intn(10))
			for i := range left {
				left[i] = r.Intn(14) - 3
			}
			lost, ok := impl.CutActs(impl.Disk{}, list, whole, left)
			if !ok {
				t.Fatalf("CutActs at %d of %d is false", whole, len(list))
			}
			checkLost(t, disks[whole], lost)
			want, _ := plainLost(disks[whole], left)
			wantLost(t, disks[whole], left, want)
			wantCut(t, impl.Disk{}, list, whole, left, want)
			// The power may go again: what is left is kept.
			again, ok := impl.LoseDisk(lost, nil)
			if !ok || !sameDisk(again, lost) {
				t.Errorf("of %s, all of it kept, there is %s", told(lost), told(again))
			}
		}
	}
}

// spareDisk is d with files in the spare room behind its list.
func spareDisk(d impl.Disk) impl.Disk {
	whole := append(slices.Clone(d.Files), file("spare", "spare", 1), file("spare", "spare", 2), file("spare", "spare", 3))
	return impl.Disk{Files: whole[:len(d.Files)]}
}

func ownDisk(d impl.Disk) impl.Disk {
	var out impl.Disk
	for _, f := range d.Files {
		out.Files = append(out.Files, file(strings.Clone(f.Name), strings.Clone(f.Text), f.Kept))
	}
	return out
}

func textsOf(d impl.Disk) []string {
	var list []string
	for _, f := range d.Files {
		list = append(list, f.Name, f.Text)
	}
	return list
}

// wantNew tells when the answer got has memory of d, or of the texts of the other arguments.
func wantNew(t *testing.T, what string, got impl.Disk, d impl.Disk, others ...string) {
	t.Helper()
	room := d.Files[:cap(d.Files)]
	from := uintptr(unsafe.Pointer(unsafe.SliceData(room)))
	for i := range got.Files[:cap(got.Files)] {
		at := uintptr(unsafe.Pointer(&got.Files[:cap(got.Files)][i]))
		if at >= from && at < from+uintptr(len(room))*unsafe.Sizeof(impl.File{}) {
			t.Fatalf("%s: a file lies in the list that was handed in", what)
		}
	}
	for _, part := range textsOf(got) {
		for _, whole := range append(textsOf(d), others...) {
			if lies(part, whole) {
				t.Errorf("%s: %q lies in a text that was handed in", what, part)
			}
		}
	}
}

func TestFilesAnswerNewMemory(t *testing.T) {
	list := []impl.Act{addAct("added", "some new text"), keepAct("a file"), moveAct("a file", "moved to"), dropAct("b file"), addAct("c file", ""), addAct("c file", "more of it"), addAct("empty", "")}
	var words []string
	for _, a := range list {
		words = append(words, a.Name, a.Text, a.To)
	}
	base := diskOf(file("a file", "text of a", 3), file("b file", "text of b", 9), file("c file", "text of c", 9), file("empty", "", 0))
	for i, a := range list {
		d := ownDisk(base)
		if a.Kind == impl.ActMove {
			d.Files[0].Kept = 9
		}
		d = spareDisk(d)
		got, ok := impl.DoAct(d, a)
		if !ok {
			t.Fatalf("act %d is false", i)
		}
		wantNew(t, "DoAct", got, d, words...)
		again, n := impl.DoActs(d, list[i:])
		if n == 0 {
			t.Fatalf("none of the acts from %d on is true", i)
		}
		wantNew(t, "DoActs", again, d, words...)
	}
	d := spareDisk(ownDisk(base))
	for n := range len(list) + 1 {
		got, _ := impl.DoActs(d, list[:n])
		wantNew(t, "DoActs", got, d, words...)
		cut, ok := impl.CutActs(d, list, n, []int{5, 2, 3})
		if !ok {
			t.Fatalf("CutActs at %d is false", n)
		}
		wantNew(t, "CutActs", cut, d, words...)
	}
	for _, left := range [][]int{nil, {0, 0, 0, 0}, {4, 9, 1}, {100, 100, 100, 100}} {
		got, _ := impl.LoseDisk(d, left)
		wantNew(t, "LoseDisk", got, d)
	}
	text, ok := impl.FileAt(d, "a file")
	if !ok || lies(text, d.Files[0].Text) {
		t.Error("FileAt answers its argument's memory")
	}
	wrong := spareDisk(diskOf(file("bbb", "text", 4), file("aaa", "text", 4)))
	got, _ := impl.DoActs(wrong, list)
	wantNew(t, "DoActs of a disk that is not right", got, wrong, words...)
}

func TestFilesLeaveArgumentsAlone(t *testing.T) {
	disks := append(rightDisks(), wrongDisks()...)
	list := []impl.Act{addAct("0", "new"), addAct("a", "more"), keepAct("a"), keepAct("f103"), moveAct("a", "zz"), moveAct("f103", "f101"), dropAct("f102"), addAct("zzz", ""), dropAct("zz"), {}}
	for _, d := range disks {
		given := spareDisk(d)
		before := slices.Clone(given.Files[:cap(given.Files)])
		acts := append(slices.Clone(list), impl.Act{Kind: 9})[:len(list)]
		left := []int{1, -2, 3, 50000, 77}[:4]
		for i, a := range list {
			impl.DoAct(given, a)
			impl.DoActs(given, acts[i:])
			impl.CutActs(given, acts, i, left)
		}
		impl.DoActs(given, acts)
		impl.LoseDisk(given, left)
		impl.FileAt(given, "a")
		impl.DiskOk(given)
		impl.AllKept(given)
		if !slices.Equal(given.Files[:cap(given.Files)], before) {
			t.Errorf("the disk %s is changed, or the room behind it", told(d))
		}
		if !slices.Equal(acts, list) || acts[:len(list)+1][len(list)] != (impl.Act{Kind: 9}) || !slices.Equal(left[:5], []int{1, -2, 3, 50000, 77}) {
			t.Error("a list is changed, or the room behind it")
		}
	}
}

// An answer of one call is not changed by the next one that is handed it.
func TestFilesAnswersStand(t *testing.T) {
	list, disks := trueActs()
	var d impl.Disk
	var got []impl.Disk
	for _, a := range list {
		d, _ = impl.DoAct(d, a)
		got = append(got, d)
	}
	for i := range got {
		if !sameDisk(got[i], disks[i+1]) {
			t.Errorf("the disk behind act %d is %s", i, told(got[i]))
		}
	}
}
