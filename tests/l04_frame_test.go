package tests

import (
	"encoding/binary"
	"math/rand"
	"slices"
	"strings"
	"testing"
	"unsafe"

	"loop.example/g00247/impl"
)

// plainHead is what stands ahead of a record by the document's rule, whatever its length.
func plainHead(text string) string {
	size := binary.AppendUvarint(nil, uint64(len(text)))
	return string(binary.BigEndian.AppendUint32(size, plainSum(4294967295, text)))
}

func plainFrame(text string) string { return plainHead(text) + text }

// plainUnframe tries at each place the frames of all lengths that there may be.
func plainUnframe(file string) ([]string, int) {
	var list []string
	at := 0
	if len(file) > impl.MaxText {
		return nil, 0
	}
next:
	for {
		rest := file[at:]
		for size := 1; size <= impl.MaxRecord && size <= len(rest); size++ {
			length := string(binary.AppendUvarint(nil, uint64(size)))
			from := len(length) + 4
			if !strings.HasPrefix(rest, length) || from+size > len(rest) {
				continue
			}
			if text := rest[from : from+size]; strings.HasPrefix(rest, plainFrame(text)) {
				list = append(list, text)
				at += from + size
				continue next
			}
		}
		return list, at
	}
}

func framesIn(texts ...string) string {
	var file strings.Builder
	for _, text := range texts {
		file.WriteString(plainFrame(text))
	}
	return file.String()
}

func wantFrame(t *testing.T, text string) {
	t.Helper()
	if got, ok := impl.Frame(text); got != plainFrame(text) || !ok {
		t.Errorf("Frame(%.20q of %d) = %.20q of %d, %v", text, len(text), got, len(got), ok)
	}
}

func wantNoFrame(t *testing.T, text string) {
	t.Helper()
	if got, ok := impl.Frame(text); got != "" || ok {
		t.Errorf("Frame(%.20q of %d) = %.20q of %d, %v; want a false", text, len(text), got, len(got), ok)
	}
}

func wantUnframed(t *testing.T, file string, at int, want ...string) {
	t.Helper()
	if got, behind := impl.Unframe(file); !slices.Equal(got, want) || behind != at {
		t.Errorf("Unframe(%.20q of %d) = %.40q (%d of them), %d; want %.40q (%d), %d", file, len(file), got, len(got), behind, want, len(want), at)
	}
}

// wantAsPlain holds Unframe against the document's rule.
func wantAsPlain(t *testing.T, file string) {
	t.Helper()
	want, at := plainUnframe(file)
	wantUnframed(t, file, at, want...)
}

// framedTexts are texts that can be framed.
func framedTexts() []string {
	r := rand.New(rand.NewSource(7))
	list := []string{"a", "\x00", "\xff", "\x80", "one", "two words", "line\n", "\r\n", "\x00\x00\x00\x00", "\xff\xff\xff\xff",
		"\x01\x02\x03", "\xc3\x28\xf0\x80", allBytes(), plainFrame("a frame in a frame")}
	for _, size := range []int{2, 5, 126, 127, 128, 129, 255, 256, 300, 1000, impl.MaxRecord - 1, impl.MaxRecord} {
		list = append(list, strings.Repeat("r", size), strings.Repeat("\x00", size), drawnText(r, size))
	}
	return list
}

// shortFiles are lists of records whose files are short enough to be cut and turned everywhere.
func shortFiles() [][]string {
	r := rand.New(rand.NewSource(8))
	return [][]string{
		{"a"},
		{"\x00"},
		{"one", "two"},
		{"same", "same", "same"},
		{"\x00", "\xff", "\x80", "\x01"},
		{drawnText(r, 127), "x", drawnText(r, 128)},
		{drawnText(r, 200), drawnText(r, 300)},
		{allBytes(), "\n", plainFrame("inner"), "end"},
	}
}

func TestFramesConstant(t *testing.T) {
	if impl.MaxRecord != 9000 {
		t.Error("a limit is not the document's")
	}
}

// The sums here are worked out by hand from the document's rule.
func TestFrameForms(t *testing.T) {
	for _, c := range []struct{ text, want string }{
		{"\xff", "\x01\x00\xff\xff\xff\xff"},
		{"\xff\xff", "\x02\x00\x00\xff\xff\xff\xff"},
		{"\xff\xff\xff\xff", "\x04\x00\x00\x00\x00\xff\xff\xff\xff"},
		{"\xff\xff\xff\xff\x00", "\x05\x00\x00\x00\x00\xff\xff\xff\xff\x00"},
		{"\xff\xff\xff\xff\x80", "\x05\xd4\x19\xcc\x15\xff\xff\xff\xff\x80"},
	} {
		if got, ok := impl.Frame(c.text); got != c.want || !ok {
			t.Errorf("Frame(%q) = %q, %v; want %q", c.text, got, ok, c.want)
		}
		wantUnframed(t, c.want, len(c.want), c.text)
	}
}

func TestFrameOfEveryByte(t *testing.T) {
	for c := range 256 {
		one := string([]byte{byte(c)})
		wantFrame(t, one)
		wantUnframed(t, plainFrame(one), 6, one)
	}
}

func TestFrameIsUnframed(t *testing.T) {
	for _, text := range framedTexts() {
		wantFrame(t, text)
		frame, _ := impl.Frame(text)
		wantUnframed(t, frame, len(frame), text)
	}
}

func TestFrameLimits(t *testing.T) {
	wantNoFrame(t, "")
	for _, size := range []int{impl.MaxRecord + 1, impl.MaxRecord + 2, 2 * impl.MaxRecord, impl.MaxText, impl.MaxText + 1, 5 * impl.MaxText} {
		wantNoFrame(t, strings.Repeat("r", size))
		wantNoFrame(t, strings.Repeat("\x00", size))
	}
	for _, c := range []struct{ size, length int }{{1, 1}, {127, 1}, {128, 2}, {impl.MaxRecord, 2}} {
		text := strings.Repeat("r", c.size)
		wantFrame(t, text)
		if frame, _ := impl.Frame(text); len(frame) != c.length+4+c.size {
			t.Errorf("Frame of %d bytes has %d bytes", c.size, len(frame))
		}
	}
}

func TestUnframeOfSeveral(t *testing.T) {
	wantUnframed(t, "", 0)
	wantUnframed(t, framesIn("one"), 8, "one")
	wantUnframed(t, framesIn("one", "two"), 16, "one", "two")
	wantUnframed(t, framesIn("two", "one", "two"), 24, "two", "one", "two")
	wantUnframed(t, framesIn("\x00", strings.Repeat("\x00", 128), "\x00"), 6+134+6, "\x00", strings.Repeat("\x00", 128), "\x00")
	for _, list := range shortFiles() {
		var file strings.Builder
		for i, text := range list {
			frame, ok := impl.Frame(text)
			if !ok {
				t.Fatalf("Frame(%.20q of %d) is false", text, len(text))
			}
			file.WriteString(frame)
			wantUnframed(t, file.String(), file.Len(), list[:i+1]...)
		}
	}
}

func TestUnframeOfDrawnFiles(t *testing.T) {
	r := rand.New(rand.NewSource(9))
	for range 300 {
		var list []string
		for range r.Intn(12) {
			list = append(list, drawnText(r, 1+r.Intn(1<<r.Intn(11))))
		}
		file := framesIn(list...)
		if len(file) <= impl.MaxText {
			wantUnframed(t, file, len(file), list...)
		}
	}
}

// wantCuts cuts the file of list at every place: a frame comes back just when its end is still there.
func wantCuts(t *testing.T, list []string) {
	t.Helper()
	file := framesIn(list...)
	whole, behind := 0, 0
	for cut := range len(file) + 1 {
		if whole < len(list) && cut == behind+len(plainFrame(list[whole])) {
			whole, behind = whole+1, cut
		}
		wantUnframed(t, file[:cut], behind, list[:whole]...)
	}
	if whole != len(list) {
		t.Fatalf("just %d of %d frames were whole at the end", whole, len(list))
	}
}

func TestUnframeOfEveryCut(t *testing.T) {
	for _, list := range shortFiles() {
		wantCuts(t, list)
	}
}

func TestUnframeOfCutsOfTheLongest(t *testing.T) {
	r := rand.New(rand.NewSource(10))
	first, second := drawnText(r, impl.MaxRecord), drawnText(r, impl.MaxRecord)
	file := framesIn(first, second)
	one := len(file) / 2
	for _, cut := range []int{0, 1, 2, 5, 6, 7, impl.MaxRecord, one - 1} {
		wantUnframed(t, file[:cut], 0)
		wantUnframed(t, file[:one+cut], one, first)
	}
	wantUnframed(t, file[:one], one, first)
	wantUnframed(t, file, 2*one, first, second)
}

func TestUnframeOfSomethingElseBehind(t *testing.T) {
	for _, list := range append(shortFiles(), nil) {
		file := framesIn(list...)
		for _, tail := range []string{"\x00", "\x01", "\x80", "\xff", "\n", "something else", "\x00\x00\x00\x00\x00\x00\x00",
			"\x00\xff\xff\xff\xff", "\x00\xff\xff\xff\xff\x00", "\x01\xff\xff\xff\xff", "\x80\x00\xff\xff\xff\xff", strings.Repeat("\xff", 40), strings.Repeat("\x80", 40), allBytes()} {
			wantUnframed(t, file+tail, len(file), list...)
		}
		for c := range 256 {
			wantUnframed(t, file+string([]byte{byte(c)}), len(file), list...)
		}
	}
}

// fullFile has records whose frames take size bytes, of the longest ones as many as can be.
func fullFile(t *testing.T, size int) []string {
	t.Helper()
	first, second := strings.Repeat("1", impl.MaxRecord), strings.Repeat("2", impl.MaxRecord)
	last := strings.Repeat("3", size-2*(impl.MaxRecord+6)-6)
	list := []string{first, second, last}
	if got := len(framesIn(list...)); got != size {
		t.Fatalf("the file has %d bytes, not %d", got, size)
	}
	return list
}

func TestUnframeLimits(t *testing.T) {
	for _, size := range []int{impl.MaxText - 1, impl.MaxText} {
		list := fullFile(t, size)
		wantUnframed(t, framesIn(list...), size, list...)
	}
	for _, size := range []int{impl.MaxText + 1, impl.MaxText + 2, impl.MaxText + 500} {
		wantUnframed(t, framesIn(fullFile(t, size)...), 0)
	}
	full := fullFile(t, impl.MaxText)
	for _, tail := range []string{"\x00", "x", framesIn("one")} {
		wantUnframed(t, framesIn(full...)+tail, 0)
		file := framesIn("one") + strings.Repeat(tail[:1], impl.MaxText)
		wantUnframed(t, file[:impl.MaxText], 8, "one")
		wantUnframed(t, file[:impl.MaxText+1], 0)
		wantUnframed(t, file, 0)
	}
	wantUnframed(t, strings.Repeat("\x00", impl.MaxText), 0)
	wantUnframed(t, strings.Repeat("\xff", impl.MaxText), 0)
}

func TestUnframeOfTheMostRecords(t *testing.T) {
	one := framesIn("a")
	count := impl.MaxText / len(one)
	list := slices.Repeat([]string{"a"}, count)
	file := strings.Repeat(one, count)
	wantUnframed(t, file, len(file), list...)
	wantUnframed(t, file[:len(file)-1], len(file)-len(one), list[1:]...)
	wantUnframed(t, file+one[:impl.MaxText-len(file)], len(file), list...)
	wantUnframed(t, file+one, 0)
}

// wantTorn sees to it that of bytes that are no whole frame nothing is told, whatever is ahead of them and behind.
func wantTorn(t *testing.T, torn string) {
	t.Helper()
	for _, behind := range []string{"", framesIn("one"), framesIn("one", "two")} {
		wantUnframed(t, torn+behind, 0)
		wantUnframed(t, framesIn("ahead")+torn+behind, 10, "ahead")
		wantUnframed(t, framesIn("ahead", "\x00")+torn+behind, 16, "ahead", "\x00")
	}
}

func TestUnframeRefusesLongerForms(t *testing.T) {
	for _, text := range []string{"\x00", "a", "one", strings.Repeat("x", 127), strings.Repeat("x", 128), strings.Repeat("x", 3000)} {
		length := binary.AppendUvarint(nil, uint64(len(text)))
		rest := plainFrame(text)[len(length):]
		wantUnframed(t, string(length)+rest, len(length)+len(rest), text)
		for more := 1; more < 12; more++ {
			form := slices.Clone(length)
			form[len(form)-1] += 128
			form = append(form, slices.Repeat([]byte{128}, more-1)...)
			wantTorn(t, string(append(form, 0))+rest)
		}
	}
}

// The sums are right here: it is the length alone that is refused.
func TestUnframeRefusesLengths(t *testing.T) {
	wantTorn(t, plainFrame(""))
	wantTorn(t, "\x80\x00\xff\xff\xff\xff")
	wantTorn(t, plainFrame(strings.Repeat("r", impl.MaxRecord+1)))
	wantTorn(t, plainFrame(strings.Repeat("r", impl.MaxRecord+2)))
	wantTorn(t, plainFrame(strings.Repeat("r", 16384)))
	wantUnframed(t, plainFrame(strings.Repeat("r", impl.MaxText-7)), 0)
	most := strings.Repeat("r", impl.MaxRecord)
	wantUnframed(t, framesIn("ahead", most, "one"), 10+impl.MaxRecord+6+8, "ahead", most, "one")
}

func TestUnframeRefusesLengthsBeyondTheEnd(t *testing.T) {
	for _, n := range []uint64{2, 3, 127, 128, impl.MaxRecord, impl.MaxRecord + 1, impl.MaxText, impl.MaxNumber, impl.MaxNumber + 1,
		1<<31 - 1, 1 << 31, 1<<32 - 1, 1 << 32, 1<<63 - 5, 1<<63 - 1, 1 << 63, 1<<64 - 1} {
		length := string(binary.AppendUvarint(nil, n))
		for _, text := range []string{"", "a", "\x00"} {
			file := length + plainHead(text)[1:] + text
			wantUnframed(t, file, 0)
			wantUnframed(t, framesIn("ahead")+file, 10, "ahead")
		}
		wantUnframed(t, length, 0)
		wantUnframed(t, length+"\xff\xff\xff", 0)
		wantUnframed(t, length+"\xff\xff\xff\xff", 0)
	}
}

// wantTurned turns a byte of the frame of text; the whole frame behind it must not be told.
func wantTurned(t *testing.T, text string, at int, bits int) {
	t.Helper()
	torn := turned(plainFrame(text), at, bits)
	wantUnframed(t, torn, 0)
	wantUnframed(t, framesIn("ahead")+torn+framesIn("behind"), 10, "ahead")
}

func TestUnframeTellsEveryTurnedByte(t *testing.T) {
	for _, text := range []string{"a", "\x00", "\x01", "\xff", "one", "From: a\n\nbody", "\x00\x00\x00\x00", "\xff\xff\xff", allBytes()[:130]} {
		frame := plainFrame(text)
		for at := range len(frame) {
			for bits := 1; bits < 256; bits++ {
				wantTurned(t, text, at, bits)
			}
		}
	}
}

func TestUnframeTellsTurnedBytesOfTheLongest(t *testing.T) {
	r := rand.New(rand.NewSource(11))
	text := drawnText(r, impl.MaxRecord)
	for _, at := range []int{0, 1, 2, 3, 4, 5, 6, 7, impl.MaxRecord / 2, impl.MaxRecord + 4, impl.MaxRecord + 5} {
		for _, bits := range []int{1, 16, 64, 128, 255} {
			wantTurned(t, text, at, bits)
		}
	}
	for range 100 {
		wantTurned(t, text, r.Intn(impl.MaxRecord+6), 1+r.Intn(255))
	}
}

// The sum is of the text alone: where a shorter text has the same one, its length makes a whole frame.
func TestUnframeOfLengthsWithTheSameSum(t *testing.T) {
	file := framesIn("\xff\xff\xff\xff\x00\x00\x00", "behind")
	for size := 4; size < 7; size++ {
		wantUnframed(t, string([]byte{byte(size)})+file[1:], 5+size, file[5:5+size])
	}
	wantUnframed(t, "\x03"+file[1:], 0)
	wantUnframed(t, "\x08"+file[1:], 0)
}

func TestUnframeOrderOfSums(t *testing.T) {
	for _, text := range []string{"a", "one", "\xff", "\xff\xff"} {
		sum := binary.LittleEndian.AppendUint32(nil, plainSum(4294967295, text))
		length := string([]byte{byte(len(text))})
		wantTorn(t, length+string(sum)+text)
		wantTorn(t, length+text+plainHead(text)[1:])
		wantTorn(t, plainHead(text)[1:]+length+text)
	}
}

func TestUnframeStopsAtTheFirstTorn(t *testing.T) {
	list := []string{"one", "two", "\x00", strings.Repeat("x", 200), "five"}
	for i := range list {
		ahead, behind := framesIn(list[:i]...), framesIn(list[i+1:]...)
		frame := plainFrame(list[i])
		for at := range len(frame) {
			wantUnframed(t, ahead+turned(frame, at, 255)+behind, len(ahead), list[:i]...)
		}
		for cut := 1; cut < len(frame); cut++ {
			wantUnframed(t, ahead+frame[:cut]+behind, len(ahead), list[:i]...)
			wantUnframed(t, ahead+frame[cut:]+behind, len(ahead), list[:i]...)
		}
		wantUnframed(t, ahead+"\x00"+frame+behind, len(ahead), list[:i]...)
	}
}

// spoilt is a file with some bytes turned, cut away or put in.
func spoilt(r *rand.Rand, file string) string {
	for range 1 + r.Intn(2) {
		at := r.Intn(len(file) + 1)
		switch {
		case r.Intn(3) == 0:
			file = file[:at] + drawnText(r, 1+r.Intn(3)) + file[at:]
		case at == len(file):
			file = file[:r.Intn(at+1)]
		case r.Intn(2) == 0:
			file = file[:at] + file[at+1:]
		default:
			file = turned(file, at, 1+r.Intn(255))
		}
	}
	return file
}

func TestUnframeOfSpoiltFiles(t *testing.T) {
	r := rand.New(rand.NewSource(12))
	for range 3000 {
		var list []string
		for range 1 + r.Intn(6) {
			list = append(list, drawnText(r, 1+r.Intn(1<<r.Intn(9))))
		}
		wantAsPlain(t, spoilt(r, framesIn(list...)))
	}
	for range 2000 {
		wantAsPlain(t, drawnText(r, r.Intn(20)))
	}
}

// What Unframe told is whole again when it is framed: it is the beginning of the file up to the place.
func TestUnframedIsFramedAgain(t *testing.T) {
	r := rand.New(rand.NewSource(13))
	for _, list := range shortFiles() {
		for range 50 {
			file := spoilt(r, framesIn(list...))
			records, at := impl.Unframe(file)
			var again strings.Builder
			for _, record := range records {
				frame, ok := impl.Frame(record)
				if !ok {
					t.Fatalf("a record of %d bytes was told", len(record))
				}
				again.WriteString(frame)
			}
			if again.String() != file[:at] {
				t.Errorf("Unframe(%.20q of %d) told %d records up to %d", file, len(file), len(records), at)
			}
		}
	}
}

func TestFramesAnswerNewMemory(t *testing.T) {
	list := []string{"a", "some record", strings.Repeat("x", 300)}
	for _, text := range list {
		if frame, ok := impl.Frame(text); !ok || lies(frame, text) || lies(text, frame) {
			t.Error("Frame answers its argument's memory")
		}
	}
	for _, texts := range append(shortFiles(), list) {
		file := framesIn(texts...)
		records, _ := impl.Unframe(file)
		for i, record := range records {
			if lies(record, file) || lies(file, record) {
				t.Errorf("record %d of %d lies in the file that was handed in", i, len(records))
			}
		}
	}
}

// The bytes of the arguments are turned when the answers are there: these must stand.
func TestFramesLeaveArgumentsAlone(t *testing.T) {
	for _, list := range shortFiles() {
		want := framesIn(list...)
		room := []byte(want + "spare")
		file := unsafe.String(&room[0], len(want))
		records, at := impl.Unframe(file)
		frame, ok := impl.Frame(file)
		if string(room) != want+"spare" {
			t.Error("the argument is changed, or the room behind it")
		}
		for i := range room {
			room[i] ^= 255
		}
		if !slices.Equal(records, list) || at != len(want) || !ok || frame != plainFrame(want) {
			t.Error("an answer is changed with the argument")
		}
	}
}

// No call keeps anything: two calls with other calls between answer alike, and what was answered first stands.
func TestFramesAnswersStand(t *testing.T) {
	file := framesIn("one", "two", "three")
	first, _ := impl.Unframe(file)
	impl.Unframe(framesIn("four", "five", "six"))
	impl.Frame("seven")
	wantUnframed(t, file, len(file), "one", "two", "three")
	if again, _ := impl.Unframe(file); len(again) == 3 {
		again[0] = "changed"
	}
	if !slices.Equal(first, []string{"one", "two", "three"}) {
		t.Errorf("the first answer is %q now", first)
	}
}
