package tests

import (
	"encoding/binary"
	"encoding/hex"
	"math"
	"math/rand"
	"slices"
	"strconv"
	"strings"
	"testing"
	"unsafe"

	"loop.example/g00247/impl"
)

// allBytes has every byte once.
func allBytes() string {
	b := make([]byte, 256)
	for i := range b {
		b[i] = byte(i)
	}
	return string(b)
}

// someNumbers are the edges of VarText's forms, and numbers drawn between them.
func someNumbers() []int {
	list := []int{0, 1, 9, 10, 126, 127, 128, 129, 255, 256, 300, 16383, 16384, 2097151, 2097152,
		268435455, 268435456, impl.MaxNumber - 1, impl.MaxNumber}
	r := rand.New(rand.NewSource(1))
	for range 2000 {
		list = append(list, r.Intn(1<<r.Intn(30)+1)%(impl.MaxNumber+1))
	}
	return list
}

func TestWordsLimits(t *testing.T) {
	if impl.MaxText != 20000 || impl.MaxNumber != 1000000000 || impl.MaxWords != 600 || impl.MaxParts != 10 {
		t.Error("a limit is not the document's")
	}
}

func TestVarTextForms(t *testing.T) {
	for _, c := range []struct {
		n    int
		want string
	}{
		{0, "\x00"},
		{1, "\x01"},
		{127, "\x7f"},
		{128, "\x80\x01"},
		{300, "\xac\x02"},
		{16383, "\xff\x7f"},
		{16384, "\x80\x80\x01"},
		{impl.MaxNumber, "\x80\x94\xeb\xdc\x03"},
	} {
		if got, ok := impl.VarText(c.n); got != c.want || !ok {
			t.Errorf("VarText(%d) = %q, %v; want %q", c.n, got, ok, c.want)
		}
	}
	for _, n := range []int{-1, -128, math.MinInt, impl.MaxNumber + 1, math.MaxInt} {
		if got, ok := impl.VarText(n); got != "" || ok {
			t.Errorf("VarText(%d) = %q, %v; want a false", n, got, ok)
		}
	}
}

func TestVarTextIsReadBack(t *testing.T) {
	for _, n := range someNumbers() {
		s, ok := impl.VarText(n)
		if !ok || s != string(binary.AppendUvarint(nil, uint64(n))) {
			t.Fatalf("VarText(%d) = %q, %v", n, s, ok)
		}
		for _, ahead := range []string{"", "\x00", "\x80", "\xff\xff\xff"} {
			for _, behind := range []string{"", "\x00", "\x01", "\xff"} {
				wantVar(t, ahead+s+behind, len(ahead), n, len(ahead)+len(s))
			}
		}
		for cut := range len(s) {
			wantNoVar(t, s[:cut], 0)
		}
	}
}

func wantVar(t *testing.T, text string, at int, n int, behind int) {
	t.Helper()
	if got, next, ok := impl.ReadVar(text, at); got != n || next != behind || !ok {
		t.Errorf("ReadVar(%q, %d) = %d, %d, %v; want %d, %d", text, at, got, next, ok, n, behind)
	}
}

func wantNoVar(t *testing.T, text string, at int) {
	t.Helper()
	if got, next, ok := impl.ReadVar(text, at); got != 0 || next != 0 || ok {
		t.Errorf("ReadVar(%q, %d) = %d, %d, %v; want a false", text, at, got, next, ok)
	}
}

func TestReadVarPlaces(t *testing.T) {
	text := "\x05\xac\x02\x07"
	wantVar(t, text, 0, 5, 1)
	wantVar(t, text, 1, 300, 3)
	wantVar(t, text, 2, 2, 3)
	wantVar(t, text, 3, 7, 4)
	for _, at := range []int{-1, -2, math.MinInt, 4, 5, 6, math.MaxInt} {
		wantNoVar(t, text, at)
	}
	for _, at := range []int{-1, 0, 1} {
		wantNoVar(t, "", at)
	}
}

func TestReadVarRefusesOtherForms(t *testing.T) {
	for _, text := range []string{
		"\x80\x00", "\x81\x00", "\xff\x00", "\xac\x82\x00", "\x80\x80\x00", "\x80\x80\x80\x80\x00",
		"\x80\x94\xeb\xdc\x83\x00", "\x80\x80\x80\x80\x80\x00",
		"\x80", "\xff\xff", "\x80\x94\xeb\xdc",
		"\x81\x94\xeb\xdc\x03", "\x80\x94\xeb\xdc\x04", "\xff\xff\xff\xff\x7f",
		"\x80\x80\x80\x80\x80\x01", "\xff\xff\xff\xff\xff\xff\xff\xff\xff\x01",
		"\x80\x80\x80\x80\x80\x80\x80\x80\x80\x02", strings.Repeat("\x80", 20) + "\x01", strings.Repeat("\xff", 1000),
	} {
		wantNoVar(t, text, 0)
		wantNoVar(t, "\x00"+text, 1)
	}
}

// Every text of up to three bytes is read just when it begins with what VarText writes of that number.
func TestReadVarOfEveryShortText(t *testing.T) {
	for a := range 256 {
		for b := range 256 {
			for _, c := range []byte{0, 1, 2, 127, 128, 129, 255} {
				full := string([]byte{byte(a), byte(b), c})
				for size := 1; size <= 3; size++ {
					checkVar(t, full[:size])
				}
			}
		}
	}
}

func checkVar(t *testing.T, text string) {
	t.Helper()
	u, size := binary.Uvarint([]byte(text))
	if size <= 0 || string(binary.AppendUvarint(nil, u)) != text[:size] {
		wantNoVar(t, text, 0)
		return
	}
	wantVar(t, text, 0, int(u), size)
}

func TestShortTextForms(t *testing.T) {
	for _, c := range []struct{ s, want string }{
		{"", "\x00"},
		{"a", "\x01a"},
		{"\x00\xff", "\x02\x00\xff"},
		{strings.Repeat("x", 127), "\x7f" + strings.Repeat("x", 127)},
		{strings.Repeat("x", 128), "\x80\x01" + strings.Repeat("x", 128)},
		{strings.Repeat("x", impl.MaxText), "\xa0\x9c\x01" + strings.Repeat("x", impl.MaxText)},
	} {
		if got, ok := impl.ShortText(c.s); got != c.want || !ok {
			t.Errorf("ShortText of %d bytes is wrong", len(c.s))
		}
	}
	for _, size := range []int{impl.MaxText + 1, 2 * impl.MaxText} {
		if got, ok := impl.ShortText(strings.Repeat("x", size)); got != "" || ok {
			t.Errorf("ShortText of %d bytes is taken", size)
		}
	}
}

func wantShort(t *testing.T, text string, at int, want string, behind int) {
	t.Helper()
	if got, next, ok := impl.ReadShort(text, at); got != want || next != behind || !ok {
		t.Errorf("ReadShort(%.20q of %d, %d) = %d bytes, %d, %v", text, len(text), at, len(got), next, ok)
	}
}

func wantNoShort(t *testing.T, text string, at int) {
	t.Helper()
	if got, next, ok := impl.ReadShort(text, at); got != "" || next != 0 || ok {
		t.Errorf("ReadShort(%.20q of %d, %d) = %d bytes, %d, %v; want a false", text, len(text), at, len(got), next, ok)
	}
}

func TestShortTextIsReadBack(t *testing.T) {
	for _, s := range []string{"", "a", " ", "\x00", "\x80", "two words", allBytes(), strings.Repeat("y", 127),
		strings.Repeat("\xff", 128), strings.Repeat("z", impl.MaxText-1), strings.Repeat("z", impl.MaxText)} {
		short, ok := impl.ShortText(s)
		if !ok {
			t.Fatalf("ShortText of %d bytes is refused", len(s))
		}
		for _, ahead := range []string{"", "\x00", "\xff\xff"} {
			wantShort(t, ahead+short, len(ahead), s, len(ahead)+len(short))
			wantShort(t, ahead+short+"more", len(ahead), s, len(ahead)+len(short))
		}
		for _, cut := range []int{0, len(short) / 2, len(short) - 1} {
			wantNoShort(t, short[:cut], 0)
		}
	}
}

func TestReadShortRefuses(t *testing.T) {
	for _, at := range []int{-1, math.MinInt, 3, 4, math.MaxInt} {
		wantNoShort(t, "\x02ab", at)
	}
	wantNoShort(t, "", 0)
	wantNoShort(t, "\x80\x00", 0)
	wantNoShort(t, "\x81\x00a", 0)
	wantNoShort(t, "\x80", 0)
	wantNoShort(t, "\x03ab", 0)
	wantNoShort(t, "\x80\x94\xeb\xdc\x03ab", 0)
	wantNoShort(t, "\xa1\x9c\x01"+strings.Repeat("x", impl.MaxText+1), 0)
	wantNoShort(t, "\xa0\x9c\x01"+strings.Repeat("x", impl.MaxText-1), 0)
	wantShort(t, "\xa0\x9c\x01"+strings.Repeat("x", impl.MaxText+1), 0, strings.Repeat("x", impl.MaxText), impl.MaxText+3)
	wantShort(t, "\x02ab", 0, "ab", 3)
	wantShort(t, "\x02\x00\x01", 1, "", 2)
}

func TestHexForms(t *testing.T) {
	for _, c := range []struct{ text, want string }{
		{"", ""}, {"\x00", "00"}, {"\x0f", "0f"}, {"\xf0", "f0"}, {"\xff", "ff"}, {"Mail", "4d61696c"}, {"\x9a\xbc", "9abc"},
	} {
		if got, ok := impl.Hex(c.text); got != c.want || !ok {
			t.Errorf("Hex(%q) = %q, %v; want %q", c.text, got, ok, c.want)
		}
	}
	for _, size := range []int{impl.MaxText + 1, 3 * impl.MaxText} {
		if got, ok := impl.Hex(strings.Repeat("x", size)); got != "" || ok {
			t.Errorf("Hex of %d bytes is taken", size)
		}
	}
}

func TestHexIsReadBack(t *testing.T) {
	list := []string{"", allBytes(), strings.Repeat("\xa5", impl.MaxText-1), strings.Repeat("\x5a", impl.MaxText)}
	for i := range 256 {
		list = append(list, string([]byte{byte(i)}), string([]byte{byte(i), byte(255 - i)}))
	}
	for _, text := range list {
		figures, ok := impl.Hex(text)
		if !ok || figures != hex.EncodeToString([]byte(text)) {
			t.Fatalf("Hex of %d bytes is wrong", len(text))
		}
		if back, ok := impl.Unhex(figures); back != text || !ok {
			t.Errorf("Unhex of %.20q .. is wrong", figures)
		}
	}
}

func wantNoHex(t *testing.T, text string) {
	t.Helper()
	if got, ok := impl.Unhex(text); got != "" || ok {
		t.Errorf("Unhex(%.20q of %d) = %.20q, %v; want a false", text, len(text), got, ok)
	}
}

func TestUnhexRefuses(t *testing.T) {
	for _, text := range []string{"0", "000", "0g", "g0", "A0", "0A", "aF", "0x", " 0", "0 ", "00 ", "-1", "\x00\x00", "0\xff",
		"001", "4d6", "4d61zz", "zz4d61"} {
		wantNoHex(t, text)
	}
	wantNoHex(t, strings.Repeat("0", 2*impl.MaxText+1))
	wantNoHex(t, strings.Repeat("0", 2*impl.MaxText+2))
	for c := range 256 {
		if !strings.Contains("0123456789abcdef", string([]byte{byte(c)})) {
			wantNoHex(t, string([]byte{byte(c), '0'}))
			wantNoHex(t, string([]byte{'0', byte(c)}))
		}
	}
}

func TestDecimalOfEveryKind(t *testing.T) {
	for _, c := range []struct {
		n    int
		want string
	}{
		{0, "0"}, {1, "1"}, {9, "9"}, {10, "10"}, {100, "100"}, {-1, "-1"}, {-5, "-5"}, {-10, "-10"},
		{impl.MaxNumber, "1000000000"}, {impl.MaxNumber + 1, "1000000001"}, {-impl.MaxNumber, "-1000000000"},
		{math.MaxInt, "9223372036854775807"}, {math.MinInt, "-9223372036854775808"}, {math.MinInt + 1, "-9223372036854775807"},
	} {
		if got := impl.Decimal(c.n); got != c.want {
			t.Errorf("Decimal(%d) = %q; want %q", c.n, got, c.want)
		}
	}
}

func TestDecimalIsReadBack(t *testing.T) {
	for _, n := range someNumbers() {
		text := impl.Decimal(n)
		if got, ok := impl.ReadDecimal(text); text != strconv.Itoa(n) || got != n || !ok {
			t.Errorf("ReadDecimal(Decimal(%d) = %q) = %d, %v", n, text, got, ok)
		}
	}
}

func wantNoDecimal(t *testing.T, text string) {
	t.Helper()
	if got, ok := impl.ReadDecimal(text); got != 0 || ok {
		t.Errorf("ReadDecimal(%.30q) = %d, %v; want a false", text, got, ok)
	}
}

func TestReadDecimalRefuses(t *testing.T) {
	for _, text := range []string{"", "00", "01", "007", "0000000001", "01000000000", "-0", "-1", "+0", "+1", "-", "+", " ", " 1", "1 ", "1 2", "1\n",
		"a", "1a", "a1", "0x1", "1_0", "1.0", "1e3", "/", ":", "1/", "1:", "\x00", "1\x00", "\xff", "\u0661",
		"1000000001", "1000000010", "9999999999", "10000000000", "4294967296", "9223372036854775807", "9223372036854775808",
		"18446744073709551616", "18446744073709551617", "36893488147419103233", "-9223372036854775808"} {
		wantNoDecimal(t, text)
	}
	wantNoDecimal(t, strings.Repeat("9", 5000))
	wantNoDecimal(t, strings.Repeat("0", 5000))
	wantNoDecimal(t, "1"+strings.Repeat("0", 5000))
	for _, n := range []int{impl.MaxNumber + 1, math.MaxInt, -1, math.MinInt} {
		wantNoDecimal(t, impl.Decimal(n))
	}
}

// Every text of one or two bytes is read just when it is what Decimal writes.
func TestReadDecimalOfEveryShortText(t *testing.T) {
	written := map[string]int{}
	for n := range 100 {
		written[strconv.Itoa(n)] = n
	}
	check := func(text string) {
		n, there := written[text]
		if got, ok := impl.ReadDecimal(text); got != n || ok != there {
			t.Errorf("ReadDecimal(%q) = %d, %v; want %d, %v", text, got, ok, n, there)
		}
	}
	for a := range 256 {
		check(string([]byte{byte(a)}))
		for b := range 256 {
			check(string([]byte{byte(a), byte(b)}))
		}
	}
}

func wantParts(t *testing.T, line string, want ...string) {
	t.Helper()
	if got, ok := impl.PartsOf(line); !slices.Equal(got, want) || !ok {
		t.Errorf("PartsOf(%.40q of %d) = %q, %v; want %q", line, len(line), got, ok, want)
	}
}

func wantNoParts(t *testing.T, line string) {
	t.Helper()
	if got, ok := impl.PartsOf(line); len(got) != 0 || ok {
		t.Errorf("PartsOf(%.40q of %d) = %q, %v; want a false", line, len(line), got, ok)
	}
}

func TestPartsOfLines(t *testing.T) {
	wantParts(t, "")
	wantParts(t, " ")
	wantParts(t, strings.Repeat(" ", impl.MaxWords))
	wantParts(t, "a", "a")
	wantParts(t, " tick  1 2 ", "tick", "1", "2")
	wantParts(t, "select inbox 1 7", "select", "inbox", "1", "7")
	wantParts(t, "   a   b", "a", "b")
	wantParts(t, "a b   ", "a", "b")
	wantParts(t, "! ~ #x (seen deleted)", "!", "~", "#x", "(seen", "deleted)")
	printable := allBytes()[33:127]
	wantParts(t, printable, printable)
}

func TestPartsOfLimits(t *testing.T) {
	long := strings.Repeat("x", impl.MaxWords)
	wantParts(t, long, long)
	wantParts(t, " "+long[:impl.MaxWords-2]+" ", long[:impl.MaxWords-2])
	wantNoParts(t, long+"x")
	wantNoParts(t, " "+long)
	wantNoParts(t, long+" ")
	wantNoParts(t, strings.Repeat(" ", impl.MaxWords+1))
	ten := strings.Fields("a b c d e f g h i j")
	wantParts(t, strings.Join(ten, " "), ten...)
	wantParts(t, "  "+strings.Join(ten, "   ")+"  ", ten...)
	wantNoParts(t, strings.Join(ten, " ")+" k")
	wantNoParts(t, strings.Repeat("a ", impl.MaxWords/2))
}

func TestPartsOfWrongBytes(t *testing.T) {
	for c := range 256 {
		one := string([]byte{byte(c)})
		for _, line := range []string{one, "a" + one, one + "a", "a " + one + " b", strings.Repeat(" ", impl.MaxWords-1) + one} {
			if c < 32 || c > 126 {
				wantNoParts(t, line)
			} else {
				wantParts(t, line, strings.Fields(line)...)
			}
		}
	}
	wantNoParts(t, "caf\u00e9")
	wantNoParts(t, "a\u00a0b")
	wantNoParts(t, "a\tb")
	wantNoParts(t, "a\n")
}

// lies tells whether the memory of part is within that of whole.
func lies(part string, whole string) bool {
	from := uintptr(unsafe.Pointer(unsafe.StringData(whole)))
	at := uintptr(unsafe.Pointer(unsafe.StringData(part)))
	return part != "" && at >= from && at < from+uintptr(len(whole))
}

func TestWordsAnswerNewMemory(t *testing.T) {
	short, _ := impl.ShortText("some text")
	s, _, ok := impl.ReadShort(short, 0)
	if !ok || lies(s, short) {
		t.Error("ReadShort shares the memory of its argument")
	}
	line := strings.Join([]string{"some", "words"}, " ")
	parts, ok := impl.PartsOf(line)
	if !ok || len(parts) != 2 || lies(parts[0], line) || lies(parts[1], line) {
		t.Error("PartsOf shares the memory of its argument")
	}
}
