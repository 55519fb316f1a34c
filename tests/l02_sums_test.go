package tests

import (
	"encoding/binary"
	"math/rand"
	"strings"
	"testing"

	"loop.example/g00247/impl"
)

// plainSum is the document's rule, bit by bit.
func plainSum(sum uint32, text string) uint32 {
	for _, c := range []byte(text) {
		sum ^= uint32(c)
		for range 8 {
			odd := sum%2 == 1
			sum /= 2
			if odd {
				sum ^= 3558460437
			}
		}
	}
	return sum
}

// drawnText has size bytes of any kind.
func drawnText(r *rand.Rand, size int) string {
	b := make([]byte, size)
	r.Read(b)
	return string(b)
}

// someSums are sums to start from.
func someSums() []uint32 {
	list := []uint32{0, 1, 2, 128, 255, 256, 65535, 65536, 2147483647, 2147483648, 3558460437, 4294967294, 4294967295}
	r := rand.New(rand.NewSource(2))
	for range 20 {
		list = append(list, r.Uint32())
	}
	return list
}

func wantSum(t *testing.T, sum uint32, text string, want uint32) {
	t.Helper()
	if got := impl.SumMore(sum, text); got != want {
		t.Errorf("SumMore(%d, %.20q of %d) = %d; want %d", sum, text, len(text), got, want)
	}
}

// What is wanted here is worked out by hand from the document's rule.
func TestSumsKnown(t *testing.T) {
	wantSum(t, 0, "\x80", 3558460437)
	wantSum(t, 0, "\x00", 0)
	wantSum(t, 0, "\x00\x00\x00", 0)
	wantSum(t, 128, "\x00", 3558460437)
	wantSum(t, 256, "\x00", 1)
	wantSum(t, 128, "\x80", 0)
	wantSum(t, 384, "\x80", 1)
	wantSum(t, 4294967040, "\x00", 16777215)
	wantSum(t, 4294967295, "\xff", 16777215)
	wantSum(t, 0, "\x40", 3558460437/2^3558460437)
	if got := impl.SumOf("\xff"); got != 16777215 {
		t.Errorf("SumOf of the byte 255 is %d", got)
	}
}

func TestSumsOfNothing(t *testing.T) {
	for _, sum := range someSums() {
		wantSum(t, sum, "", sum)
	}
	if got := impl.SumOf(""); got != 4294967295 {
		t.Errorf("SumOf of nothing is %d", got)
	}
}

func TestSumsOfEveryByte(t *testing.T) {
	for c := range 256 {
		one := string([]byte{byte(c)})
		for _, sum := range someSums() {
			wantSum(t, sum, one, plainSum(sum, one))
		}
		if got := impl.SumOf(one); got != plainSum(4294967295, one) {
			t.Errorf("SumOf(%q) = %d", one, got)
		}
	}
}

func TestSumsOfTexts(t *testing.T) {
	r := rand.New(rand.NewSource(3))
	list := []string{"a", "abc", "cba", "123456789", "\x00\x00\x00\x00", "\xff\xff\xff\xff", "two words", allBytes(),
		strings.Repeat("x", impl.MaxText), strings.Repeat("x", impl.MaxText+1), drawnText(r, 3*impl.MaxText)}
	for size := range 70 {
		list = append(list, drawnText(r, size))
	}
	for _, text := range list {
		for _, sum := range []uint32{0, 4294967295, 1, 2147483648, r.Uint32()} {
			wantSum(t, sum, text, plainSum(sum, text))
		}
		if got := impl.SumOf(text); got != plainSum(4294967295, text) {
			t.Errorf("SumOf(%.20q of %d) = %d", text, len(text), got)
		}
	}
}

func TestSumMoreGoesOn(t *testing.T) {
	r := rand.New(rand.NewSource(4))
	for _, text := range []string{"", "a", "ab", "abc", "\x00\x00\x00", "\x80\x00\x80", allBytes(), drawnText(r, 300)} {
		for at := range len(text) + 1 {
			first, second := text[:at], text[at:]
			if got := impl.SumMore(impl.SumOf(first), second); got != impl.SumOf(text) {
				t.Errorf("SumMore behind SumOf(%.20q), parted at %d, is %d", text, at, got)
			}
			for _, sum := range []uint32{0, 1, 3558460437, 4294967295} {
				wantSum(t, impl.SumMore(sum, first), second, impl.SumMore(sum, text))
			}
		}
	}
}

// sealedTexts are texts that can be sealed.
func sealedTexts() []string {
	r := rand.New(rand.NewSource(5))
	list := []string{"", "\x00", "\xff", "a", "abc", "\x00\x00\x00\x00", "\xff\xff\xff\xff", allBytes(),
		strings.Repeat("\x00", impl.MaxText-1), strings.Repeat("s", impl.MaxText), drawnText(r, impl.MaxText)}
	for size := range 40 {
		list = append(list, drawnText(r, size))
	}
	return list
}

func wantSealed(t *testing.T, text string) string {
	t.Helper()
	want := text + string(binary.BigEndian.AppendUint32(nil, plainSum(4294967295, text)))
	got, ok := impl.Sealed(text)
	if got != want || !ok {
		t.Fatalf("Sealed(%.20q of %d) is %d bytes, %v", text, len(text), len(got), ok)
	}
	return got
}

func wantUnsealed(t *testing.T, text string, want string) {
	t.Helper()
	if got, ok := impl.Unsealed(text); got != want || !ok {
		t.Errorf("Unsealed(%.20q of %d) = %.20q of %d, %v", text, len(text), got, len(got), ok)
	}
}

func wantNotUnsealed(t *testing.T, text string) {
	t.Helper()
	if got, ok := impl.Unsealed(text); got != "" || ok {
		t.Errorf("Unsealed(%.20q of %d) = %.20q of %d, %v; want a false", text, len(text), got, len(got), ok)
	}
}

func TestSealedForms(t *testing.T) {
	for _, c := range []struct{ text, want string }{
		{"", "\xff\xff\xff\xff"},
		{"\xff", "\xff\x00\xff\xff\xff"},
	} {
		if got, ok := impl.Sealed(c.text); got != c.want || !ok {
			t.Errorf("Sealed(%q) = %q, %v; want %q", c.text, got, ok, c.want)
		}
	}
}

func TestSealedIsUnsealed(t *testing.T) {
	for _, text := range sealedTexts() {
		wantUnsealed(t, wantSealed(t, text), text)
	}
	// A sealed text is a text, too, and can be sealed again.
	twice := wantSealed(t, wantSealed(t, "abc"))
	wantUnsealed(t, twice, wantSealed(t, "abc"))
}

func TestSealedLimits(t *testing.T) {
	for _, size := range []int{impl.MaxText + 1, impl.MaxText + 4, 2 * impl.MaxText} {
		text := strings.Repeat("s", size)
		if got, ok := impl.Sealed(text); got != "" || ok {
			t.Errorf("Sealed of %d bytes is %d bytes, %v", size, len(got), ok)
		}
		// The sum is right here: it is refused for its length alone.
		wantNotUnsealed(t, text+string(binary.BigEndian.AppendUint32(nil, plainSum(4294967295, text))))
	}
	most := strings.Repeat("s", impl.MaxText)
	sealed := wantSealed(t, most)
	if len(sealed) != impl.MaxText+4 {
		t.Errorf("Sealed of MaxText bytes has %d bytes", len(sealed))
	}
	wantUnsealed(t, sealed, most)
}

func TestUnsealedOfTooFew(t *testing.T) {
	for size := range 4 {
		for _, c := range []string{"\x00", "\xff", "a"} {
			wantNotUnsealed(t, strings.Repeat(c, size))
		}
	}
	wantUnsealed(t, "\xff\xff\xff\xff", "")
	for _, text := range []string{"\x00\x00\x00\x00", "\xff\xff\xff\xfe", "\x7f\xff\xff\xff", "abcd"} {
		wantNotUnsealed(t, text)
	}
}

// turned is text with the byte at a place turned by some bits.
func turned(text string, at int, bits int) string {
	b := []byte(text)
	b[at] ^= byte(bits)
	return string(b)
}

func TestUnsealedTellsEveryTurnedByte(t *testing.T) {
	for _, text := range []string{"", "a", "abc", "\x00\x00\x00\x00", "\xff\xff\xff\xff", "From: a\n\nbody", allBytes()[:64]} {
		sealed := wantSealed(t, text)
		for at := range len(sealed) {
			for bits := 1; bits < 256; bits++ {
				wantNotUnsealed(t, turned(sealed, at, bits))
			}
		}
	}
}

func TestUnsealedTellsTurnedBytesOfLongTexts(t *testing.T) {
	r := rand.New(rand.NewSource(6))
	sealed := wantSealed(t, drawnText(r, impl.MaxText))
	for _, at := range []int{0, 1, impl.MaxText / 2, impl.MaxText - 1, impl.MaxText, impl.MaxText + 1, impl.MaxText + 2, impl.MaxText + 3} {
		for _, bits := range []int{1, 16, 128, 255} {
			wantNotUnsealed(t, turned(sealed, at, bits))
		}
	}
	for range 200 {
		wantNotUnsealed(t, turned(sealed, r.Intn(len(sealed)), 1+r.Intn(255)))
	}
}

func TestUnsealedOfOtherLengths(t *testing.T) {
	for _, text := range []string{"", "a", "abc", "\xff\xff", allBytes()} {
		sealed := wantSealed(t, text)
		wantNotUnsealed(t, sealed[:len(sealed)-1])
		wantNotUnsealed(t, sealed[1:])
		for c := range 256 {
			wantNotUnsealed(t, sealed+string([]byte{byte(c)}))
		}
	}
}

// The sum's bytes stand the highest first; in any other order they are no sum of this text.
func TestUnsealedOrderOfBytes(t *testing.T) {
	sealed := wantSealed(t, "abc")
	b := []byte(sealed)
	for i, j := range []int{6, 5, 4, 3} {
		b[3+i] = sealed[j]
	}
	wantNotUnsealed(t, string(b))
	wantNotUnsealed(t, sealed[3:]+sealed[:3])
}

func TestSumsShareNoMemory(t *testing.T) {
	sealed := wantSealed(t, "a text of some length")
	text, ok := impl.Unsealed(sealed)
	if !ok || lies(text, sealed) {
		t.Error("Unsealed answers a piece of its argument")
	}
	if again, _ := impl.Sealed(text); lies(text, again) || lies(again, text) {
		t.Error("Sealed answers its argument's memory")
	}
}
