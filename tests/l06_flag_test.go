package tests

import (
	"maps"
	"math"
	"math/rand"
	"slices"
	"strings"
	"testing"

	"loop.example/g00247/impl"
)

const (
	smallOnes = "abcdefghijklmnopqrstuvwxyz"
	greatOnes = "ABCDEFGHIJKLMNOPQRSTUVWXYZ"
)

// flagWords has the words of the flags in the order of the document; the bit of each is told by flagBits.
func flagWords() []string {
	return []string{"seen", "answered", "flagged", "deleted", "draft"}
}

func flagBits() []int { return []int{1, 2, 4, 8, 16} }

// wrongBits are bits that are not right.
func wrongBits() []int {
	return []int{
		-1, -2, -8, -16, -31, -32, -33, -64, math.MinInt, math.MinInt + 1, math.MinInt + 9,
		32, 33, 40, 63, 64, 127, 128, 255, 256, 1 << 31, 1<<32 + 1, 1 << 62, math.MaxInt - 31, math.MaxInt,
	}
}

// textOf has the words in parentheses, with one blank between.
func textOf(words ...string) string { return "(" + strings.Join(words, " ") + ")" }

// orders are the lists of some of the words, each at most once, in every order.
func orders(words []string) [][]string {
	out := [][]string{nil}
	for i, first := range words {
		others := slices.Delete(slices.Clone(words), i, i+1)
		for _, rest := range orders(others) {
			out = append(out, append([]string{first}, rest...))
		}
	}
	return out
}

func bitsOfWords(words []string) int {
	sum := 0
	for i, word := range flagWords() {
		if slices.Contains(words, word) {
			sum += flagBits()[i]
		}
	}
	return sum
}

// flagTexts has the bits of every text of small letters that tells flags.
func flagTexts() map[string]int {
	out := map[string]int{}
	for _, words := range orders(flagWords()) {
		out[textOf(words...)] = bitsOfWords(words)
	}
	return out
}

// plainSmall has each of the 26 great letters as its small one, and every other byte as it is.
func plainSmall(text string) string {
	var out []byte
	for i := range len(text) {
		c := text[i]
		if at := strings.IndexByte(greatOnes, c); at >= 0 {
			c = smallOnes[at]
		}
		out = append(out, c)
	}
	return string(out)
}

// wantAsTold holds ReadFlags against the texts that tell flags, of which there are no others.
func wantAsTold(t *testing.T, texts map[string]int, text string) {
	t.Helper()
	want, right := texts[plainSmall(text)]
	if got, ok := impl.ReadFlags(text); got != want || ok != right {
		t.Errorf("ReadFlags(%q) = %d, %v; want %d, %v", text, got, ok, want, right)
	}
}

func wantFlags(t *testing.T, text string, want int) {
	t.Helper()
	if got, ok := impl.ReadFlags(text); got != want || !ok {
		t.Errorf("ReadFlags(%q) = %d, %v; want %d, true", text, got, ok, want)
	}
}

func wantNoFlags(t *testing.T, text string) {
	t.Helper()
	if got, ok := impl.ReadFlags(text); got != 0 || ok {
		t.Errorf("ReadFlags(%q) = %d, %v; want 0, false", text, got, ok)
	}
}

func wantAfter(t *testing.T, old int, how int, bits int, want int) {
	t.Helper()
	if got := impl.FlagsAfter(old, how, bits); got != want {
		t.Errorf("FlagsAfter(%d, %d, %d) = %d; want %d", old, how, bits, got, want)
	}
}

func TestFlagConstants(t *testing.T) {
	got := []int{impl.FlagSeen, impl.FlagAnswered, impl.FlagFlagged, impl.FlagDeleted, impl.FlagDraft}
	if !slices.Equal(got, flagBits()) {
		t.Errorf("the flags are %v; want %v", got, flagBits())
	}
	hows := []int{impl.HowSet, impl.HowAdd, impl.HowTake}
	if !slices.Equal(hows, []int{1, 2, 3}) {
		t.Errorf("the hows are %v; want 1, 2, 3", hows)
	}
}

func TestFlagsOk(t *testing.T) {
	for bits := range 32 {
		if !impl.FlagsOk(bits) {
			t.Errorf("FlagsOk(%d) is false", bits)
		}
	}
	for _, bits := range wrongBits() {
		if impl.FlagsOk(bits) {
			t.Errorf("FlagsOk(%d) is true", bits)
		}
	}
	for bits := -3000; bits <= 3000; bits++ {
		if got := impl.FlagsOk(bits); got != (bits >= 0 && bits <= 31) {
			t.Errorf("FlagsOk(%d) = %v", bits, got)
		}
	}
}

func TestFlagsTextForms(t *testing.T) {
	forms := map[int]string{
		0:                 "()",
		impl.FlagSeen:     "(seen)",
		impl.FlagAnswered: "(answered)",
		impl.FlagFlagged:  "(flagged)",
		impl.FlagDeleted:  "(deleted)",
		impl.FlagDraft:    "(draft)",
		9:                 "(seen deleted)",
		17:                "(seen draft)",
		22:                "(answered flagged draft)",
		30:                "(answered flagged deleted draft)",
		31:                "(seen answered flagged deleted draft)",
	}
	for bits, want := range forms {
		if got := impl.FlagsText(bits); got != want {
			t.Errorf("FlagsText(%d) = %q; want %q", bits, got, want)
		}
		wantFlags(t, want, bits)
	}
}

func TestFlagsTextOfAllBits(t *testing.T) {
	seen := map[string]int{}
	for bits := range 32 {
		var words []string
		for i, word := range flagWords() {
			if bits/flagBits()[i]%2 == 1 {
				words = append(words, word)
			}
		}
		text := impl.FlagsText(bits)
		if want := textOf(words...); text != want {
			t.Errorf("FlagsText(%d) = %q; want %q", bits, text, want)
		}
		seen[text]++
		wantFlags(t, text, bits)
	}
	if len(seen) != 32 {
		t.Errorf("32 sets of flags have %d texts", len(seen))
	}
}

func TestFlagsTextOfWrongBits(t *testing.T) {
	for _, bits := range wrongBits() {
		if got := impl.FlagsText(bits); got != "" {
			t.Errorf("FlagsText(%d) = %q; want nothing", bits, got)
		}
	}
	wantNoFlags(t, "")
}

func TestReadFlagsInEveryOrder(t *testing.T) {
	texts := flagTexts()
	if len(texts) != 326 {
		t.Fatalf("five words have %d orders; want 326", len(texts))
	}
	for text, bits := range texts {
		wantFlags(t, text, bits)
		wantFlags(t, strings.ToUpper(text), bits)
	}
}

// mixed has text with each letter great whose bit stands in greats.
func mixed(text string, greats int) string {
	out := []byte(text)
	letter := 0
	for i, c := range out {
		if at := strings.IndexByte(smallOnes, c); at >= 0 {
			if greats>>letter&1 == 1 {
				out[i] = greatOnes[at]
			}
			letter++
		}
	}
	return string(out)
}

func TestReadFlagsInMixedLetters(t *testing.T) {
	wantFlags(t, "(Deleted seen)", 9)
	wantFlags(t, "(sEEN)", 1)
	wantFlags(t, "(DRAFT Answered fLaGgEd)", 22)
	for i, word := range flagWords() {
		for greats := range 1 << len(word) {
			wantFlags(t, textOf(mixed(word, greats)), flagBits()[i])
		}
	}
	r := rand.New(rand.NewSource(6))
	texts := flagTexts()
	for _, text := range slices.Sorted(maps.Keys(texts)) {
		for range 20 {
			wantFlags(t, mixed(text, r.Int()), texts[text])
		}
	}
}

func TestReadFlagsOfNone(t *testing.T) {
	wantFlags(t, "()", 0)
	for _, text := range []string{
		"", "(", ")", ")(", "( )", "(  )", " ()", "() ", "(()", "())", "(())", "()()", "[]", "{}", "<>", "\"\"",
		"(\x00)", "\x00()", "()\x00", "(\t)", "(\n)", "()\n", "\n()", "(,)", "(0)", "(none)", "-", "0", "31", "nil", "( ", " )",
	} {
		wantNoFlags(t, text)
	}
}

func TestReadFlagsToldTwice(t *testing.T) {
	words := flagWords()
	for _, word := range words {
		great := strings.ToUpper(word)
		for _, other := range []string{word, great, mixed(word, 1), mixed(word, 2)} {
			wantNoFlags(t, textOf(word, other))
			wantNoFlags(t, textOf(other, word))
			wantNoFlags(t, textOf(great, other))
			wantNoFlags(t, textOf(word, word, other))
			wantNoFlags(t, textOf(append(slices.Clone(words), other)...))
			wantNoFlags(t, textOf(append([]string{other}, words...)...))
		}
		for _, between := range words {
			wantNoFlags(t, textOf(word, between, word))
			wantNoFlags(t, textOf(great, between, word))
			wantNoFlags(t, textOf(word, between, great))
		}
	}
	wantNoFlags(t, "(seen seen)")
	wantNoFlags(t, "(Seen sEEN)")
}

func TestReadFlagsOfEveryFewWords(t *testing.T) {
	texts := flagTexts()
	words := flagWords()
	for _, word := range flagWords() {
		words = append(words, strings.ToUpper(word))
	}
	words = append(words, "", "see", "seens")
	for _, a := range words {
		for _, b := range words {
			wantAsTold(t, texts, textOf(a, b))
			for _, c := range words {
				wantAsTold(t, texts, textOf(a, b, c))
			}
		}
	}
}

func TestReadFlagsWithoutParentheses(t *testing.T) {
	for text := range flagTexts() {
		inner := text[1 : len(text)-1]
		for _, wrong := range []string{
			inner, "(" + inner, inner + ")", ")" + inner + "(", ")" + inner + ")", "(" + inner + "(",
			"[" + inner + "]", "{" + inner + "}", "<" + inner + ">", "\"" + inner + "\"", "(" + inner + "]",
			"(" + text, text + ")", "(" + text + ")", text + text, text + " " + text, text + "()", "()" + text,
		} {
			wantNoFlags(t, wrong)
		}
	}
}

func TestReadFlagsOfBytesAround(t *testing.T) {
	for text := range flagTexts() {
		for c := range 256 {
			one := string([]byte{byte(c)})
			wantNoFlags(t, one+text)
			wantNoFlags(t, text+one)
		}
		for _, more := range []string{"seen", "\r\n", "  ", "\x00\x00", "\ufeff"} {
			wantNoFlags(t, more+text)
			wantNoFlags(t, text+more)
		}
	}
}

func TestReadFlagsOfBlanks(t *testing.T) {
	for text := range flagTexts() {
		inner := text[1 : len(text)-1]
		wantNoFlags(t, "( "+inner+")")
		wantNoFlags(t, "("+inner+" )")
		wantNoFlags(t, "( "+inner+" )")
		words := strings.Split(inner, " ")
		if len(words) < 2 {
			continue
		}
		for _, between := range []string{"", "  ", "   ", "\t", "\n", "\r", "\v", "\f", "\x00", ",", ", ", "\u00a0", "\u2003", "\x85", "\xa0"} {
			wantNoFlags(t, "("+strings.Join(words, between)+")")
			wantNoFlags(t, "("+words[0]+between+strings.Join(words[1:], " ")+")")
		}
	}
}

func TestReadFlagsOfPartsOfWords(t *testing.T) {
	for _, word := range flagWords() {
		for from := range len(word) {
			for to := from; to <= len(word); to++ {
				part := word[from:to]
				if part == word {
					continue
				}
				wantNoFlags(t, textOf(part, "x"))
				wantNoFlags(t, textOf(word, part))
				wantNoFlags(t, textOf(part, word))
				if part != "" {
					wantNoFlags(t, textOf(part))
					wantNoFlags(t, textOf(strings.ToUpper(part)))
				}
			}
		}
		wantNoFlags(t, textOf(word+"s"))
		wantNoFlags(t, textOf(word+word))
		wantNoFlags(t, textOf("un"+word))
		wantNoFlags(t, textOf("\\"+word))
		wantNoFlags(t, textOf("$"+word))
	}
}

func TestReadFlagsOfOtherWords(t *testing.T) {
	for _, word := range []string{
		"recent", "junk", "all", "no", "none", "seem", "sene", "answer", "flag", "flags", "delete", "drafts", "draught",
		"0", "1", "2", "4", "8", "16", "31", "-1", "*", "(seen)", "(", ")", "()", "s een", "\"seen\"", "seen,answered",
	} {
		wantNoFlags(t, textOf(word))
		wantNoFlags(t, textOf("seen", word))
		wantNoFlags(t, textOf(word, "draft"))
	}
}

func TestReadFlagsOfLettersThatLookAlike(t *testing.T) {
	// The long s is folded to s, a dotted or wide letter looks like its plain one, and others have it as their small form.
	alike := map[string][]string{
		"s": {"\u017f", "\uff33", "\uff53", "\u0455", "$", "\u1e9e"},
		"e": {"\u00e9", "\u00c8", "\uff25", "\uff45", "\u0435", "\u212f", "e\u0301", "3"},
		"n": {"\u00f1", "\uff2e", "\uff4e", "\u207f"},
		"a": {"\u00e5", "\u212b", "\uff21", "\uff41", "\u0430", "@", "`"},
		"w": {"\uff37", "\uff57", "\u2c73"},
		"r": {"\uff32", "\uff52"},
		"d": {"\uff24", "\uff44", "\u0501"},
		"f": {"\uff26", "\uff46", "\u0192"},
		"l": {"\uff2c", "\uff4c", "1", "I", "i", "|", "\u0130", "\u0131"},
		"g": {"\uff27", "\uff47", "\u0261"},
		"t": {"\uff34", "\uff54", "+", "\u2020"},
	}
	for _, word := range flagWords() {
		for i := range len(word) {
			for _, other := range alike[word[i:i+1]] {
				wrong := word[:i] + other + word[i+1:]
				wantNoFlags(t, textOf(wrong))
				wantNoFlags(t, textOf(strings.ToUpper(word[:i])+other+word[i+1:]))
				wantNoFlags(t, textOf("seen", wrong))
				wantNoFlags(t, textOf(wrong, "draft"))
			}
		}
	}
}

// shortFlagTexts are the texts of at most two flags, and one of all of them.
func shortFlagTexts(texts map[string]int) []string {
	out := []string{"(draft deleted flagged answered seen)"}
	for text := range texts {
		if strings.Count(text, " ") < 2 {
			out = append(out, text)
		}
	}
	return out
}

func TestReadFlagsOfEveryChangedByte(t *testing.T) {
	texts := flagTexts()
	for _, text := range shortFlagTexts(texts) {
		for at := range len(text) + 1 {
			wantAsTold(t, texts, text[:at])
			wantAsTold(t, texts, text[at:])
			for c := range 256 {
				one := string([]byte{byte(c)})
				wantAsTold(t, texts, text[:at]+one+text[at:])
				if at < len(text) {
					wantAsTold(t, texts, text[:at]+one+text[at+1:])
				}
			}
			if at < len(text) {
				wantAsTold(t, texts, text[:at]+text[at+1:])
			}
			if at+1 < len(text) {
				wantAsTold(t, texts, text[:at]+text[at+1:at+2]+text[at:at+1]+text[at+2:])
			}
		}
	}
}

func TestReadFlagsOfDrawnTexts(t *testing.T) {
	texts := flagTexts()
	pieces := []string{"(", ")", " ", " ", " ", "seen", "Seen", "answered", "ANSWERED", "flagged", "deleted", "draft", "Draft", "x", ""}
	r := rand.New(rand.NewSource(66))
	for range 40000 {
		text := ""
		for range r.Intn(7) {
			text += pieces[r.Intn(len(pieces))]
		}
		wantAsTold(t, texts, text)
		wantAsTold(t, texts, "("+text+")")
	}
}

func TestReadFlagsOfLongTexts(t *testing.T) {
	const many = 100000
	wantNoFlags(t, strings.Repeat("(", many))
	wantNoFlags(t, "("+strings.Repeat(" ", many)+")")
	wantNoFlags(t, "("+strings.Repeat("seen", many)+")")
	wantNoFlags(t, "("+strings.Repeat("seen ", many)+"seen)")
	wantNoFlags(t, "(seen"+strings.Repeat(" ", many)+"draft)")
	wantNoFlags(t, strings.Repeat("()", many))
}

func TestFlagsAfterForms(t *testing.T) {
	wantAfter(t, 9, impl.HowTake, 1, 8)
	wantAfter(t, 8, impl.HowAdd, 9, 9)
	wantAfter(t, 9, impl.HowSet, 6, 6)
	wantAfter(t, 9, impl.HowAdd, 6, 15)
	wantAfter(t, 9, impl.HowTake, 6, 9)
	wantAfter(t, 0, impl.HowTake, 31, 0)
	wantAfter(t, 31, impl.HowTake, 31, 0)
	wantAfter(t, 31, impl.HowSet, 0, 0)
	wantAfter(t, 31, impl.HowAdd, 0, 31)
	wantAfter(t, 31, impl.HowTake, 0, 31)
	wantAfter(t, 0, impl.HowSet, 31, 31)
	wantAfter(t, 0, impl.HowAdd, 31, 31)
	wantAfter(t, impl.FlagDraft, impl.HowAdd, impl.FlagDraft, impl.FlagDraft)
}

// plainAfter has the flags of the document's rule, looked at one by one.
func plainAfter(old int, how int, bits int) int {
	sum := 0
	for _, one := range flagBits() {
		was, told := old/one%2 == 1, bits/one%2 == 1
		there := was
		switch {
		case how == 1:
			there = told
		case how == 2 && told:
			there = true
		case how == 3 && told:
			there = false
		}
		if there {
			sum += one
		}
	}
	return sum
}

func TestFlagsAfterOfAllBits(t *testing.T) {
	for old := range 32 {
		for bits := range 32 {
			for how := 1; how <= 3; how++ {
				got := impl.FlagsAfter(old, how, bits)
				if want := plainAfter(old, how, bits); got != want {
					t.Errorf("FlagsAfter(%d, %d, %d) = %d; want %d", old, how, bits, got, want)
				}
				if !impl.FlagsOk(got) || impl.FlagsAfter(got, how, bits) != got {
					t.Errorf("FlagsAfter(%d, %d, %d) = %d, which is not right or changes again", old, how, bits, got)
				}
			}
		}
	}
}

// wrongHows are none of the three.
func wrongHows() []int {
	return []int{0, 4, -1, -2, -3, 5, 6, 7, 8, 257, 258, 259, 1<<32 + 1, math.MinInt, math.MinInt + 1, math.MaxInt}
}

func TestFlagsAfterOfWrongHows(t *testing.T) {
	for _, how := range wrongHows() {
		for old := range 32 {
			for bits := range 32 {
				wantAfter(t, old, how, bits, old)
			}
		}
	}
}

func TestFlagsAfterOfWrongBits(t *testing.T) {
	hows := append([]int{impl.HowSet, impl.HowAdd, impl.HowTake}, wrongHows()...)
	for _, how := range hows {
		for _, wrong := range wrongBits() {
			for right := range 32 {
				wantAfter(t, right, how, wrong, right)
				wantAfter(t, wrong, how, right, wrong)
			}
			for _, other := range wrongBits() {
				wantAfter(t, wrong, how, other, wrong)
			}
		}
	}
}

func TestFlagsKeepNothing(t *testing.T) {
	before := impl.FlagsText(31)
	wantNoFlags(t, "(seen draft seen)")
	wantFlags(t, "()", 0)
	wantFlags(t, "(draft)", 16)
	wantAfter(t, 16, impl.HowAdd, 1, 17)
	wantFlags(t, "(draft)", 16)
	if impl.FlagsText(0) != "()" || impl.FlagsText(16) != "(draft)" || impl.FlagsText(31) != before {
		t.Error("FlagsText hangs on what was asked ahead of it")
	}
}
