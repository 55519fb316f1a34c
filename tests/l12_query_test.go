package tests

import (
	"fmt"
	"math"
	"math/rand"
	"regexp"
	"slices"
	"strconv"
	"strings"
	"testing"

	"loop.example/g00247/impl"
)

// The document's numbers, told anew: what the program calls them may be wrong.
const (
	keyAll     = 1
	keyFlag    = 2
	keyNot     = 3
	keySubject = 4
	keyText    = 5
	keyUid     = 6
	keySince   = 7
	mostKeys   = 6
)

func numKey(kind int, num int) impl.Key { return impl.Key{Kind: kind, Num: num} }

func textKey(kind int, text string) impl.Key { return impl.Key{Kind: kind, Text: text} }

func keysTold(keys []impl.Key) string {
	line := "["
	for _, k := range keys {
		line += fmt.Sprintf(" %d/%d/%.24q", k.Kind, k.Num, k.Text)
	}
	return line + " ]"
}

func wordsTold(words []string) string {
	line := "["
	for _, word := range words[:min(len(words), 14)] {
		line += fmt.Sprintf(" %.24q", word)
	}
	return line + fmt.Sprintf(" ] of %d", len(words))
}

// aloneKeys has the key of each word that tells one without another word.
func aloneKeys() map[string]impl.Key {
	keys := map[string]impl.Key{"all": {Kind: keyAll}}
	for i, word := range flagWords() {
		keys[word] = numKey(keyFlag, flagBits()[i])
		keys["un"+word] = numKey(keyNot, flagBits()[i])
	}
	return keys
}

var plainModseq = regexp.MustCompile(`\A(0|[1-9][0-9]{0,4}|100000)\z`)

// plainWordKey is the key of a name and a word.
func plainWordKey(name string, word string) (impl.Key, bool) {
	short := word != "" && len(word) < 21
	_, set := plainReadSet(word, topUid)
	switch {
	case name == "subject" && short:
		return textKey(keySubject, word), true
	case name == "text" && short:
		return textKey(keyText, word), true
	case name == "uid" && set:
		return textKey(keyUid, word), true
	case name == "modseq" && plainModseq.MatchString(word):
		n, _ := strconv.Atoi(word)
		return numKey(keySince, n), true
	}
	return impl.Key{}, false
}

// plainReadKeys is the document's rule: the words are one key and the words of others, or nothing.
func plainReadKeys(words []string) ([]impl.Key, bool) {
	keys := []impl.Key{}
	alone := aloneKeys()
	for at := 0; at < len(words); at++ {
		key, ok := alone[words[at]]
		if !ok && at+1 < len(words) {
			key, ok = plainWordKey(words[at], words[at+1])
			at++
		}
		if !ok {
			return nil, false
		}
		keys = append(keys, key)
	}
	if len(keys) < 1 || len(keys) > 6 {
		return nil, false
	}
	return keys, true
}

// plainHas looks for the part at each place of the text.
func plainHas(text string, part string) bool {
	text, part = plainSmall(text), plainSmall(part)
	for at := 0; at+len(part) <= len(text); at++ {
		if text[at:at+len(part)] == part {
			return true
		}
	}
	return false
}

func plainBaseOf(m impl.Mail) string {
	subject, _ := plainHeadOf(m.Text, "subject")
	return plainBase(subject)
}

// plainMatches is the document's rule for a mail with right flags.
func plainMatches(m impl.Mail, k impl.Key) bool {
	common := false
	for _, bit := range flagBits() {
		common = common || m.Flags/bit%2 == 1 && k.Num/bit%2 == 1
	}
	right := k.Num >= 0 && k.Num <= 31
	set, _ := plainReadSet(k.Text, topUid)
	switch k.Kind {
	case keyAll:
		return true
	case keyFlag:
		return right && common
	case keyNot:
		return right && !common
	case keySubject:
		return plainHas(plainBaseOf(m), k.Text)
	case keyText:
		return plainHas(m.Text, k.Text)
	case keyUid:
		return inSet(set, m.Uid)
	case keySince:
		return m.Mod > k.Num
	}
	return false
}

func plainSearch(b impl.Box, keys []impl.Key) []impl.Range {
	var uids []int
	for _, m := range b.Mails {
		no := func(k impl.Key) bool { return !plainMatches(m, k) }
		if !slices.ContainsFunc(keys, no) {
			uids = append(uids, m.Uid)
		}
	}
	if !plainBoxOk(b) {
		return nil
	}
	return setOfUids(uids)
}

// plainSorted takes the least that is left, again and again.
func plainSorted(b impl.Box, s []impl.Range) []int {
	if !plainBoxOk(b) {
		return nil
	}
	left := plainMailsIn(b, s)
	var uids []int
	for len(left) > 0 {
		least := 0
		for i, m := range left {
			x, y := plainBaseOf(m), plainBaseOf(left[least])
			if x < y || x == y && m.Uid < left[least].Uid {
				least = i
			}
		}
		uids = append(uids, left[least].Uid)
		left = slices.Delete(left, least, least+1)
	}
	return uids
}

// plainThreads puts the mails, which ascend by Uid, to the thread of their subject one by one.
func plainThreads(b impl.Box, s []impl.Range) [][]int {
	if !plainBoxOk(b) {
		return nil
	}
	var threads [][]int
	place := map[string]int{}
	for _, m := range plainMailsIn(b, s) {
		at, there := place[plainBaseOf(m)]
		if !there {
			at = len(threads)
			place[plainBaseOf(m)] = at
			threads = append(threads, nil)
		}
		threads[at] = append(threads[at], m.Uid)
	}
	return threads
}

func wantKeys(t *testing.T, words []string, want ...impl.Key) []impl.Key {
	t.Helper()
	got, ok := impl.ReadKeys(words)
	if !ok || !slices.Equal(got, want) {
		t.Fatalf("ReadKeys(%s) = %s, %v; want %s, true", wordsTold(words), keysTold(got), ok, keysTold(want))
	}
	return got
}

func wantNoKeys(t *testing.T, words ...string) {
	t.Helper()
	if got, ok := impl.ReadKeys(words); ok || len(got) != 0 {
		t.Fatalf("ReadKeys(%s) = %s, %v; want nothing, false", wordsTold(words), keysTold(got), ok)
	}
}

// wantKeysAsPlain tells whether the words tell keys, too.
func wantKeysAsPlain(t *testing.T, words []string) bool {
	t.Helper()
	want, ok := plainReadKeys(words)
	if !ok {
		wantNoKeys(t, words...)
		return false
	}
	wantKeys(t, words, want...)
	return true
}

func wantMatch(t *testing.T, m impl.Mail, k impl.Key, want bool) {
	t.Helper()
	if got := impl.Matches(m, k); got != want {
		t.Fatalf("Matches(%d/%d/%d/%.80q, %s) = %v", m.Uid, m.Flags, m.Mod, m.Text, keysTold([]impl.Key{k}), got)
	}
}

func wantFound(t *testing.T, b impl.Box, keys []impl.Key, want []impl.Range) {
	t.Helper()
	if got := impl.Search(b, keys); !slices.Equal(got, want) {
		t.Fatalf("Search(%s, %s) = %v; want %v", boxTold(b), keysTold(keys), got, want)
	}
}

func wantSorted(t *testing.T, b impl.Box, s []impl.Range, want ...int) {
	t.Helper()
	if got := impl.SortBySubject(b, s); !slices.Equal(got, want) {
		t.Fatalf("SortBySubject(%s, %v) = %v; want %v", boxTold(b), s, got, want)
	}
}

func wantThreads(t *testing.T, b impl.Box, s []impl.Range, want ...[]int) {
	t.Helper()
	if got := impl.Threads(b, s); !slices.EqualFunc(got, want, slices.Equal[[]int]) {
		t.Fatalf("Threads(%s, %v) = %v; want %v", boxTold(b), s, got, want)
	}
}

// wantLookedFor holds all three against the document's rules.
func wantLookedFor(t *testing.T, b impl.Box, keys []impl.Key, s []impl.Range) {
	t.Helper()
	wantFound(t, b, keys, plainSearch(b, keys))
	wantSorted(t, b, s, plainSorted(b, s)...)
	wantThreads(t, b, s, plainThreads(b, s)...)
}

// titledBox has a mail for each text, from the Uid 1 on, with flags and Mods of several kinds.
func titledBox(texts ...string) impl.Box {
	b := impl.Box{Name: "inbox", Valid: 1, Next: len(texts) + 1, Mod: len(texts) + 40}
	for i, text := range texts {
		b.Mails = append(b.Mails, mail(i+1, i*7%32, (i*11)%(len(texts)+3)+1, text))
	}
	return b
}

// queryBox has mails that answer one another, mails without a subject, and gaps between the Uids; of the Uids between some have Tombs.
func queryBox() impl.Box {
	return impl.Box{
		Name: "work", Valid: 2, Next: 31, Mod: 40, Horizon: 9,
		Mails: []impl.Mail{
			mail(2, 0, 11, "Subject: Lunch\nFrom: ann\n\nWhen?"),
			mail(3, 1, 30, "subject: RE: lunch \nfrom: Bob\n\nat noon"),
			mail(5, 9, 2, "From: eve\n\nSubject: lunch"),
			mail(8, 31, 40, "subject: Fwd: Accounts\n"),
			mail(9, 4, 12, "SUBJECT:re:fwd: Re: LUNCH\n\n"),
			mail(10, 16, 13, "subject:\n\nnothing to say"),
			mail(17, 2, 14, "from: ann\nsubject: accounts"),
			mail(21, 3, 30, "subject: re: \nto: all\n\nLunch, ALL of it"),
			mail(30, 12, 7, "subject: lunch at noon\nsubject: accounts\n"),
		},
		Tombs: []impl.Tomb{tomb(4, 10), tomb(29, 33), tomb(6, 35)},
	}
}

// someKeys are keys of each Kind: some that mails of the query box have, and some that none has.
func someKeys() []impl.Key {
	return []impl.Key{
		{Kind: keyAll}, numKey(keyFlag, 1), numKey(keyFlag, 12), numKey(keyFlag, 31), numKey(keyFlag, 0), numKey(keyFlag, 32), numKey(keyNot, 1), numKey(keyNot, 6), numKey(keyNot, 31), numKey(keyNot, 0), numKey(keyNot, -1),
		textKey(keySubject, "lunch"), textKey(keySubject, "LUNCH"), textKey(keySubject, "re:"), textKey(keySubject, ""), textKey(keySubject, "accounts"), textKey(keyText, "Lunch"), textKey(keyText, "re:"), textKey(keyText, "ALL"), textKey(keyText, "zz"),
		textKey(keyUid, "1:9"), textKey(keyUid, "*"), textKey(keyUid, "10:*"), textKey(keyUid, "3,5,21"), textKey(keyUid, "x"), textKey(keyUid, ""), numKey(keySince, 0), numKey(keySince, 13), numKey(keySince, 30), numKey(keySince, 40), numKey(0, 0), numKey(8, 1),
	}
}

func TestQueryConstants(t *testing.T) {
	got := []int{impl.KeyAll, impl.KeyFlag, impl.KeyNot, impl.KeySubject, impl.KeyText, impl.KeyUid, impl.KeySince, impl.MaxKeys}
	if want := []int{1, 2, 3, 4, 5, 6, 7, 6}; !slices.Equal(got, want) {
		t.Errorf("the constants are %v; want %v", got, want)
	}
}

func TestReadKeysAlone(t *testing.T) {
	for _, c := range []struct {
		line string
		key  impl.Key
	}{
		{"all", impl.Key{Kind: 1}},
		{"seen", impl.Key{Kind: 2, Num: 1}},
		{"answered", impl.Key{Kind: 2, Num: 2}},
		{"flagged", impl.Key{Kind: 2, Num: 4}},
		{"deleted", impl.Key{Kind: 2, Num: 8}},
		{"draft", impl.Key{Kind: 2, Num: 16}},
		{"unseen", impl.Key{Kind: 3, Num: 1}},
		{"unanswered", impl.Key{Kind: 3, Num: 2}},
		{"unflagged", impl.Key{Kind: 3, Num: 4}},
		{"undeleted", impl.Key{Kind: 3, Num: 8}},
		{"undraft", impl.Key{Kind: 3, Num: 16}},
		{"subject a", impl.Key{Kind: 4, Text: "a"}},
		{"subject Re:", impl.Key{Kind: 4, Text: "Re:"}},
		{"text Hello,", impl.Key{Kind: 5, Text: "Hello,"}},
		{"text 5", impl.Key{Kind: 5, Text: "5"}},
		{"uid 7", impl.Key{Kind: 6, Text: "7"}},
		{"uid *:3,0009,1", impl.Key{Kind: 6, Text: "*:3,0009,1"}},
		{"modseq 0", impl.Key{Kind: 7}},
		{"modseq 345", impl.Key{Kind: 7, Num: 345}},
	} {
		wantKeys(t, strings.Split(c.line, " "), c.key)
	}
}

// keyLines are the words of keys, of each kind, one key a list.
func keyLines() [][]string {
	lines := [][]string{{"all"}, {"subject", "Ab"}, {"text", "all"}, {"uid", "9:*"}, {"modseq", "100000"}, {"subject", "subject"}}
	for _, word := range flagWords() {
		lines = append(lines, []string{word}, []string{"un" + word})
	}
	return lines
}

func keyOfLine(line []string) impl.Key {
	key, ok := aloneKeys()[line[0]]
	if !ok {
		key, _ = plainWordKey(line[0], line[1])
	}
	return key
}

// Of several keys each is told in its place, whatever stands ahead of it and behind it.
func TestReadKeysOfSeveral(t *testing.T) {
	lines := keyLines()
	for _, a := range lines {
		wantKeys(t, a, keyOfLine(a))
		for _, b := range lines {
			wantKeys(t, slices.Concat(a, b), keyOfLine(a), keyOfLine(b))
			for _, c := range lines {
				wantKeys(t, slices.Concat(a, b, c), keyOfLine(a), keyOfLine(b), keyOfLine(c))
			}
		}
	}
}

// It is keys that are counted, not words.
func TestReadKeysLimits(t *testing.T) {
	lines := keyLines()
	for from := range len(lines) {
		var words []string
		var keys []impl.Key
		for count := 1; count <= 9; count++ {
			line := lines[(from+5*count)%len(lines)]
			words, keys = append(words, line...), append(keys, keyOfLine(line))
			if count <= mostKeys {
				wantKeys(t, words, keys...)
			} else {
				wantNoKeys(t, words...)
			}
		}
	}
	for _, line := range lines {
		for _, count := range []int{1, 5, 6} {
			wantKeys(t, slices.Repeat(line, count), slices.Repeat([]impl.Key{keyOfLine(line)}, count)...)
		}
		for _, count := range []int{7, 8, 12, 262, 70000} {
			wantNoKeys(t, slices.Repeat(line, count)...)
		}
		six := slices.Repeat(line, 6)
		for _, more := range []string{"", "x", "un", "uid", "subject", "7"} {
			wantNoKeys(t, append(slices.Clone(six), more)...)
		}
	}
}

func TestReadKeysOfNothing(t *testing.T) {
	wantNoKeys(t)
	wantNoKeys(t, []string{}...)
	wantNoKeys(t, "")
	wantNoKeys(t, "", "")
	wantNoKeys(t, "", "all")
	wantNoKeys(t, "all", "")
	// There are words in the room behind, but none that was handed in.
	wantNoKeys(t, []string{"all", "seen"}[:0]...)
	wantNoKeys(t, []string{"subject", "a"}[:1]...)
	wantNoKeys(t, []string{"all", "uid", "5"}[:2]...)
}

// A key that wants a word has none at the end; what stands behind it is its word, be it the name of a key or not.
func TestReadKeysWithoutAWord(t *testing.T) {
	for _, name := range []string{"subject", "text", "uid", "modseq"} {
		wantNoKeys(t, name)
		for _, line := range keyLines() {
			wantNoKeys(t, append(slices.Clone(line), name)...)
			wantNoKeys(t, slices.Concat(line, line, []string{name})...)
		}
	}
	for kind, name := range map[int]string{keySubject: "subject", keyText: "text"} {
		for _, word := range []string{"all", "seen", "unseen", "un", "subject", "text", "uid", "modseq", "5", " ", "*"} {
			wantKeys(t, []string{name, word}, textKey(kind, word))
			wantKeys(t, []string{name, word, "all"}, textKey(kind, word), impl.Key{Kind: keyAll})
			wantKeys(t, []string{"all", name, word}, impl.Key{Kind: keyAll}, textKey(kind, word))
		}
		wantNoKeys(t, name, name, name)
		wantKeys(t, []string{name, name, name, name}, textKey(kind, name), textKey(kind, name))
		wantNoKeys(t, name, "uid", "5")
		wantNoKeys(t, name, "modseq", "5")
		wantNoKeys(t, name, "a", "b")
		wantNoKeys(t, name, "", "all")
	}
	for _, name := range []string{"uid", "modseq"} {
		for _, line := range keyLines() {
			wantNoKeys(t, append([]string{name}, line...)...)
		}
		wantNoKeys(t, name, name, "5")
		wantNoKeys(t, name, "5", "6")
		wantNoKeys(t, name, "un")
	}
}

// The word of `subject` and `text` has 1 to 20 bytes, whatever they are.
func TestReadKeysOfWordSizes(t *testing.T) {
	for kind, name := range map[int]string{keySubject: "subject", keyText: "text"} {
		for size := range 300 {
			word := strings.Repeat("x", size)
			if size >= 1 && size <= 20 {
				wantKeys(t, []string{name, word, "seen"}, textKey(kind, word), numKey(keyFlag, 1))
			} else {
				wantNoKeys(t, name, word)
				wantNoKeys(t, name, word, "seen")
			}
		}
		wantNoKeys(t, name, strings.Repeat("x", 65536+10))
		wantKeys(t, []string{name, strings.Repeat("\u00e9", 10)}, textKey(kind, strings.Repeat("\u00e9", 10)))
		wantNoKeys(t, name, strings.Repeat("\u00e9", 10)+"a")
		wantNoKeys(t, name, strings.Repeat("\u00e9", 20))
		wantKeys(t, []string{name, strings.Repeat(" ", 20)}, textKey(kind, strings.Repeat(" ", 20)))
		for c := range 256 {
			word := string([]byte{byte(c)})
			wantKeys(t, []string{name, word}, textKey(kind, word))
		}
		for _, word := range append(oddTexts(), "\x00\x00", "a\nb", "A B", "\"", "(seen)") {
			wantKeys(t, []string{name, word}, textKey(kind, word))
		}
	}
}

func TestReadKeysOfNumbers(t *testing.T) {
	for _, n := range []int{0, 1, 2, 9, 10, 99, 100, 9999, 10000, 99999, 100000} {
		wantKeys(t, []string{"modseq", strconv.Itoa(n)}, numKey(keySince, n))
		wantKeys(t, []string{"modseq", strconv.Itoa(n), "modseq", "7"}, numKey(keySince, n), numKey(keySince, 7))
	}
	for _, word := range []string{
		"100001", "100002", "200000", "1000000", "1000000000", "1000000001", "4294967296", "4294967303", "18446744073709551616", "18446744073709551623", strings.Repeat("9", 5000),
		"-1", "-0", "+1", "00", "01", "0100000", "", " ", " 1", "1 ", "1.0", "1e3", "0x1", "1_000", "*", "a", "1:2", "1,2", "1\n", "\x001", "\uff11", "\u0661", "seen",
	} {
		wantNoKeys(t, "modseq", word)
		wantNoKeys(t, "all", "modseq", word)
		wantNoKeys(t, "modseq", word, "all")
	}
}

// The Text is the word as it is told, not the set that it tells; it may be longer than the word of another key.
func TestReadKeysOfSets(t *testing.T) {
	for _, word := range []string{
		"1", "9999", "0001", "0", "00", "10000", "12345", "*", "*:*", "*:1", "5:1", "1:*,3", "1,2,3,2,1", "3:5,4:9", "", ",", "1,", ",1", "1,,2", "1:", ":1", ":", "1:2:3", "**", "1*", "*1", "-1", "+1", " 1", "1 ", "1, 2", "a", "all", "1-2", "1;2", "1\n", "\x00", "\uff11", "$",
		singles(40, 2), singles(41, 2), singles(41, 1), singles(40, 2) + ",*", singles(39, 2) + ",*", singles(41, 2) + ",2", strings.Repeat("7,", 5000) + "7", strings.Repeat("7,", 5000), strings.Repeat("1", 21),
	} {
		_, ok := plainReadSet(word, topUid)
		if !ok {
			wantNoKeys(t, "uid", word)
			wantNoKeys(t, "uid", word, "all")
			wantNoKeys(t, "seen", "uid", word)
			continue
		}
		wantKeys(t, []string{"uid", word}, textKey(keyUid, word))
		wantKeys(t, []string{"uid", word, "uid", word}, textKey(keyUid, word), textKey(keyUid, word))
	}
	for _, s := range rightSets() {
		if text := plainSetText(s); text != "" {
			wantKeys(t, []string{"uid", text}, textKey(keyUid, text))
		}
	}
}

// Words that are no key: parts of keys, more than them, `un` with anything else, and other letters.
func TestReadKeysOfOtherWords(t *testing.T) {
	for _, words := range [][]string{
		{"un"}, {"un", "seen"}, {"un", "all"}, {"un", "un"}, {"all", "un"}, {"un", ""}, {"unall"}, {"ununseen"}, {"un seen"}, {"unun"}, {"seenun"}, {"not", "seen"}, {"unsubject", "a"}, {"untext", "a"}, {"unuid", "5"}, {"unmodseq", "5"},
		{"answerd"}, {"recent"}, {"new"}, {"old"}, {"from", "a"}, {"body", "a"}, {"since", "5"}, {"mod", "5"}, {"or", "seen", "draft"}, {"5"}, {"*"}, {"1:5"}, {"(seen)"}, {"\\seen"}, {"seen draft"}, {"subject a"}, {"subject:", "a"}, {"uid 5"}, {"uid5"}, {"modseq0"}, {"alll"}, {"KeyAll"}, {"1"},
	} {
		wantNoKeys(t, words...)
		wantNoKeys(t, append([]string{"all"}, words...)...)
		wantNoKeys(t, append(slices.Clone(words), "all")...)
	}
	for _, line := range keyLines() {
		for _, other := range []string{" " + line[0], line[0] + " ", line[0] + "\x00", line[0] + "s", "x" + line[0], line[0][1:], line[0][:len(line[0])-1]} {
			words := append([]string{other}, line[1:]...)
			wantNoKeys(t, words...)
			wantNoKeys(t, append([]string{"seen"}, words...)...)
		}
		for greats := range 1 << len(line[0]) {
			words := append([]string{mixed(line[0], greats)}, line[1:]...)
			if got := wantKeysAsPlain(t, words); got != (greats == 0) {
				t.Fatalf("%s: %v", wordsTold(words), got)
			}
		}
	}
	// The long s, and a letter of more bytes, are no letters of a key.
	for _, word := range []string{"\u017feen", "un\u017feen", "a\u217c\u217c", "\uff41ll", "\u0430ll", "dra\ufb05"} {
		wantNoKeys(t, word)
	}
}

// Every list of few words, of those that are keys, are none, and are words for keys.
func TestReadKeysOfEveryFewWords(t *testing.T) {
	words := []string{"all", "draft", "unseen", "un", "subject", "text", "uid", "modseq", "", "5", "100001", "*", "aBc"}
	lists := [][]string{nil}
	counts := map[bool]int{}
	for range 4 {
		var longer [][]string
		for _, list := range lists {
			for _, word := range words {
				longer = append(longer, append(slices.Clone(list), word))
			}
		}
		for _, list := range longer {
			counts[wantKeysAsPlain(t, list)]++
		}
		lists = longer
	}
	if counts[true] < 500 || counts[false] < 10000 {
		t.Errorf("%v of the lists tell keys", counts)
	}
}

func TestReadKeysOfDrawnWords(t *testing.T) {
	r := rand.New(rand.NewSource(12))
	lines := keyLines()
	counts := map[bool]int{}
	for range 20000 {
		var words []string
		for range r.Intn(9) {
			words = append(words, lines[r.Intn(len(lines))]...)
		}
		if len(words) > 0 && r.Intn(2) == 0 {
			at := r.Intn(len(words))
			switch r.Intn(4) {
			case 0:
				words = slices.Delete(words, at, at+1)
			case 1:
				words[at] = drawnText(r, r.Intn(24))
			case 2:
				words[at] = words[r.Intn(len(words))]
			case 3:
				words = slices.Insert(words, at, strconv.Itoa(r.Intn(200000)))
			}
		}
		counts[wantKeysAsPlain(t, words)]++
	}
	if counts[true] < 4000 || counts[false] < 4000 {
		t.Errorf("%v of the words tell keys", counts)
	}
}

func TestMatchesAll(t *testing.T) {
	for _, m := range append(queryBox().Mails, impl.Mail{}, mail(-1, -1, -1, "\x00"), mail(math.MaxInt, 77, math.MinInt, strings.Repeat("x", 5000))) {
		wantMatch(t, m, impl.Key{Kind: keyAll}, true)
		// What a Kind does not name is not looked at.
		wantMatch(t, m, impl.Key{Kind: keyAll, Num: -1, Text: "not there"}, true)
	}
}

func TestMatchesFlags(t *testing.T) {
	for _, c := range []struct {
		flags int
		num   int
		some  bool
	}{
		{1, 1, true}, {1, 2, false}, {0, 31, false}, {31, 31, true}, {31, 4, true}, {16, 15, false}, {16, 17, true}, {9, 6, false}, {9, 10, true}, {31, 0, false}, {0, 0, false},
	} {
		m := mail(1, c.flags, 1, "x")
		wantMatch(t, m, numKey(keyFlag, c.num), c.some)
		wantMatch(t, m, numKey(keyNot, c.num), !c.some)
	}
	for bits := range 32 {
		m := mail(3, bits, 5, "text")
		for num := range 32 {
			for _, kind := range []int{keyFlag, keyNot} {
				k := numKey(kind, num)
				wantMatch(t, m, k, plainMatches(m, k))
				wantMatch(t, mail(0, bits, -7, ""), impl.Key{Kind: kind, Num: num, Text: "zz"}, plainMatches(m, k))
			}
		}
		for _, num := range wrongBits() {
			wantMatch(t, m, numKey(keyFlag, num), false)
			wantMatch(t, m, numKey(keyNot, num), false)
		}
	}
	// A mail may have more than right flags: those that the key names count.
	for _, bits := range []int{33, 64 + 9, 1<<40 + 1} {
		wantMatch(t, mail(1, bits, 1, "x"), numKey(keyFlag, 1), true)
		wantMatch(t, mail(1, bits, 1, "x"), numKey(keyNot, 1), false)
		wantMatch(t, mail(1, bits, 1, "x"), numKey(keyFlag, 22), false)
		wantMatch(t, mail(1, bits, 1, "x"), numKey(keyNot, 22), true)
	}
}

func TestMatchesSubject(t *testing.T) {
	for _, c := range []struct {
		text string
		word string
		want bool
	}{
		{"subject: a\n", "a", true},
		{"subject: a\n", "A", true},
		{"SUBJECT: A\n", "a", true},
		{"subject: a\n", "b", false},
		{"subject: a\n", "subject", false},
		{"subject: a\n", ":", false},
		{"subject: a b c", "b", true},
		{"subject: a b c", "A B C", true},
		{"subject: a b c", "a  b", false},
		{"subject: a b c", "abc", false},
		{"subject: Lunch at noon", "LUNCH AT", true},
		{"subject: Lunch at noon", "noon ", false},
		{"subject:   a   \n", " ", false},
		{"subject: re: fwd: a\n", "re:", false},
		{"subject: re: fwd: a\n", "fwd", false},
		{"subject: re: fwd: a\n", " a", false},
		{"subject: re: fwd: a\n", "a", true},
		{"subject: a re: b\n", "re:", true},
		{"subject: a RE: b\n", "Re: B", true},
		{"subject: RE:FWD:re\n", "re", true},
		{"subject: re:\n", "re", false},
		{"subject: a\nsubject: b\n", "b", false},
		{"subject: a\nsubject: b\n", "a", true},
		{"from: x\nsubject: b", "b", true},
		{"from: x\nsubject: b", "x", false},
		{"from: x\n\nsubject: b", "b", false},
		{"\nsubject: b", "b", false},
		{"subjects: b\n", "b", false},
		{"subject b\n", "b", false},
		{"b", "b", false},
		{"", "b", false},
		{"subject: aab aaab", "aaab", true},
		{"subject: ababac", "abac", true},
		{"subject: a", "ab", false},
		{"subject: \u00c9t\u00e9", "\u00c9", true},
		{"subject: \u00c9t\u00e9", "\u00e9t\u00e9", false},
		{"subject: x\xffy\n", "\xff", true},
		{"subject: x\xffy\n", "X\xffY", true},
		{"subject: x\xffy\n", "\xfe", false},
		{"subject: \u212aelvin", "k", false},
		{"subject: kelvin", "\u212a", false},
		{"subject: mi\u017fs", "miss", false},
		{"subject: [x]", "{x}", false},
		{"subject: @`", "`@", false},
	} {
		wantMatch(t, mail(1, 0, 1, c.text), textKey(keySubject, c.word), c.want)
		wantMatch(t, mail(0, -1, 0, c.text), impl.Key{Kind: keySubject, Num: 77, Text: c.word}, c.want)
	}
}

func TestMatchesText(t *testing.T) {
	for _, c := range []struct {
		text string
		word string
		want bool
	}{
		{"subject: a\n", "subject", true},
		{"subject: a\n", "SUBJECT: A\n", true},
		{"subject: Re: a\n\nBody", "re:", true},
		{"subject: Re: a\n\nBody", "body", true},
		{"subject: Re: a\n\nBody", "a\n\nb", true},
		{"subject: Re: a\n\nBody", "a\nb", false},
		{"subject: Re: a\n\nBody", "bodys", false},
		{"subject: Re: a\n\nBody", " a", true},
		{"x", "x", true},
		{"x", "X", true},
		{"x", "xx", false},
		{"x", "y", false},
		{"", "x", false},
		{"aaab", "aab", true},
		{"abcabd", "ABD", true},
		{"a\x00b", "\x00", true},
		{"\xc3\xa9", "\xa9", true},
		{"\xc3\xa9", "\xc3\x89", false},
		{"K", "\u212a", false},
		{"\u212a", "k", false},
		{"\u017f", "s", false},
		{"[\\]^_", "{|}~", false},
		{"`{", "@[", false},
	} {
		wantMatch(t, mail(1, 0, 1, c.text), textKey(keyText, c.word), c.want)
		wantMatch(t, mail(0, -1, 0, c.text), impl.Key{Kind: keyText, Num: -1, Text: c.word}, c.want)
	}
	// Each of the letters is the same in both forms, and no other byte is another one.
	for c := range 256 {
		for d := range 256 {
			text, word := string([]byte{byte(c)}), string([]byte{byte(d)})
			wantMatch(t, mail(1, 0, 1, "."+text), textKey(keyText, "."+word), plainSmall(text) == plainSmall(word))
			if c != '\n' && c != ' ' {
				wantMatch(t, mail(1, 0, 1, "subject: ."+text), textKey(keySubject, "."+word), plainSmall(text) == plainSmall(word))
			}
		}
	}
}

// Every part of a mail is found in it, in letters great and small; the whole of it with one byte more is not.
func TestMatchesEveryPart(t *testing.T) {
	for i, text := range []string{someMail, "Subject: A b C\n\nx Y", "x"} {
		m := mail(i+1, 0, 1, text)
		for from := range len(text) + 1 {
			for to := from; to <= len(text); to++ {
				part := text[from:to]
				wantMatch(t, m, textKey(keyText, part), true)
				wantMatch(t, m, textKey(keyText, strings.ToUpper(part)), true)
				wantMatch(t, m, textKey(keyText, strings.ToLower(part)), true)
				wantMatch(t, m, textKey(keyText, part+"\x01"), false)
				wantMatch(t, m, textKey(keySubject, part), plainHas(plainBaseOf(m), part))
			}
		}
		wantMatch(t, m, textKey(keyText, text+text[:1]), false)
	}
	// Nothing is a part of everything, also of the subject of a mail that has none.
	for _, m := range append(queryBox().Mails, impl.Mail{}) {
		wantMatch(t, m, textKey(keyText, ""), true)
		wantMatch(t, m, textKey(keySubject, ""), true)
	}
}

func TestMatchesUid(t *testing.T) {
	for _, c := range []struct {
		text string
		in   []int
		out  []int
	}{
		{"5", []int{5}, []int{0, 1, 4, 6, -5, 55}},
		{"1:3,7", []int{1, 2, 3, 7}, []int{0, 4, 6, 8, 9999}},
		{"9:7", []int{7, 8, 9}, []int{6, 10}},
		{"*", []int{9999}, []int{1, 9998, 0, 10000}},
		{"9990:*", []int{9990, 9998, 9999}, []int{9989, 10000}},
		{"*:0003", []int{3, 4, 5000, 9999}, []int{2, 1, 0, 10000}},
		{"1,1,1", []int{1}, []int{0, 2}},
		{singles(40, 2), []int{1, 3, 79}, []int{2, 80, 81}},
		{"", nil, []int{0, 1, 5, 9999}},
		{"0", nil, []int{0, 1}},
		{"10000", nil, []int{1, 10000, 9999}},
		{"5,", nil, []int{5}},
		{"5,x", nil, []int{5}},
		{" 5", nil, []int{5}},
		{"1:2:3", nil, []int{1, 2, 3}},
		{"all", nil, []int{0, 1}},
		{singles(41, 2), nil, []int{1, 3, 79, 81}},
	} {
		for _, uid := range c.in {
			wantMatch(t, mail(uid, 0, 1, "x"), textKey(keyUid, c.text), true)
			wantMatch(t, mail(uid, -1, -1, ""), impl.Key{Kind: keyUid, Num: 99, Text: c.text}, true)
		}
		for _, uid := range append(c.out, math.MinInt, math.MaxInt) {
			wantMatch(t, mail(uid, 0, 1, "x"), textKey(keyUid, c.text), false)
		}
	}
}

func TestMatchesSince(t *testing.T) {
	far := []int{math.MinInt, math.MinInt + 1, -1, 0, 1, 2, 99999, 100000, 100001, math.MaxInt - 1, math.MaxInt}
	for _, mod := range far {
		for _, num := range far {
			wantMatch(t, mail(1, 0, mod, "x"), numKey(keySince, num), mod > num)
			wantMatch(t, mail(0, -1, mod, ""), impl.Key{Kind: keySince, Num: num, Text: "5"}, mod > num)
		}
	}
}

func TestMatchesOfNoKind(t *testing.T) {
	for _, kind := range []int{0, -1, -2, -7, 8, 9, 10, 16, 100, 1<<8 + 1, 1<<16 + 1, 1<<32 + 1, 1<<32 + 7, math.MinInt, math.MinInt + 1, math.MaxInt} {
		for _, m := range append(queryBox().Mails, impl.Mail{}) {
			for _, k := range someKeys() {
				k.Kind = kind
				wantMatch(t, m, k, false)
			}
		}
	}
}

// drawnQueryText is a mail of pieces that make subjects alike and not alike.
func drawnQueryText(r *rand.Rand) string {
	pieces := []string{"subject:", "Subject: ", "re: ", "Re:", "FWD: ", "fwd:", "a", "B", "b", "A", " ", "\n", "\n", "x: ", "\xff", "Ab"}
	text := ""
	if r.Intn(3) > 0 {
		text = pieces[r.Intn(2)]
	}
	for range 1 + r.Intn(6) {
		text += pieces[r.Intn(len(pieces))]
	}
	return text
}

func drawnKey(r *rand.Rand) impl.Key {
	words := []string{"a", "A", "ab", "B", "re:", "subject", " ", "\n", "x", "1", "5:*", "3:9", "*", "2,4,6,8", "\xff", "a b", "b\n"}
	k := impl.Key{Kind: 1 + r.Intn(7), Num: r.Intn(34) - 1, Text: words[r.Intn(len(words))]}
	if r.Intn(30) == 0 {
		k.Kind = r.Intn(12) - 2
	}
	return k
}

func TestMatchesOfDrawnMails(t *testing.T) {
	r := rand.New(rand.NewSource(13))
	counts := map[int][2]int{}
	for range 60000 {
		m := mail(1+r.Intn(12), r.Intn(32), 1+r.Intn(32), drawnQueryText(r))
		k := drawnKey(r)
		want := plainMatches(m, k)
		wantMatch(t, m, k, want)
		n := counts[k.Kind]
		n[boolNumber(want)]++
		counts[k.Kind] = n
	}
	for kind := keyFlag; kind <= keySince; kind++ {
		if n := counts[kind]; n[0] < 500 || n[1] < 500 {
			t.Errorf("of the Kind %d %v match", kind, n)
		}
	}
}

func TestSearchForms(t *testing.T) {
	b := queryBox()
	for _, c := range []struct {
		line string
		want []impl.Range
	}{
		{"all", setOf(span(2, 3), span(5, 5), span(8, 10), span(17, 17), span(21, 21), span(30, 30))},
		{"seen", setOf(span(3, 3), span(5, 5), span(8, 8), span(21, 21))},
		{"unseen", setOf(span(2, 2), span(9, 10), span(17, 17), span(30, 30))},
		{"answered", setOf(span(8, 8), span(17, 17), span(21, 21))},
		{"unflagged", setOf(span(2, 3), span(5, 5), span(10, 10), span(17, 17), span(21, 21))},
		{"deleted", setOf(span(5, 5), span(8, 8), span(30, 30))},
		{"draft", setOf(span(8, 8), span(10, 10))},
		{"subject lunch", setOf(span(2, 3), span(9, 9), span(30, 30))},
		{"subject LUNCH", setOf(span(2, 3), span(9, 9), span(30, 30))},
		{"subject accounts", setOf(span(8, 8), span(17, 17))},
		{"subject re:", nil},
		{"text re:", setOf(span(3, 3), span(9, 9), span(21, 21))},
		{"text lunch", setOf(span(2, 3), span(5, 5), span(9, 9), span(21, 21), span(30, 30))},
		{"text ann", setOf(span(2, 2), span(17, 17))},
		{"uid 3:9", setOf(span(3, 3), span(5, 5), span(8, 9))},
		{"uid *", nil},
		{"uid 30:*", setOf(span(30, 30))},
		{"uid 1,4,6:7", nil},
		{"modseq 13", setOf(span(3, 3), span(8, 8), span(17, 17), span(21, 21))},
		{"modseq 40", nil},
		{"modseq 39", setOf(span(8, 8))},
		{"modseq 0", setOf(span(2, 3), span(5, 5), span(8, 10), span(17, 17), span(21, 21), span(30, 30))},
		{"seen unseen", nil},
		{"seen seen seen", setOf(span(3, 3), span(5, 5), span(8, 8), span(21, 21))},
		{"seen text lunch", setOf(span(3, 3), span(5, 5), span(21, 21))},
		{"all unseen subject lunch", setOf(span(2, 2), span(9, 9), span(30, 30))},
		{"undeleted subject lunch modseq 11", setOf(span(3, 3), span(9, 9))},
		{"all unseen undraft text lunch uid 1:29 modseq 11", setOf(span(9, 9))},
	} {
		keys, ok := impl.ReadKeys(strings.Split(c.line, " "))
		if !ok {
			t.Fatalf("%q is not read", c.line)
		}
		wantFound(t, b, keys, c.want)
		slices.Reverse(keys)
		wantFound(t, b, keys, c.want)
	}
	// Without a key nothing is asked of a mail.
	wantFound(t, b, nil, setOf(span(2, 3), span(5, 5), span(8, 10), span(17, 17), span(21, 21), span(30, 30)))
	wantFound(t, b, []impl.Key{}, setOf(span(2, 3), span(5, 5), span(8, 10), span(17, 17), span(21, 21), span(30, 30)))
}

// What is found of several keys is what is found of each, in whatever order; what is found of one is what matches it.
func TestSearchOfKeys(t *testing.T) {
	b := queryBox()
	keys := someKeys()
	for _, x := range keys {
		var uids []int
		for _, m := range b.Mails {
			if impl.Matches(m, x) {
				uids = append(uids, m.Uid)
			}
		}
		wantFound(t, b, []impl.Key{x}, setOfUids(uids))
		wantFound(t, b, []impl.Key{x}, plainSearch(b, []impl.Key{x}))
		for _, y := range keys {
			pair := []impl.Key{x, y}
			both, _ := impl.SetMeet(impl.Search(b, pair[:1]), impl.Search(b, pair[1:]))
			wantFound(t, b, pair, both)
			for _, z := range keys {
				three := []impl.Key{x, y, z}
				wantFound(t, b, three, plainSearch(b, three))
			}
		}
	}
	// Search takes as many keys as there are, be they more than words may tell.
	many := slices.Repeat([]impl.Key{{Kind: keyAll}, numKey(keySince, 12)}, 500)
	wantFound(t, b, many, impl.Search(b, many[:2]))
	wantFound(t, b, append(many, numKey(keyFlag, 8)), setOf(span(8, 8)))
	wantFound(t, b, append(many, impl.Key{}), nil)
	wantFound(t, b, []impl.Key{{}}, nil)
}

// The most mails, no two of them side by side, are as many ranges.
func TestSearchOfFullBoxes(t *testing.T) {
	full := impl.Box{Name: "a", Valid: 1, Next: 9999, Mod: 100000}
	for i := range 30 {
		full.Mails = append(full.Mails, mail(2*i+1, i%2*8, i+1, "subject: re: x\n"))
	}
	wantFound(t, full, nil, sparse(30, 1, 1, 1))
	wantFound(t, full, []impl.Key{numKey(keyFlag, 8)}, sparse(15, 3, 1, 3))
	wantFound(t, full, []impl.Key{numKey(keySince, 29)}, setOf(span(59, 59)))
	for i := range full.Mails {
		full.Mails[i].Uid = 9969 + i
	}
	wantFound(t, full, nil, setOf(span(9969, 9998)))
	wantFound(t, full, []impl.Key{textKey(keyUid, "1:9980,*:9990")}, setOf(span(9969, 9980), span(9990, 9998)))
	wantFound(t, impl.Box{Name: "a", Valid: 1, Next: 1, Mod: 1}, nil, nil)
	wantFound(t, impl.Box{Name: "a", Valid: 1, Next: 1, Mod: 1}, []impl.Key{{Kind: keyAll}}, nil)
}

func TestSortBySubjectForms(t *testing.T) {
	all := setOf(span(1, topUid))
	b := queryBox()
	wantSorted(t, b, all, 5, 10, 21, 8, 17, 2, 3, 9, 30)
	wantSorted(t, b, setOf(span(3, 9), span(21, 30)), 5, 21, 8, 3, 9, 30)
	wantSorted(t, b, setOf(span(30, 30)), 30)
	wantSorted(t, b, setOf(span(9, 9), span(17, 17)), 17, 9)
	wantSorted(t, b, setOf(span(1, 1), span(4, 4), span(6, 7), span(31, topUid)))
	wantSorted(t, b, setOf(span(4, 5), span(29, 29)), 5)
	wantSorted(t, b, nil)
	wantSorted(t, b, []impl.Range{})
	// Texts are compared byte by byte, in small letters, a beginning being less.
	wantSorted(t, titledBox("subject: b", "subject: a", "subject: C", "subject: B"), all, 2, 1, 4, 3)
	wantSorted(t, titledBox("subject: ab", "subject: a b", "subject: a", "subject: A!", "subject: a"), all, 3, 5, 2, 4, 1)
	wantSorted(t, titledBox("subject: Z", "subject: _", "subject: a", "subject: [", "subject: {"), all, 4, 2, 3, 1, 5)
	wantSorted(t, titledBox("subject: \xff", "subject: \u00e9", "subject: e", "subject: z", "subject: \x01", "subject: \U0001f4e7"), all, 5, 3, 4, 2, 6, 1)
	wantSorted(t, titledBox("subject: 10", "subject: 9", "subject: 1", "subject: 09"), all, 4, 3, 1, 2)
	wantSorted(t, titledBox("subject: \u00c9", "subject: \u00e9"), all, 1, 2)
	wantSorted(t, titledBox("subject: \u00e9", "subject: \u00c9"), all, 2, 1)
	// What BaseSubject leaves out does not count: then the Uid does.
	wantSorted(t, titledBox("subject: re: x", "subject: X", "subject: fwd:re:  x ", "subject: a", "subject: Re: fwd: A"), all, 4, 5, 1, 2, 3)
	wantSorted(t, titledBox("subject: re: b", "subject: rea", "subject: fwdb", "subject: re a"), all, 1, 3, 4, 2)
}

func TestThreadsForms(t *testing.T) {
	all := setOf(span(1, topUid))
	b := queryBox()
	wantThreads(t, b, all, []int{2, 3, 9}, []int{5, 10, 21}, []int{8, 17}, []int{30})
	wantThreads(t, b, setOf(span(3, 9), span(17, 17)), []int{3, 9}, []int{5}, []int{8, 17})
	wantThreads(t, b, setOf(span(9, 9), span(17, 21)), []int{9}, []int{17}, []int{21})
	wantThreads(t, b, setOf(span(10, topUid)), []int{10, 21}, []int{17}, []int{30})
	wantThreads(t, b, setOf(span(1, 1), span(4, 4), span(6, 7), span(31, topUid)))
	wantThreads(t, b, nil)
	wantThreads(t, b, []impl.Range{})
	// In the order of the first Uid, not of the subject, nor of the size.
	wantThreads(t, titledBox("subject: z", "subject: b", "subject: a", "subject: re: a", "subject: fwd: z", "subject: RE: B", "subject: A"), all, []int{1, 5}, []int{2, 6}, []int{3, 4, 7})
	// Those without a subject are together, be there no head, nothing behind it, or nothing but what is left out.
	wantThreads(t, titledBox("x", "subject:", "from: a\n\nsubject: b", "subject: re: fwd:", "subject: b", "\nsubject: b", "Subject:  \nsubject: b"), all, []int{1, 2, 3, 4, 6, 7}, []int{5})
	// Those that differ in other bytes are not.
	wantThreads(t, titledBox("subject: a b", "subject: a  b", "subject: ab", "subject: re a b", "subject: a b re:", "subject: \ta b", "subject: a b."), all, []int{1}, []int{2}, []int{3}, []int{4}, []int{5}, []int{6}, []int{7})
	wantThreads(t, titledBox("subject: \u00e9", "subject: \u00c9", "subject: \xff", "subject: \xfe", "subject: RE:\xff"), all, []int{1}, []int{2}, []int{3, 5}, []int{4})
}

// Subjects that differ just in what BaseSubject leaves out are one, and stand in the order of Uid, however many there are.
func TestSubjectsThatAreOne(t *testing.T) {
	all := setOf(span(1, topUid))
	forms := []string{"a b", "A B", " a b ", "re: a b", "RE:a b", "fwd: a b", "Fwd: RE: a B", "re:re:re: A b", "fwd:fwd:a b  ", "re:  fwd:  a b"}
	var texts []string
	var uids, odd, even []int
	for i := range 30 {
		texts = append(texts, "subject:"+forms[i*7%len(forms)]+"\n\nbody")
		uids = append(uids, i+1)
		if i%2 == 0 {
			odd = append(odd, i+1)
		} else {
			even = append(even, i+1)
		}
	}
	wantSorted(t, titledBox(texts...), all, uids...)
	wantThreads(t, titledBox(texts...), all, uids)
	for i := range texts {
		if i%2 == 0 {
			texts[i] = strings.Replace(strings.ToLower(texts[i]), "a b", "x", 1)
		}
	}
	wantSorted(t, titledBox(texts...), all, append(slices.Clone(even), odd...)...)
	wantThreads(t, titledBox(texts...), all, odd, even)
	// And 30 that are not one are 30 threads.
	var threads [][]int
	for i := range texts {
		texts[i] = "subject: " + strconv.Itoa(100-i)
		threads = append(threads, []int{i + 1})
	}
	wantThreads(t, titledBox(texts...), all, threads...)
	slices.Reverse(uids)
	// Of 100 the text is less than of 99 and below.
	wantSorted(t, titledBox(texts...), all, append([]int{1}, uids[:29]...)...)
}

// The mails in s are those that SetHas finds there: the chapter asks no more of s.
func TestSortedAndThreadsOfAllSets(t *testing.T) {
	boxes := append(changedBoxes(rightChanges()), queryBox(), titledBox("subject: z", "subject: b", "a", "subject: re: b", "subject: a"))
	for _, b := range boxes {
		for _, s := range slices.Concat(allSets(), boxSets(), someWrongSets()) {
			wantLookedFor(t, b, nil, s)
		}
	}
	b := queryBox()
	wantSorted(t, b, setOf(span(0, 3), span(3, 5)), 5, 2, 3)
	wantSorted(t, b, setOf(span(21, 30), span(2, 3)), 21, 2, 3, 30)
	wantThreads(t, b, setOf(span(9, 9), span(2, 3), span(9, 9)), []int{2, 3, 9})
	wantThreads(t, b, setOf(span(math.MinInt, math.MaxInt)), []int{2, 3, 9}, []int{5, 10, 21}, []int{8, 17}, []int{30})
	wantThreads(t, b, setOf(span(9, 2)))
	wantSorted(t, b, setOf(span(9, 2)))
	wantSorted(t, b, sparse(50, 1, 1, 1), 5, 21, 17, 3, 9)
}

func TestSearchOfRightBoxes(t *testing.T) {
	for _, b := range changedBoxes(rightChanges()) {
		for _, k := range append(someKeys(), textKey(keyText, "E"), numKey(keySince, 12), textKey(keyText, "\xff")) {
			wantFound(t, b, []impl.Key{k}, plainSearch(b, []impl.Key{k}))
		}
		wantFound(t, b, nil, plainSearch(b, nil))
	}
}

// Of a box that is not right nothing is found, whichever of its fields is wrong, and whatever is looked for.
func TestQueriesOfWrongBoxes(t *testing.T) {
	sets := [][]impl.Range{nil, setOf(span(1, topUid)), setOf(span(2, 3)), setOf(span(0, math.MaxInt)), setOf(span(8, 8), span(2, 2))}
	for _, c := range wrongChanges() {
		b := someBox()
		c.do(&b)
		if impl.BoxOk(b) {
			t.Fatalf("with %s the box is right", c.what)
		}
		for _, keys := range [][]impl.Key{nil, {{Kind: keyAll}}, {numKey(keyNot, 0)}, {textKey(keyUid, "1:*")}, {numKey(keySince, -1), {Kind: keyAll}}, {{}}} {
			if got := impl.Search(b, keys); len(got) != 0 {
				t.Fatalf("with %s Search finds %v", c.what, got)
			}
		}
		for _, s := range sets {
			if got, threads := impl.SortBySubject(b, s), impl.Threads(b, s); len(got) != 0 || len(threads) != 0 {
				t.Fatalf("with %s SortBySubject has %v, Threads %v", c.what, got, threads)
			}
		}
	}
}

// drawnQueryBox is a right box of mails whose subjects are often alike.
func drawnQueryBox(r *rand.Rand) impl.Box {
	b := impl.Box{Name: "drawn", Valid: 1, Next: 1 + r.Intn(3), Mod: 40}
	for range r.Intn(31) {
		b.Mails = append(b.Mails, mail(b.Next, r.Intn(32), 1+r.Intn(40), drawnQueryText(r)))
		b.Next += 1 + r.Intn(2)
		if r.Intn(4) == 0 && len(b.Tombs) < 40 {
			b.Tombs = append(b.Tombs, tomb(b.Next, len(b.Tombs)+1))
			b.Next++
		}
	}
	b.Next++
	return b
}

// wantPutTogether holds what is sorted and what is put together against what was found, without the document's subjects.
func wantPutTogether(t *testing.T, b impl.Box, found []impl.Range) {
	t.Helper()
	sorted, threads := impl.SortBySubject(b, found), impl.Threads(b, found)
	together := slices.Sorted(slices.Values(slices.Concat(threads...)))
	ascending := slices.Sorted(slices.Values(sorted))
	if !slices.Equal(setOfUids(sorted), found) || !slices.Equal(together, ascending) || len(slices.Compact(ascending)) != len(sorted) {
		t.Fatalf("found are %v, sorted %v, put together %v", found, sorted, threads)
	}
	for i, thread := range threads {
		at := slices.Index(sorted, thread[0])
		if !slices.IsSorted(thread) || at < 0 || !slices.Equal(sorted[at:at+len(thread)], thread) || i > 0 && thread[0] < threads[i-1][0] {
			t.Fatalf("sorted are %v, put together %v", sorted, threads)
		}
	}
}

func TestDrawnQueries(t *testing.T) {
	r := rand.New(rand.NewSource(14))
	found, several := 0, 0
	for range 3000 {
		b := drawnQueryBox(r)
		if !impl.BoxOk(b) {
			t.Fatalf("the box is not right: %s", boxTold(b))
		}
		var keys []impl.Key
		for range r.Intn(4) {
			keys = append(keys, drawnKey(r))
		}
		wantLookedFor(t, b, keys, drawnSet(r))
		got := impl.Search(b, keys)
		wantLookedFor(t, b, keys, got)
		wantPutTogether(t, b, got)
		found += len(got)
		for _, thread := range impl.Threads(b, got) {
			several += boolNumber(len(thread) > 1)
		}
	}
	if found < 3000 || several < 1000 {
		t.Errorf("just %d ranges are found, and %d threads have several mails", found, several)
	}
}

// wordRoom is the words in memory of their own, with others in the spare room behind them.
func wordRoom(words []string) []string {
	var own []string
	for _, word := range append(slices.Clone(words), "all", "subject", "spare", "7") {
		own = append(own, strings.Clone(word))
	}
	return own[:len(words)]
}

func keyRoom(keys []impl.Key) []impl.Key {
	var own []impl.Key
	for _, k := range append(slices.Clone(keys), someKeys()[11:15]...) {
		k.Text = strings.Clone(k.Text)
		own = append(own, k)
	}
	return own[:len(keys)]
}

func TestReadKeysAnswersNewMemory(t *testing.T) {
	long := singles(40, 2)
	for _, line := range [][]string{
		{"subject", "a"}, {"text", strings.Repeat("y", 20)}, {"uid", "5"}, {"uid", long}, {"subject", "a", "text", "b", "uid", "1:9", "all", "modseq", "7", "text", "c"},
	} {
		words := wordRoom(line)
		var texts []string
		keys, ok := impl.ReadKeys(words)
		if !ok {
			t.Fatalf("%s is not read", wordsTold(words))
		}
		for _, k := range keys {
			texts = append(texts, k.Text)
		}
		wantNewTexts(t, "ReadKeys", texts, words[:cap(words)])
		again, _ := impl.ReadKeys(words)
		if shares(keys, again) {
			t.Errorf("two answers of ReadKeys share memory")
		}
	}
	// One word that is handed in for several keys is no text that these share.
	word := strings.Clone("1:5")
	keys, _ := impl.ReadKeys([]string{"subject", word, "text", word, "uid", word, "uid", word})
	for i, k := range keys {
		for j, other := range keys {
			if lies(k.Text, word) || i != j && lies(k.Text, other.Text) {
				t.Errorf("the keys %d and %d share a text", i, j)
			}
		}
	}
}

func TestQueriesAnswerNewMemory(t *testing.T) {
	all := setOf(span(1, topUid))
	boxes := append(changedBoxes(rightChanges()), queryBox(), titledBox("subject: z", "subject: a", "subject: z", "subject: z", "subject: a", "b"))
	for _, b := range boxes {
		b = spareBox(b)
		for _, set := range append(boxSets(), all) {
			s := spareSet(set)
			found, more := impl.Search(b, nil), impl.Search(b, []impl.Key{textKey(keyUid, "1:*")})
			sorted, other := impl.SortBySubject(b, s), impl.SortBySubject(b, s)
			if shares(found, more) || shares(found, s) || shares(sorted, other) {
				t.Fatal("an answer shares memory with another one, or with the set")
			}
			threads, others := impl.Threads(b, s), impl.Threads(b, s)
			if shares(threads, others) {
				t.Fatal("two answers of Threads share memory")
			}
			for i, thread := range threads {
				for j := range threads {
					if i != j && shares(thread, threads[j]) || shares(thread, others[j]) || shares(thread, sorted) {
						t.Fatalf("the threads %d and %d share memory", i, j)
					}
				}
			}
		}
	}
}

func TestQueriesLeaveArgumentsAlone(t *testing.T) {
	for _, line := range append(keyLines(), []string{"seen", "text"}, []string{"x"}, nil, []string{"all", "uid", "1:*", "subject", "A"}, slices.Repeat([]string{"all"}, 7)) {
		words := wordRoom(line)
		before := slices.Clone(words[:cap(words)])
		impl.ReadKeys(words)
		if !slices.Equal(words[:cap(words)], before) {
			t.Errorf("the words %s are changed, or the room behind them", wordsTold(words))
		}
	}
	boxes := slices.Concat(changedBoxes(rightChanges()), changedBoxes(wrongChanges()), []impl.Box{queryBox()})
	for i, b := range boxes {
		b = spareBox(b)
		mails, tombs := slices.Clone(b.Mails[:cap(b.Mails)]), slices.Clone(b.Tombs[:cap(b.Tombs)])
		for count := range 6 {
			list := someKeys()
			at := (i + 7*count) % (len(list) - count)
			keys := keyRoom(list[at : at+count])
			room := slices.Clone(keys[:cap(keys)])
			impl.Search(b, keys)
			for _, m := range b.Mails {
				for _, k := range keys {
					impl.Matches(m, k)
				}
			}
			if !slices.Equal(keys[:cap(keys)], room) {
				t.Fatalf("the keys %s are changed, or the room behind them", keysTold(keys))
			}
		}
		for _, set := range append(boxSets(), someWrongSets()...) {
			s := spareSet(set)
			room := slices.Clone(s[:cap(s)])
			impl.SortBySubject(b, s)
			impl.Threads(b, s)
			if !slices.Equal(s[:cap(s)], room) {
				t.Fatalf("the set %v is changed, or the room behind it", set)
			}
		}
		if !slices.Equal(b.Mails[:cap(b.Mails)], mails) || !slices.Equal(b.Tombs[:cap(b.Tombs)], tombs) {
			t.Fatalf("the box %s is changed, or the room behind its lists", boxTold(b))
		}
	}
}

// An answer of one call is not changed by the next ones, nor by what becomes of another answer or of its other lists; nothing is kept between them.
func TestQueriesAnswersStand(t *testing.T) {
	b, all := queryBox(), setOf(span(1, topUid))
	words := []string{"subject", "lunch", "unseen"}
	keys := wantKeys(t, words, textKey(keySubject, "lunch"), numKey(keyNot, 1))
	found, sorted, threads := impl.Search(b, keys), impl.SortBySubject(b, all), impl.Threads(b, all)
	words[1] = "changed"
	other, _ := impl.ReadKeys([]string{"text", "noon", "draft"})
	other[0], other[1] = impl.Key{}, impl.Key{}
	for _, thread := range impl.Threads(b, all) {
		for i := range thread {
			thread[i] = 77
		}
		_ = append(thread, 78, 79, 80)
	}
	clear(impl.SortBySubject(b, all))
	clear(impl.Search(b, nil))
	impl.Search(titledBox("x"), []impl.Key{{Kind: keyAll}})
	wantNoKeys(t, "uid")
	for i := range threads {
		_ = append(threads[i], 90+i, 91+i, 92+i)
	}
	if !slices.Equal(keys, []impl.Key{textKey(keySubject, "lunch"), numKey(keyNot, 1)}) || !slices.Equal(found, setOf(span(2, 2), span(9, 9), span(30, 30))) {
		t.Errorf("the keys are now %s, found are %v", keysTold(keys), found)
	}
	if !slices.Equal(sorted, plainSorted(b, all)) || !slices.EqualFunc(threads, plainThreads(b, all), slices.Equal[[]int]) {
		t.Errorf("sorted are now %v, put together %v", sorted, threads)
	}
	wantLookedFor(t, b, keys, all)
	wantKeys(t, []string{"text", "noon", "draft"}, textKey(keyText, "noon"), numKey(keyFlag, 16))
}
