package tests

import (
	"fmt"
	"math/rand"
	"regexp"
	"slices"
	"strconv"
	"strings"
	"testing"
	"unsafe"

	"loop.example/g00247/impl"
)

// The document's numbers, told anew: what the program calls them may be wrong.
const (
	cmdMore    = 1
	cmdBad     = 2
	topCommand = 300
	topArgs    = 12
)

// The forms of words, told by expressions: the bytes of a word as it is are 33 .. 126 without 34, 40, 41, 92 and 123.
const (
	atomForm   = `[\x21\x23-\x27\x2a-\x5b\x5d-\x7a\x7c-\x7e]{1,60}`
	listForm   = `\((?:` + atomForm + `(?: ` + atomForm + `)*)?\)`
	insideForm = `(?:[\x20\x21\x23-\x5b\x5d-\x7e]|\\["\\])*`
)

var (
	plainAsItIs   = regexp.MustCompile(`\A(?:` + atomForm + `|` + listForm + `)\z`)
	plainQuotable = regexp.MustCompile(`\A[\x20-\x7e]*\z`)
	plainMarks    = regexp.MustCompile(`["\\]`)
	// plainWhole has a word as it is (or a list), what stands within quotation marks, or the length of a literal.
	plainWhole = regexp.MustCompile(`\A(?:(` + atomForm + `|` + listForm + `)|"(` + insideForm + `)"|\{([0-9]{1,3})\}\r\n)`)
	// plainBegun has what a word may have where the text ends, up to a literal's length; plainTold has a length behind which the text ends.
	plainBegun = regexp.MustCompile(`\A(?:` + atomForm + `|\((?:` + atomForm + `(?: ` + atomForm + `)* ?)?|"` + insideForm + `\\?|\{[0-9]{0,3})?\z`)
	plainTold  = regexp.MustCompile(`\A\{([0-9]{1,3})\}\r?\z`)
	plainMark  = regexp.MustCompile(`\\(.)`)
)

func plainWordText(word string) string {
	switch {
	case plainAsItIs.MatchString(word):
		return word
	case plainQuotable.MatchString(word):
		return `"` + plainMarks.ReplaceAllString(word, `\$0`) + `"`
	}
	return fmt.Sprintf("{%d}\r\n%s", len(word), word)
}

// lineOfTexts has the words' texts on a line, however many and however long.
func lineOfTexts(texts ...string) string { return strings.Join(texts, " ") + "\r\n" }

// lineOfWords is CommandText without limits.
func lineOfWords(words []string) string {
	var texts []string
	for _, word := range words {
		texts = append(texts, plainWordText(word))
	}
	return lineOfTexts(texts...)
}

func plainCommandText(words []string) (string, bool) {
	if len(words) < 1 || len(words) > topArgs {
		return "", false
	}
	line := lineOfWords(words)
	if len(line) > topCommand {
		return "", false
	}
	return line, true
}

// cutCode is the code of a text of right bytes that ends too early.
func cutCode(text string) int {
	if len(text) < topCommand {
		return cmdMore
	}
	return cmdBad
}

// fits tells whether a literal that begins behind the place, and the end of a line behind it, are within MaxCommand.
func fits(behind int, size string) (int, bool) {
	n, _ := strconv.Atoi(size)
	return n, behind+n+2 <= topCommand
}

// plainReadWord has the word at the place, and what is behind it; or a code.
func plainReadWord(text string, at int) (string, int, int) {
	rest := text[at:]
	m := plainWhole.FindStringSubmatch(rest)
	told := plainTold.FindStringSubmatch(rest)
	switch {
	case m == nil && told != nil:
		// The bytes 13 and 10 are not there yet, or 13 alone is.
		if _, ok := fits(at+len(told[1])+4, told[1]); !ok {
			return "", 0, cmdBad
		}
		return "", 0, cutCode(text)
	case m == nil && plainBegun.MatchString(rest):
		return "", 0, cutCode(text)
	case m == nil:
		return "", 0, cmdBad
	case m[3] != "":
		from := at + len(m[0])
		n, ok := fits(from, m[3])
		if !ok {
			return "", 0, cmdBad
		}
		if from+n > len(text) {
			return "", 0, cutCode(text)
		}
		return text[from : from+n], from + n, 0
	case m[1] != "":
		return m[1], at + len(m[0]), 0
	}
	return plainMark.ReplaceAllString(m[2], "$1"), at + len(m[0]), 0
}

// plainReadCommand is the document's rule: word by word, and what may stand behind each.
func plainReadCommand(text string) ([]string, int, int) {
	var words []string
	for at := 0; ; at++ {
		word, behind, code := plainReadWord(text, at)
		if code != 0 {
			return nil, 0, code
		}
		words = append(words, word)
		at = behind
		switch rest := text[at:]; {
		case strings.HasPrefix(rest, "\r\n") && at+2 <= topCommand:
			return words, at + 2, 0
		case rest == "" || rest == "\r":
			return nil, 0, cutCode(text)
		case rest[0] != ' ' || len(words) == topArgs:
			return nil, 0, cmdBad
		}
	}
}

func wantRead(t *testing.T, text string, words []string, taken int) {
	t.Helper()
	got, n, code := impl.ReadCommand(text)
	if !slices.Equal(got, words) || n != taken || code != 0 {
		t.Fatalf("ReadCommand(%.400q) = %s, %d, %d; want %s, %d, 0", text, wordsTold(got), n, code, wordsTold(words), taken)
	}
}

func wantNotRead(t *testing.T, text string, want int) {
	t.Helper()
	got, n, code := impl.ReadCommand(text)
	if len(got) != 0 || n != 0 || code != want {
		t.Fatalf("ReadCommand(%.400q) (%d bytes) = %s, %d, %d; want nothing, 0, %d", text, len(text), wordsTold(got), n, code, want)
	}
}

// wantCommandAsPlain has the code that was asked for, too.
func wantCommandAsPlain(t *testing.T, text string) int {
	t.Helper()
	words, taken, code := plainReadCommand(text)
	if code != 0 {
		wantNotRead(t, text, code)
		return code
	}
	wantRead(t, text, words, taken)
	return 0
}

// wantMoreOfCuts asks that of a command that is cut, wherever it is, more is wanted.
func wantMoreOfCuts(t *testing.T, text string) {
	t.Helper()
	for size := range len(text) {
		wantNotRead(t, text[:size], cmdMore)
	}
}

// behindTexts are texts that may stand behind a command, and are none of its bytes.
func behindTexts() []string {
	return []string{"a", " ", "\r", "\n", "\r\n", "\x00", "\xff", `"`, "{", "(", "noop\r\n", "{999}\r\n", strings.Repeat("x", 299), strings.Repeat("\r\n", 400)}
}

// wantReadBack asks that the text is read as these words, alone and with anything behind it, and that more is wanted of each cut.
func wantReadBack(t *testing.T, text string, words []string) {
	t.Helper()
	wantRead(t, text, words, len(text))
	wantMoreOfCuts(t, text)
	for _, behind := range behindTexts() {
		wantRead(t, text+behind, words, len(text))
	}
}

// wantCommand asks that the words have this text, and come back from it.
func wantCommand(t *testing.T, want string, words ...string) {
	t.Helper()
	if text, ok := impl.CommandText(words); !ok || text != want {
		t.Fatalf("CommandText(%s) = %q, %v; want %q, true", wordsTold(words), text, ok, want)
	}
	wantReadBack(t, want, words)
}

func wantNoCommand(t *testing.T, words ...string) {
	t.Helper()
	if text, ok := impl.CommandText(words); ok || text != "" {
		t.Fatalf("CommandText(%s) = %.400q, %v; want nothing, false", wordsTold(words), text, ok)
	}
}

// wantWordsAsPlain tells whether the words have a text, too.
func wantWordsAsPlain(t *testing.T, words ...string) bool {
	t.Helper()
	want, ok := plainCommandText(words)
	if !ok {
		wantNoCommand(t, words...)
		return false
	}
	text, ok := impl.CommandText(words)
	if !ok || text != want {
		t.Fatalf("CommandText(%s) = %q, %v; want %q, true", wordsTold(words), text, ok, want)
	}
	wantRead(t, text, words, len(text))
	return true
}

// times is a word of so many bytes.
func times(size int, piece string) string { return strings.Repeat(piece, size/len(piece)+1)[:size] }

// wordsAhead has words as they are, whose texts with a blank behind each take just so many bytes (none, or two at least).
func wordsAhead(size int) []string {
	var words []string
	for size > 0 {
		n := min(60, size-1)
		if size-n-1 == 1 {
			n--
		}
		words = append(words, times(n, "abc"))
		size -= n + 1
	}
	return words
}

func TestCommandNumbers(t *testing.T) {
	got := []int{impl.CmdMore, impl.CmdBad, impl.MaxCommand, impl.MaxArgs}
	if want := []int{1, 2, 300, 12}; !slices.Equal(got, want) {
		t.Errorf("the constants are %v; want %v", got, want)
	}
}

func TestCommandsOfWords(t *testing.T) {
	wantCommand(t, "noop\r\n", "noop")
	wantCommand(t, "a\r\n", "a")
	wantCommand(t, "store 1:3 + (seen deleted)\r\n", "store", "1:3", "+", "(seen deleted)")
	wantCommand(t, "add inbox (seen) {27}\r\nsubject: hello\n\nsome body.\n\r\n", "add", "inbox", "(seen)", "subject: hello\n\nsome body.\n")
	wantCommand(t, "search subject \"a b\" un* ()\r\n", "search", "subject", "a b", "un*", "()")
	wantCommand(t, "a b c d e f g h i j k l\r\n", "a", "b", "c", "d", "e", "f", "g", "h", "i", "j", "k", "l")
	wantCommand(t, "add (seen) \"a b\" {3}\r\nx\ny\r\n", "add", "(seen)", "a b", "x\ny")
	wantCommand(t, "{2}\r\n\r\n \"\" (a) a\r\n", "\r\n", "", "(a)", "a")
	wantCommand(t, "a a a\r\n", "a", "a", "a")
}

// Words of each form, with their texts as the document tells them.
func TestCommandForms(t *testing.T) {
	for word, text := range map[string]string{
		"": `""`, " ": `" "`, "a b": `"a b"`, " a": `" a"`, "a ": `"a "`, "!": "!", "~": "~", "#'*[]z|": "#'*[]z|",
		`"`: `"\""`, `\`: `"\\"`, `a"b`: `"a\"b"`, `a\b`: `"a\\b"`, `\"`: `"\\\""`, `"\`: `"\"\\"`, `\\`: `"\\\\"`, `""`: `"\"\""`,
		"(": `"("`, ")": `")"`, "{": `"{"`, "}": "}", "{}": `"{}"`, "{3}": `"{3}"`, "3}": "3}", "}}": "}}", "a{": `"a{"`, "a(b": `"a(b"`, "a)": `"a)"`,
		"()": "()", "(a)": "(a)", "(a b)": "(a b)", "(a b c d)": "(a b c d)", "(})": "(})", "(1:3 *)": "(1:3 *)",
		"( )": `"( )"`, "(a  b)": `"(a  b)"`, "( a)": `"( a)"`, "(a )": `"(a )"`, "(a": `"(a"`, "(a b": `"(a b"`, "(a) ": `"(a) "`, " (a)": `" (a)"`,
		"((a))": `"((a))"`, "(())": `"(())"`, "(a (b))": `"(a (b))"`, "(a)(b)": `"(a)(b)"`, "(a) (b)": `"(a) (b)"`, "(a)b": `"(a)b"`, "a(b)": `"a(b)"`,
		")(": `")("`, "())": `"())"`, "(()": `"(()"`, `(")`: `"(\")"`, `(\)`: `"(\\)"`, "({)": `"({)"`, `("a")`: `"(\"a\")"`, "a\tb": "{3}\r\na\tb",
		"\x00": "{1}\r\n\x00", "\x09": "{1}\r\n\x09", "\x0a": "{1}\r\n\x0a", "\x0d": "{1}\r\n\x0d", "\x1f": "{1}\r\n\x1f", "\x7f": "{1}\r\n\x7f", "\x80": "{1}\r\n\x80", "\xff": "{1}\r\n\xff",
		"\r\n": "{2}\r\n\r\n", "a\r\nb": "{4}\r\na\r\nb", "(\n)": "{3}\r\n(\n)", "\"\n": "{2}\r\n\"\n", "{1}\r\na": "{6}\r\n{1}\r\na", "\u00e9": "{2}\r\n\u00e9", "(\u00e9)": "{4}\r\n(\u00e9)",
	} {
		if plainWordText(word) != text {
			t.Fatalf("the test's own rule has %q for %q; want %q", plainWordText(word), word, text)
		}
		wantCommand(t, text+"\r\n", word)
		wantCommand(t, "add "+text+"\r\n", "add", word)
		wantCommand(t, text+" x\r\n", word, "x")
		wantCommand(t, "y "+text+" "+text+" z\r\n", "y", word, word, "z")
	}
}

// Each byte alone, and at each place of words of every form.
func TestCommandsOfEveryByte(t *testing.T) {
	for _, c := range allBytes() {
		one := string([]byte{byte(c)})
		for _, word := range []string{"", "ab", "(a)", "(a b)", "()", "a b", `a"b`, "a\nb", "{2}\r\nab", times(59, "x"), times(60, "x"), times(58, "x") + " "} {
			for at := range len(word) + 1 {
				wantWordsAsPlain(t, word[:at]+one+word[at:])
			}
			for at := range len(word) {
				wantWordsAsPlain(t, "say", word[:at]+one+word[at+1:], "on")
			}
		}
	}
	for c := range 256 {
		one := string([]byte{byte(c)})
		asItIs := c >= 33 && c <= 126 && !strings.Contains(`"\(){`, one)
		switch text, ok := impl.CommandText([]string{one}); {
		case !ok:
			t.Fatalf("the word %q has no text", one)
		case asItIs != (text == one+"\r\n"), (c < 32 || c > 126) != strings.HasPrefix(text, "{1}"), !asItIs && c >= 32 && c <= 126 && text[0] != '"':
			t.Fatalf("the word %q has the text %q", one, text)
		}
	}
}

// What is special stands at each place of words of few bytes, and of some 60.
func TestCommandsOfSpecialBytes(t *testing.T) {
	for _, size := range []int{1, 2, 3, 5, 59, 60, 61, 62, 120} {
		for at := range size {
			for _, special := range []string{`"`, `\`, "(", ")", "{", "}", " ", "\r", "\n", "\x7f"} {
				word := times(size, "xyz")
				wantWordsAsPlain(t, word[:at]+special+word[at+1:])
				wantWordsAsPlain(t, "("+word[:at]+special+word[at+1:]+")", "a")
			}
		}
	}
}

// Every word of up to five bytes that matter.
func TestShortWords(t *testing.T) {
	list := []string{""}
	for range 5 {
		var longer []string
		for _, word := range list {
			for _, c := range "a0 \"\\(){}\r\n" {
				longer = append(longer, word+string(c))
			}
		}
		for _, word := range longer {
			wantWordsAsPlain(t, word)
		}
		list = longer
	}
}

func TestCommandWordLengths(t *testing.T) {
	wantCommand(t, "\"\"\r\n", "")
	wantCommand(t, "x\r\n", "x")
	wantCommand(t, times(59, "x")+"\r\n", times(59, "x"))
	wantCommand(t, times(60, "x")+"\r\n", times(60, "x"))
	wantCommand(t, "\""+times(61, "x")+"\"\r\n", times(61, "x"))
	wantCommand(t, "("+times(60, "x")+")\r\n", "("+times(60, "x")+")")
	wantCommand(t, "\"("+times(61, "x")+")\"\r\n", "("+times(61, "x")+")")
	wantCommand(t, "("+times(60, "x")+" "+times(60, "y")+" z "+times(60, "z")+")\r\n", "("+times(60, "x")+" "+times(60, "y")+" z "+times(60, "z")+")")
	wantCommand(t, "\"(a "+times(61, "y")+")\"\r\n", "(a "+times(61, "y")+")")
	for size := range 310 {
		for _, piece := range []string{"x", "}", " ", `"`, `\`, "\n", "\xff", "ab ", "\r\n"} {
			word := times(size, piece)
			wantWordsAsPlain(t, word)
			wantWordsAsPlain(t, "a", word, "b")
			wantWordsAsPlain(t, "("+word+")")
			wantWordsAsPlain(t, "(a "+word+")")
		}
	}
	// The reader knows the length of a word as it is, too: one byte more may not stand there.
	for _, ahead := range []string{"", "a ", "\"\" ", "{1}\r\n\n "} {
		for _, open := range []string{"", "(", "(a ", "(" + times(60, "b") + " "} {
			wantNotRead(t, ahead+open+times(60, "x"), cmdMore)
			wantNotRead(t, ahead+open+times(61, "x"), cmdBad)
			wantNotRead(t, ahead+open+times(61, "x")+strings.Repeat(")", min(1, len(open)))+"\r\n", cmdBad)
		}
	}
}

func TestCommandArgs(t *testing.T) {
	wantNoCommand(t)
	wantNoCommand(t, []string{}...)
	wantNoCommand(t, make([]string, 0, 9)...)
	for _, word := range []string{"a", "", "()", "(a b)", "a b", `\`, "\n", "\r\n"} {
		for count := 1; count <= 20; count++ {
			words := slices.Repeat([]string{word}, count)
			line := lineOfWords(words)
			if count <= topArgs {
				wantCommand(t, line, words...)
				continue
			}
			wantNoCommand(t, words...)
			wantNotRead(t, line, cmdBad)
			for size := range len(line) + 1 {
				wantCommandAsPlain(t, line[:size])
			}
		}
		twelve := strings.TrimSuffix(lineOfWords(slices.Repeat([]string{word}, topArgs)), "\r\n")
		wantCommandAsPlain(t, twelve)
		for _, more := range []string{" ", " a", " \"", " (", " {", " {1}\r\n", "  ", " \r\n", " a\r\n", " \"\"\r\n"} {
			wantNotRead(t, twelve+more, cmdBad)
		}
		wantNotRead(t, twelve+"\r", cmdMore)
	}
	wantNoCommand(t, slices.Repeat([]string{"a"}, 100000)...)
	wantNotRead(t, strings.Repeat("a ", 100000)+"\r\n", cmdBad)
}

// Words may be told in other forms than they are written in.
func TestCommandsInOtherForms(t *testing.T) {
	for text, words := range map[string][]string{
		`"abc"`: {"abc"}, `"(seen)"`: {"(seen)"}, `"()"`: {"()"}, `"}"`: {"}"}, "{3}\r\nabc": {"abc"}, "{0}\r\n": {""}, "{00}\r\n": {""}, "{000}\r\n": {""},
		"{03}\r\nabc": {"abc"}, "{003}\r\nabc": {"abc"}, "{6}\r\n(seen)": {"(seen)"}, "{3}\r\na b": {"a b"}, "{1}\r\n\"": {`"`}, "{1}\r\n\\": {`\`},
		"{01}\r\na {2}\r\nbc": {"a", "bc"}, `"a" "b"`: {"a", "b"}, `"" ""`: {"", ""}, "{0}\r\n {0}\r\n": {"", ""}, "{5}\r\n a\r\nb x": {" a\r\nb", "x"},
		"{2}\r\n\r\n a": {"\r\n", "a"}, "{4}\r\n\r\n\r\n {1}\r\n ": {"\r\n\r\n", " "}, `"` + times(290, "x") + `"`: {times(290, "x")}, `"` + times(60, "x") + `"`: {times(60, "x")},
		"{060}\r\n" + times(60, "x"): {times(60, "x")}, "{61}\r\n" + times(61, "x"): {times(61, "x")}, "{100}\r\n" + times(100, "(a b) "): {times(100, "(a b) ")},
	} {
		wantReadBack(t, text+"\r\n", words)
		if again, ok := impl.CommandText(words); ok {
			wantReadBack(t, again, words)
		}
	}
}

// What is no command, and what more is wanted of.
func TestTextsOfNoCommand(t *testing.T) {
	for code, texts := range map[int][]string{
		cmdMore: {
			"", "a", "a ", "a b", "a\r", "}", "a}", "add ", `"`, `"a`, `"a b`, `"a"`, `"a" `, `"\`, `"\\`, `"\"`, `"a\"`, `"a\\`, `"a\\" `, `"{3}`, `"(`, `""`, "\"\"\r",
			"(", "(a", "(a ", "(a b", "(a b)", "()", "() ", "(}", "(a)\r", "{", "{0", "{00", "{000", "{1", "{12", "{123", "{0}", "{0}\r", "{0}\r\n", "{0}\r\n\r", "{0}\r\n ", "{1}\r\n", "{1}\r\na",
			"{1}\r\n\r", "{2}\r\n\r\n", "{2}\r\n\r\n\r", "{9}\r\n12345678", "{291}\r\n", "a {3}\r\nab", "a {3}\r\nabc", "{3}\r\na\r\n", "a \"b\" (c) {1}\r\nd",
		},
		cmdBad: {
			" ", " a", " a\r\n", "  a\r\n", "a  ", "a  b\r\n", "a \r", "a \r\n", "a b \r\n", "\r", "\r\n", "\n", "\r\na\r\n", "a\n", "a\r\r\n", "a\ra", "a\r ", "a\n\r", "a\rb\r\n", "\x00", "\x1f", "\x7f", "\x80", "\xff", "\t",
			"a\t", "a\x00", "a\x1f\r\n", "a\x7f\r\n", "a\x80\r\n", "a\xff\r\n", "\u00e9", "a\u00e9", ")", "a)", "a(", "a(b)", `a"`, `a"b"`, `a\`, `\`, `\a`, "a{", "a{1}\r\nb",
			`"\a`, `"\a"`, `"\ "`, `"\(`, `"\0`, "\"\\\r", "\"\r", "\"\n", "\"a\x1f", "\"a\x7f", "\"a\x80", "\"\x00", "\"\xff", `"a"b`, `"a""b"`, `"a"(b)`, `"a"{`, "\"a\"\n", `"a"\`, `"a")`,
			"( ", "( )", "( a)", "(a )", "(a  ", "(a  b)", "((", "((a))", "(a (", "(a(", "(a)(", "(a)b", "(a)\"", "())", "()(", `("`, `(a"`, `(\`, `(a\`, "({", "(a{", "({1}\r\na)", "(\r", "(a\r", "(a\n", "(a\x7f", "(\x80", "(\x00", "(a)\n",
			"{}", "{}\r\n", "{a", "{ ", "{ 1}", "{+", "{-", "{*", "{1 ", "{1a", "{0000", "{0001", "{1234", "{1234}\r\n", "{1\r", "{\r", "{)", "{\"", "{{", "{1{", "{1}a", "{1} ", "{1}\n", "{1}}", "{1}\ra", "{1}\r\r", "{1}\r ", "{\xff", "{1\x80",
			"{1}\r\nab", "{1}\r\na\n", "{1}\r\naa\r\n", "{0}\r\na", "{0}\r\n\n", "{0}\r\n\"", "{0}\r\n{", "{2}\r\nabc\r\n", "{3}\r\nabc\"", "{3}\r\nabc  ", "{1}\r\na\x00", "{1}\r\n\r\n\n",
			"{292}\r\n", "{299}\r\n", "{300}\r\n", "{999}\r\n", "a {999}\r\nx", "{999}\r\n" + times(999, "x") + "\r\n", "{292}\r\n" + times(292, "x") + "\r\n",
		},
	} {
		for _, text := range texts {
			wantNotRead(t, text, code)
			for _, ahead := range []string{"b ", "\"\" ", "(a) ", "{2}\r\n\r\n ", "()", "b", " "} {
				wantCommandAsPlain(t, ahead+text)
			}
		}
	}
}

// Literals of every length, told with needless noughts, too; their bytes are whatever.
func TestCommandLiterals(t *testing.T) {
	for size := range 330 {
		for _, piece := range []string{"x", "\r\n", "\x00", "\xff ", "{9}\r\n", "\" ", "\r"} {
			word := times(size, piece)
			for _, form := range []string{"{%d}\r\n", "{%02d}\r\n", "{%03d}\r\n"} {
				head := fmt.Sprintf(form, size)
				if len(head)+size+2 > topCommand {
					wantNotRead(t, head, cmdBad)
					wantNotRead(t, head+word+"\r\n", cmdBad)
					continue
				}
				wantRead(t, head+word+"\r\n", []string{word}, len(head)+size+2)
				wantNotRead(t, head+word+"\r", cmdMore)
				wantNotRead(t, head+word, cmdMore)
				wantNotRead(t, head+word+"a", cmdBad)
				wantNotRead(t, head+word+"\n", cmdBad)
				wantCommandAsPlain(t, "a "+head+word+" b\r\n")
				if size > 0 {
					wantNotRead(t, head+word[1:], cmdMore)
				}
			}
		}
	}
	for _, size := range []int{0, 1, 9, 10, 99, 100, 290, 291} {
		for _, piece := range []string{"x", "\r\n", "\x00"} {
			word := times(size, piece)
			wantReadBack(t, fmt.Sprintf("{%d}\r\n%s\r\n", size, word), []string{word})
		}
	}
	for size := 292; size <= 999; size++ {
		for _, word := range []string{"", "x", times(size, "x"), times(size, "x") + "\r\n"} {
			wantNotRead(t, fmt.Sprintf("{%d}\r\n%s", size, word), cmdBad)
			wantNotRead(t, fmt.Sprintf("a {%d}\r\n%s", size, word), cmdBad)
		}
	}
	for size := 1000; size < 12000; size += 7 {
		wantNotRead(t, fmt.Sprintf("{%d", size), cmdBad)
		wantNotRead(t, fmt.Sprintf("{%d}\r\n%s\r\n", size, times(size, "x")), cmdBad)
	}
}

// A literal, from wherever it begins: with the end of a line behind it, it is just MaxCommand, or one past it.
func TestCommandLiteralsAtTheEnd(t *testing.T) {
	for at := range topCommand {
		if at == 1 {
			continue
		}
		words := wordsAhead(at)
		ahead := strings.TrimSuffix(lineOfTexts(append(words, "")...), "\r\n")
		for figures := 1; figures <= 3; figures++ {
			room := topCommand - 2 - at - figures - 4
			for size := max(0, room-2); size <= min(999, max(0, room)+2); size++ {
				told := fmt.Sprintf("%s{%0*d", ahead, figures, size)
				if len(told) != at+1+figures {
					continue
				}
				word := times(size, "y")
				if size <= room {
					wantReadBack(t, told+"}\r\n"+word+"\r\n", append(words, word))
					continue
				}
				wantNotRead(t, told, cutCode(told))
				for _, more := range []string{"}", "}\r", "}\r\n", "}\r\n" + word, "}\r\n" + word + "\r\n", "}\r\n" + word + " a\r\n"} {
					wantNotRead(t, told+more, cmdBad)
				}
			}
		}
	}
}

// Commands of MaxCommand bytes, of fewer and of more, with each form of a word at that end.
func TestCommandsOfMostBytes(t *testing.T) {
	for _, last := range []string{
		"z", times(60, "z"), "", " ", "a b", `"`, `\`, `\"`, times(61, "z"), times(100, "z "), times(40, `\`), "()", "(z)", "(a b c)", "(" + times(60, "z") + " " + times(60, "z") + ")", "(a",
		"\n", "\r\n", times(9, "\n"), times(10, "\r\n"), times(99, "\x00"), times(100, "\xff"), times(200, "\r\n"), times(270, "\n"), times(288, "x "), times(285, "\n"), times(291, "\n"),
	} {
		text := plainWordText(last)
		for total := topCommand - 3; total <= topCommand+3; total++ {
			if total < len(text)+2 || total == len(text)+3 {
				continue
			}
			words := append(wordsAhead(total-len(text)-2), last)
			line := lineOfWords(words)
			if len(line) != total || len(words) > topArgs {
				t.Fatalf("the test's own command has %d bytes and %d words; want %d", len(line), len(words), total)
			}
			if total <= topCommand {
				wantCommand(t, line, words...)
				continue
			}
			wantNoCommand(t, words...)
			for _, behind := range append(behindTexts(), "") {
				wantNotRead(t, line+behind, cmdBad)
			}
			wantNotRead(t, line[:topCommand], cmdBad)
			if text[0] != '{' {
				wantMoreOfCuts(t, line[:topCommand])
			}
			for size := range total {
				wantCommandAsPlain(t, line[:size])
			}
		}
	}
}

// A word without an end: more is wanted of it up to MaxCommand, and no longer.
func TestCommandsWithoutEnd(t *testing.T) {
	for _, text := range []string{"\"" + times(400, "x"), "\"" + times(400, `\"`), "(" + times(400, "x "), "(" + times(400, times(60, "y")+" "), times(400, "a bc"+times(50, "d")+" ")[:320], "{1}\r\n\n \"" + times(400, " ")} {
		wantMoreOfCuts(t, text[:topCommand])
		for size := topCommand; size <= len(text); size++ {
			wantNotRead(t, text[:size], cmdBad)
		}
		wantNotRead(t, text+"\r\n", cmdBad)
	}
}

// commandTexts are right ones of every form.
func commandTexts() []string {
	return []string{
		"a\r\n", "add b\r\n", "\"\"\r\n", "\"a b\" c\r\n", `"a\"\\b" "\\"` + "\r\n", "() (a) (bc d)\r\n", "{0}\r\n a\r\n", "a {3}\r\nb\r\n \"c\"\r\n", "{02}\r\n\r\n {1}\r\n{\r\n",
		"a b c d e f g h i j k l\r\n", times(60, "x") + " (" + times(60, "y") + " z)\r\n",
	}
}

// Each byte at each place: instead of the one there, ahead of it, and with nothing behind it; and each byte taken out.
func TestCommandsWithEveryByteAnywhere(t *testing.T) {
	for _, text := range commandTexts() {
		words, _, code := plainReadCommand(text)
		if code != 0 {
			t.Fatalf("the test's own command %q has the code %d", text, code)
		}
		wantReadBack(t, text, words)
		for at := range len(text) {
			wantCommandAsPlain(t, text[:at]+text[at+1:])
			for c := range 256 {
				one := string([]byte{byte(c)})
				wantCommandAsPlain(t, text[:at]+one)
				wantCommandAsPlain(t, text[:at]+one+text[at:])
				wantCommandAsPlain(t, text[:at]+one+text[at+1:])
			}
		}
	}
}

// wantShortTexts goes on with the text by bytes that matter, up to so many more; behind five bytes, just as long as more is wanted.
func wantShortTexts(t *testing.T, text string, more int, codes map[int]int) {
	t.Helper()
	code := wantCommandAsPlain(t, text)
	codes[code]++
	if more == 0 || len(text) >= 5 && code != cmdMore {
		return
	}
	for _, c := range "a02 \"\\(){}\r\n\x7f" {
		wantShortTexts(t, text+string(c), more-1, codes)
	}
}

func TestShortTextsOfCommands(t *testing.T) {
	codes := map[int]int{}
	wantShortTexts(t, "", 6, codes)
	if codes[0] < 1000 || codes[cmdMore] < 10000 || codes[cmdBad] < 10000 {
		t.Errorf("the codes are %v", codes)
	}
}

// drawnWord is a word of some form, or of whatever bytes.
func drawnWord(r *rand.Rand) string {
	size := r.Intn(12)
	switch r.Intn(8) {
	case 0:
		return drawnText(r, size)
	case 1:
		return times(55+r.Intn(10), "w")
	case 2:
		return "(" + strings.Join(slices.Repeat([]string{times(1+size, "in")}, r.Intn(4)), " ") + ")"
	case 3:
		return times(size, []string{"\r\n", "a b", `"\`, "(a) ", "{1}"}[r.Intn(5)])
	case 4:
		return times(r.Intn(90), []string{" ", "\n", "y", "z "}[r.Intn(4)])
	}
	word := ""
	for range size {
		word += string(`abc019.:*=+-"\(){} `[r.Intn(19)])
	}
	return word
}

// What is drawn is written as the document's rule says, and comes back, alone and behind other commands.
func TestDrawnCommands(t *testing.T) {
	r := rand.New(rand.NewSource(15))
	behind, right := "", 0
	for range 6000 {
		var words []string
		for range r.Intn(14) {
			words = append(words, drawnWord(r))
		}
		if !wantWordsAsPlain(t, words...) {
			continue
		}
		right++
		line, _ := plainCommandText(words)
		wantRead(t, line+behind, words, len(line))
		wantMoreOfCuts(t, line)
		behind = line
		at, one := r.Intn(len(line)), drawnText(r, 1)
		wantCommandAsPlain(t, line[:at]+one+line[at+1:])
		wantCommandAsPlain(t, line[:at]+line[at+1:]+behind)
	}
	if right < 3000 {
		t.Errorf("just %d commands were right", right)
	}
}

// commandPieces are put together to texts that are no command, or one that just is.
func commandPieces() []string {
	return []string{
		" ", " ", " ", " ", "a", "bc", `"a"`, `"`, `"d e"`, `\"`, `\\`, "(", ")", "()", "(f g)", "{0}\r\n", "{1}\r\nh", "{3}\r\n\r\ni", "{70}\r\n" + times(70, "k"), "{", "}", "7", "\r", "\n", "\r\n", "\r\n", times(60, "l"), "\x00",
	}
}

func TestDrawnTextsOfCommands(t *testing.T) {
	r := rand.New(rand.NewSource(1515))
	codes := map[int]int{}
	for range 60000 {
		text := []string{"", "a", "a ", times(60, "m ") + "n ", times(120, "o ") + "p"}[r.Intn(5)]
		for range r.Intn(9) {
			text += commandPieces()[r.Intn(len(commandPieces()))]
		}
		codes[wantCommandAsPlain(t, text)]++
	}
	for range 20000 {
		// Words one behind the other with one blank between, so that most of them are right up to the end.
		var texts []string
		for range r.Intn(14) {
			texts = append(texts, plainWordText(drawnWord(r)))
		}
		line := lineOfTexts(texts...)
		codes[wantCommandAsPlain(t, line)]++
		codes[wantCommandAsPlain(t, line[:r.Intn(len(line))])]++
	}
	if codes[0] < 5000 || codes[cmdMore] < 5000 || codes[cmdBad] < 5000 {
		t.Errorf("the codes are %v", codes)
	}
}

func TestLongCommands(t *testing.T) {
	for _, piece := range []string{"x", " ", `"`, `\`, "(", "\n", "\xff", "(a) "} {
		word := times(1<<20, piece)
		wantNoCommand(t, word)
		wantNoCommand(t, "a", word)
		wantNoCommand(t, "("+word+")", "a")
		wantNoCommand(t, slices.Repeat([]string{word}, topArgs)...)
		wantNotRead(t, word, cmdBad)
		wantNotRead(t, `"`+word, cmdBad)
		wantNotRead(t, "{291}\r\n"+word, cmdBad)
		wantRead(t, "{3}\r\n\r\na b\r\n"+word, []string{"\r\na", "b"}, 12)
	}
}

func TestCommandsAnswerNewMemory(t *testing.T) {
	for _, text := range commandTexts() {
		given := strings.Clone(text)
		one, _, _ := impl.ReadCommand(given)
		two, _, _ := impl.ReadCommand(given)
		wantNewTexts(t, "ReadCommand", one, []string{given})
		if len(one) == 0 || shares(one, two) {
			t.Errorf("two answers of ReadCommand(%q) share their words", text)
		}
		line, _ := impl.CommandText(one)
		again, _ := impl.CommandText(one)
		wantNewTexts(t, "CommandText", []string{line}, append([]string{again}, one...))
		wantNewTexts(t, "CommandText", one, []string{line})
	}
}

func TestCommandsLeaveArgumentsAlone(t *testing.T) {
	for _, text := range append(commandTexts(), "a \"b", "a  b\r\n", times(400, "x ")) {
		words, taken, code := plainReadCommand(text)
		room := []byte(text + "spare")
		got, n, was := impl.ReadCommand(unsafe.String(&room[0], len(text)))
		if string(room) != text+"spare" {
			t.Errorf("the text %q is changed, or the room behind it", text)
		}
		clear(room)
		if !slices.Equal(got, words) || n != taken || was != code {
			t.Errorf("the answer of ReadCommand(%q) is changed with the text", text)
		}
	}
	for _, words := range [][]string{{"a"}, {"add", "(a b)", "c d", "e\nf", ""}, slices.Repeat([]string{"g h"}, 12), slices.Repeat([]string{"i"}, 13), {times(400, "k\\")}, {}} {
		given := wordRoom(words)
		room := slices.Clone(given[:cap(given)])
		line, ok := impl.CommandText(given)
		if !slices.Equal(given[:cap(given)], room) {
			t.Errorf("the words %s are changed, or the room behind them", wordsTold(words))
		}
		clear(given[:cap(given)])
		if want, right := plainCommandText(words); line != want || ok != right {
			t.Errorf("the answer of CommandText(%s) is changed with the words", wordsTold(words))
		}
	}
	bytes := []byte(times(40, "l\n"))
	line, _ := impl.CommandText([]string{unsafe.String(&bytes[0], len(bytes)), "m"})
	clear(bytes)
	if want := lineOfWords([]string{times(40, "l\n"), "m"}); line != want {
		t.Errorf("CommandText answers %q, which changed with its word; want %q", line, want)
	}
}

// An answer stays what it was, whatever becomes of other answers; what is read is no part of what is read next.
func TestCommandsAnswersStand(t *testing.T) {
	for _, text := range commandTexts() {
		want, _, _ := plainReadCommand(text)
		one, _, _ := impl.ReadCommand(text)
		two, _, _ := impl.ReadCommand(text)
		clear(two[:cap(two)])
		impl.ReadCommand("a b c d e f g h i j k \"\r\n")
		_ = append(two, "spare")
		if !slices.Equal(one, want) {
			t.Errorf("the answer of ReadCommand(%q) became %s", text, wordsTold(one))
		}
		wantRead(t, text, want, len(text))
	}
}
