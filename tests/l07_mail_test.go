package tests

import (
	"math"
	"math/rand"
	"regexp"
	"strings"
	"testing"

	"loop.example/g00247/impl"
)

// someMail has several heads, an empty line, and a body that has lines like heads, and empty ones, too.
const someMail = "Subject:  Re: a b \nFrom: x\nTO:y\nX-1:  two  words\n\nDate: today\nsubject: below\n\n\nend\n"

// plainText is any number of lines that have something, one that has nothing, and the body.
var plainText = regexp.MustCompile(`(?s)^(?:[^\n]+\n)*\n(.*)$`)

// plainAhead is what does not belong to a subject in small letters.
var plainAhead = regexp.MustCompile(`^ *(?:(?:re:|fwd:) *)*`)

// oddTexts have bytes that are no letters: of runes of every length, of runes cut short, and of no rune at all.
func oddTexts() []string {
	return []string{
		"\u00e9", "\u20ac", "\U0001f4e7", "\ufeff", "\ufffd", "\u2028", "\u0085", "\u00a0", "\u3000", "\u0130", "\u212a",
		"\xff", "\xfe\xff", "\x80", "\xbf", "\xc0\x80", "\xc3", "\xe2\x82", "\xf0\x9f\x93", "\xed\xa0\x80", "\xf4\x90\x80\x80",
		"\x85", "\xa0", "\x7f", "\x01", "\t", "\r", "\v", "\f", "\x1b", "a\xffb", "\xc3\xc3\xa9\xa9",
	}
}

func plainTrim(text string) string {
	for text != "" && text[0] == 32 {
		text = text[1:]
	}
	for text != "" && text[len(text)-1] == 32 {
		text = text[:len(text)-1]
	}
	return text
}

// plainHeadOf has the head of the document's rule, line by line.
func plainHeadOf(text string, name string) (string, bool) {
	for _, line := range strings.Split(text, "\n") {
		if line == "" {
			break
		}
		if strings.HasPrefix(plainSmall(line), plainSmall(name)+":") {
			return plainTrim(line[len(name)+1:]), true
		}
	}
	return "", false
}

func plainBodyOf(text string) string {
	if found := plainText.FindStringSubmatch(text); found != nil {
		return found[1]
	}
	return ""
}

func plainBase(text string) string {
	small := plainSmall(text)
	return plainTrim(small[len(plainAhead.FindString(small)):])
}

// plainPartOf takes the bytes one by one.
func plainPartOf(text string, from int, n int) string {
	if from < 0 || from > len(text) {
		return ""
	}
	var out []byte
	for i := from; i < len(text) && len(out) < n; i++ {
		out = append(out, text[i])
	}
	return string(out)
}

func wantHead(t *testing.T, text string, name string, want string) {
	t.Helper()
	if got, ok := impl.HeadOf(text, name); got != want || !ok {
		t.Errorf("HeadOf(%q, %q) = %q, %v; want %q, true", text, name, got, ok, want)
	}
}

func wantNoHead(t *testing.T, text string, name string) {
	t.Helper()
	if got, ok := impl.HeadOf(text, name); got != "" || ok {
		t.Errorf("HeadOf(%q, %q) = %q, %v; want nothing, false", text, name, got, ok)
	}
}

func wantBody(t *testing.T, text string, want string) {
	t.Helper()
	if got := impl.BodyOf(text); got != want {
		t.Errorf("BodyOf(%q) = %q; want %q", text, got, want)
	}
}

func wantBase(t *testing.T, text string, want string) {
	t.Helper()
	if got := impl.BaseSubject(text); got != want {
		t.Errorf("BaseSubject(%q) = %q; want %q", text, got, want)
	}
}

func wantPart(t *testing.T, text string, from int, n int, want string) {
	t.Helper()
	if got := impl.PartOf(text, from, n); got != want {
		t.Errorf("PartOf(%q, %d, %d) = %q; want %q", text, from, n, got, want)
	}
}

// wantMail holds HeadOf of each name, and BodyOf, against the document's rule.
func wantMail(t *testing.T, text string, names []string) {
	t.Helper()
	wantBody(t, text, plainBodyOf(text))
	for _, name := range names {
		if want, ok := plainHeadOf(text, name); ok {
			wantHead(t, text, name, want)
		} else {
			wantNoHead(t, text, name)
		}
	}
}

func TestMailOk(t *testing.T) {
	if impl.MaxMail != 200 {
		t.Errorf("MaxMail is %d", impl.MaxMail)
	}
	for _, size := range []int{1, 2, 100, 199, 200} {
		if !impl.MailOk(strings.Repeat("a", size)) {
			t.Errorf("a mail of %d bytes is refused", size)
		}
	}
	for _, size := range []int{0, 201, 202, 255, 256, 257, 400, 456, 65736, 100000} {
		if impl.MailOk(strings.Repeat("a", size)) {
			t.Errorf("a mail of %d bytes is taken", size)
		}
	}
	for c := range 256 {
		one := string([]byte{byte(c)})
		for _, mail := range []string{one, "a" + one, one + "a", strings.Repeat(one, 200)} {
			if got := impl.MailOk(mail); got != (c != 0) {
				t.Errorf("MailOk(%q) = %v", mail, got)
			}
		}
	}
}

func TestMailOkWithoutNoughts(t *testing.T) {
	for _, size := range []int{1, 2, 3, 10, 199, 200} {
		for _, of := range []string{"a", "\n", "\xff", "\u00e9"} {
			mail := strings.Repeat(of, size)[:size]
			if !impl.MailOk(mail) {
				t.Errorf("MailOk(%q) is false", mail)
			}
			for at := range size {
				if wrong := mail[:at] + "\x00" + mail[at+1:]; impl.MailOk(wrong) {
					t.Errorf("MailOk(%q) is true", wrong)
				}
			}
		}
	}
	for _, odd := range oddTexts() {
		if !impl.MailOk(odd) || !impl.MailOk("a"+odd+"b") {
			t.Errorf("MailOk of %q is false", odd)
		}
		if impl.MailOk(odd+"\x00") || impl.MailOk("\x00"+odd) {
			t.Errorf("MailOk of %q with a byte 0 is true", odd)
		}
	}
}

func TestMailOkCountsBytes(t *testing.T) {
	for _, mail := range []string{
		strings.Repeat("\u00e9", 100), strings.Repeat("\u20ac", 66) + "ab", strings.Repeat("\U0001f4e7", 50), strings.Repeat("\xc0\x80", 100),
	} {
		if len(mail) != 200 || !impl.MailOk(mail) {
			t.Errorf("MailOk(%q), of %d bytes, is false", mail, len(mail))
		}
		if impl.MailOk(mail+"a") || impl.MailOk("\u00e9"+mail) {
			t.Errorf("MailOk of %q and more is true", mail)
		}
	}
	if impl.MailOk(strings.Repeat("\u00e9", 101)) || impl.MailOk(strings.Repeat("\u20ac", 67)) || impl.MailOk(strings.Repeat("\U0001f4e7", 200)) {
		t.Error("a mail is measured by runes")
	}
}

func TestHeadOfForms(t *testing.T) {
	heads := map[string]string{"subject": "Re: a b", "from": "x", "to": "y", "x-1": "two  words"}
	for small, want := range heads {
		for _, name := range []string{small, strings.ToUpper(small), strings.ToUpper(small[:1]) + small[1:], small[:1] + strings.ToUpper(small[1:])} {
			wantHead(t, someMail, name, want)
		}
	}
	for _, name := range []string{"date", "end", "x", "cc", "subjects", "subjec", "ubject", "rom", "re", "two  words", "x-2", " x-1"} {
		wantNoHead(t, someMail, name)
	}
	wantBody(t, someMail, "Date: today\nsubject: below\n\n\nend\n")
	wantHead(t, "a: b: c", "a", "b: c")
	wantHead(t, "a::b", "a", ":b")
	wantHead(t, "a:b\n", "a", "b")
	wantHead(t, "b: a\na: b\nc: a: d", "a", "b")
	wantHead(t, "one\na:1\nthree", "a", "1")
}

func TestHeadOfEveryMixture(t *testing.T) {
	const name = "subject"
	for greats := range 1 << len(name) {
		one := mixed(name, greats)
		for _, other := range []string{name, strings.ToUpper(name), one, mixed(name, ^greats)} {
			wantHead(t, "From: x\n"+one+": Told As It Is\n\nbody", other, "Told As It Is")
			wantHead(t, other+":1", one, "1")
		}
	}
}

func TestHeadOfTwice(t *testing.T) {
	wantHead(t, "a: 1\na: 2\n\nb", "a", "1")
	wantHead(t, "a: 1\nb: 3\nA: 2\n", "A", "1")
	wantHead(t, "A: 2\na: 1\n", "a", "2")
	wantHead(t, "a:\na: 2", "a", "")
	wantHead(t, "a\na : 0\naa: 1\na: 2\na: 3", "a", "2")
}

func TestHeadOfNothingBehind(t *testing.T) {
	for _, blanks := range []string{"", " ", "  ", "                "} {
		for _, rest := range []string{"", "\n", "\n\n", "\n\nbody", "\nb: c", "\n\na: below"} {
			wantHead(t, "a:"+blanks+rest, "a", "")
			wantHead(t, "b: 1\na:"+blanks+rest, "A", "")
			wantHead(t, "a:"+blanks+"x  y"+blanks+rest, "a", "x  y")
			wantHead(t, "a:"+blanks+":"+blanks+rest, "a", ":")
		}
	}
}

func TestHeadOfAheadOfTheEmptyLine(t *testing.T) {
	wantNoHead(t, "b: 1\n\na: 2", "a")
	wantNoHead(t, "\na: 2", "a")
	wantNoHead(t, "\n\na: 2\n", "a")
	wantNoHead(t, "b: 1\n\n\na: 2\n\na: 3", "a")
	wantHead(t, "b: 1\n \na: 2", "a", "2")
	wantHead(t, "b: 1\n\r\na: 2", "a", "2")
	wantHead(t, "b: 1\r\n\r\na: 2\r\n", "a", "2\r")
	wantHead(t, "b: 1\n\x00\na: 2", "a", "2")
	wantHead(t, "a: 1\n\na: 2", "a", "1")
	wantHead(t, "a: 1\n\n", "a", "1")
}

// Lines are told by the byte 10; behind the last one there may be a line that goes without.
func TestMailsAtTheEdgesOfLines(t *testing.T) {
	bodies := map[string]string{
		"": "", "\n": "", "\n\n": "\n", "\n\n\n": "\n\n", "a": "", "a\n": "", "a\n\n": "", "a\n\n\n": "\n",
		"\na": "a", "\na: b\n\nc": "a: b\n\nc", "\na\n": "a\n", "a: b": "", "a: b\n": "", "a: b\n\n": "", "a: b\n\nc": "c",
		"a: b\n\nc\n": "c\n", "a: b\nc: d": "", "a: b\nc: d\n": "", "a: b\n\nc: d\n\ne": "c: d\n\ne",
		"a: b\n\n\n\ne\n\n": "\n\ne\n\n", "a\n \nb": "", "a\r\n\r\nb": "", "a\n\r\nb\n\nc": "c", " \n\na": "a", "\r\n\n": "",
		"no head\n\nbody": "body", ":\n\n:": ":", "a\x00\n\n\x00": "\x00",
	}
	for text, want := range bodies {
		wantBody(t, text, want)
	}
	for _, text := range []string{"", "\n", "\n\n", "\n\n\n", "a", "a\n", "a\n\n", "\na", "\na: b\n\nc", "\na: b", "b\n\na: b"} {
		wantNoHead(t, text, "a")
		wantNoHead(t, text, "")
	}
	for _, text := range []string{"a: b", "a: b\n", "a: b\n\n", "a: b\n\nc", "c: d\na: b", "c: d\na: b\n", "a: b\nc: d", "c\na: b \n\n\n"} {
		wantHead(t, text, "a", "b")
	}
}

func TestHeadOfWrongNames(t *testing.T) {
	for _, name := range []string{"", ":", "::", " ", "\n", "subject:", ":subject", "subject: ", " subject", "subject ", "\nFrom", "x\nTO", "from\n", "from: x", "a b", "\x00"} {
		wantNoHead(t, someMail, name)
	}
	// A line that is such a name, ':' and whatever is told as any other.
	wantHead(t, someMail, "Subject:  Re", "a b")
	wantHead(t, "a:b: c", "a:b", "c")
	wantHead(t, "a:b: c", "a", "b: c")
	wantHead(t, "a::", "a:", "")
	wantHead(t, ": x\na: y", "", "x")
	wantHead(t, "a: y\n:", "", "")
	wantHead(t, ":: x", ":", "x")
	wantHead(t, "a b : c", "A B ", "c")
	wantNoHead(t, "a b : c", "a b")
	wantNoHead(t, "a : c", "a")
	wantNoHead(t, " a: c", "a")
	wantNoHead(t, "a: c", "a:")
	wantNoHead(t, "a: y\n\n: x", "")
	wantNoHead(t, "", "")
}

func TestHeadOfLinesWithoutColon(t *testing.T) {
	for _, text := range []string{"subject", "subject ", "subject x", "subject\n: x", "subject;x", "subject=x", "subject\uff1ax", "subject\x00:", "subject\r:x", "subject\t: x"} {
		wantNoHead(t, text, "subject")
		wantNoHead(t, text+"\n", "subject")
		wantNoHead(t, "from: x\n"+text+"\n\nsubject: y", "subject")
		wantHead(t, text+"\nsubject: z", "subject", "z")
	}
}

func TestHeadOfPartsOfNames(t *testing.T) {
	const name = "subject"
	for from := range len(name) {
		for to := from; to <= len(name); to++ {
			if part := name[from:to]; part != name {
				wantNoHead(t, name+": x", part)
				wantNoHead(t, part+": x", name)
				wantHead(t, name+": x\n"+part+": y", part, "y")
				wantHead(t, part+": x\n"+name+": y", name, "y")
			}
		}
	}
	for _, longer := range []string{"subjects", "xsubject", "subject-1", "subjectsubject", "subject\x00", "subject\xff"} {
		wantNoHead(t, name+": x", longer)
		wantNoHead(t, longer+": x", name)
	}
	wantNoHead(t, "a: x", strings.Repeat("a", 100000))
}

func TestHeadOfEveryByte(t *testing.T) {
	for c := range 256 {
		for d := range 256 {
			one, other := string([]byte{byte(c)}), string([]byte{byte(d)})
			wantMail(t, one+": x\nb"+one+"b: y", []string{other, "b" + other + "b", other + one})
		}
	}
}

func TestHeadOfLettersThatLookAlike(t *testing.T) {
	// Each is one of a to z, or is taken for it, when it is made small, great or plain.
	alike := map[string][]string{
		"k": {"\u212a", "\uff2b", "\uff4b", "\u043a"},
		"s": {"\u017f", "\uff33", "\uff53", "\u1e9e"},
		"i": {"\u0130", "\u0131", "i\u0307", "\uff29", "1"},
		"a": {"\u212b", "\u00e5", "\u00c5", "\uff21", "\uff41", "\u0430", "@", "`", "!"},
		"z": {"{", "[", ":", "\uff3a"},
	}
	for letter, others := range alike {
		for _, other := range others {
			for _, one := range []string{letter, strings.ToUpper(letter)} {
				wantNoHead(t, "x"+one+"y: 1", "x"+other+"y")
				wantNoHead(t, "x"+other+"y: 1", "x"+one+"y")
			}
			wantHead(t, "x"+letter+"y: 1\nX"+other+"Y: 2", "x"+other+"y", "2")
			wantBase(t, other+"Y", plainSmall(other)+"y")
		}
	}
	for _, pair := range [][2]string{{"\u00c9", "\u00e9"}, {"\u0416", "\u0436"}, {"\u03a3", "\u03c2"}, {"\u01c4", "\u01c6"}} {
		wantNoHead(t, pair[0]+": 1", pair[1])
		wantHead(t, pair[0]+": 1", pair[0], "1")
		wantBase(t, pair[0], pair[0])
	}
}

func TestMailsOfOddBytes(t *testing.T) {
	odds := oddTexts()
	for _, one := range odds {
		wantHead(t, "a:  "+one+" \n\n"+one, "a", one)
		wantHead(t, "a:  "+one+" "+one+" \n\n"+one, "A", one+" "+one)
		wantHead(t, one+"\n"+one+"K"+one+": 1\n\n", one+"k"+one, "1")
		wantBody(t, "a: b\n\n"+one+"\n\n"+one, one+"\n\n"+one)
		wantBody(t, one+"\n\n"+one, one)
		wantBody(t, "\n"+one, one)
		wantBody(t, "a: b\n"+one+"\nc", "")
		wantBase(t, " RE:"+one+"A"+one+" ", one+"a"+one)
		wantBase(t, one+"re: x", one+"re: x")
		for _, other := range odds {
			wantMail(t, one+": x\n"+other+": y\n\n"+one+other, []string{one, other, one + other, ""})
		}
	}
}

func TestMailsOfOtherSpaces(t *testing.T) {
	for _, space := range []string{"\t", "\r", "\v", "\f", "\x00", "\x1c", "\x85", "\xa0", "\u00a0", "\u0085", "\u2003", "\u3000", "\u200b", "\ufeff"} {
		wantHead(t, "a:"+space+"b"+space+"\n", "a", space+"b"+space)
		wantHead(t, "a: "+space+" b "+space+" \n", "a", space+" b "+space)
		wantHead(t, "a: "+space+" ", "a", space)
		wantNoHead(t, "a"+space+": b", "a")
		wantNoHead(t, space+"a: b", "a")
		wantBase(t, space+"re: b", space+"re: b")
		wantBase(t, "re:"+space+"re:b"+space, space+"re:b"+space)
		wantBase(t, " "+space+" ", space)
		wantBody(t, "a: b\n"+space+"\nc", "")
	}
}

// wantEveryShortMail holds mails of at most size of the pieces against the document's rule.
func wantEveryShortMail(t *testing.T, mail string, pieces []string, names []string, size int) {
	wantMail(t, mail, names)
	if size == 0 {
		return
	}
	for _, piece := range pieces {
		wantEveryShortMail(t, mail+piece, pieces, names, size-1)
	}
}

func TestEveryShortMail(t *testing.T) {
	pieces := []string{"a", "B", ":", " ", "\n", "\xc3"}
	names := []string{"", "a", "A", "b", "ab", "a:", ":", " ", "a ", "\n", "a\nb", "\xc3", "\xc4", "\ufffd"}
	wantEveryShortMail(t, "", pieces, names, 6)
	wantEveryShortMail(t, "", []string{"a:", "A: b ", "\n", "b", "\n\n"}, []string{"a", "b", ""}, 6)
}

func TestDrawnMails(t *testing.T) {
	pieces := []string{"subject", "Subject", "FROM", "from", ":", ":", ": ", " ", "\n", "\n", "\n\n", "x", "\r", "\xff", "\u00e9", "\x00", "re:"}
	names := []string{"subject", "SUBJECT", "From", "x", "re", "", "\u00e9", "\xff", "subjectfrom"}
	r := rand.New(rand.NewSource(7))
	for range 20000 {
		mail := ""
		for range r.Intn(25) {
			mail += pieces[r.Intn(len(pieces))]
		}
		wantMail(t, mail, names)
	}
}

func TestHeadsAndBodyPutTogether(t *testing.T) {
	heads := [][2]string{{"Subject", "one Two"}, {"from", "a: b"}, {"X-Y_z", ""}, {"\u00c9", "\xff"}, {"a b", "c"}}
	for _, body := range []string{"", "x", "\n", "\n\n", "Subject: no\n\nfrom: no", "\xff\x00\xfe"} {
		for count := range len(heads) + 1 {
			mail := ""
			for _, head := range heads[:count] {
				mail += head[0] + ":  " + head[1] + " \n"
			}
			mail += "\n" + body
			wantBody(t, mail, body)
			for i, head := range heads {
				if i < count {
					wantHead(t, mail, head[0], head[1])
				} else {
					wantNoHead(t, mail, head[0])
				}
			}
		}
	}
}

func TestBaseSubjectForms(t *testing.T) {
	forms := map[string]string{
		"": "", " ": "", "    ": "", "a": "a", "A b": "a b", "  A  B  ": "a  b", "a b": "a b", "HALLO": "hallo",
		"re: a": "a", "Re: a b": "a b", "RE:a": "a", "rE:   A": "a", "fwd: a": "a", "Fwd:a": "a", "FWD: A": "a",
		"re: re: a": "a", "re:re:re:a": "a", "Re: FWD: re:fwd:  a ": "a", "fwd:fwd: a": "a", "fwd:re: a": "a", "re:fwd:a": "a",
		"re:": "", "re: ": "", " re:": "", "re:re:": "", "fwd:": "", "fwd:  re:  ": "", "re:fwd:": "",
		"a re: b": "a re: b", "a fwd:": "a fwd:", "re: a re: b": "a re: b", "re: a fwd: ": "a fwd:",
		"re": "re", "fwd": "fwd", "re a": "re a", "re : a": "re : a", "fwd : a": "fwd : a", "r e: a": "r e: a", ":re: a": ":re: a",
		"ref: a": "ref: a", "are: a": "are: a", "fw: a": "fw: a", "FW: a": "fw: a", "wd: a": "wd: a", "aw: a": "aw: a", "e: a": "e: a",
		"re[2]: a": "re[2]: a", "re:: a": ": a", "re:;a": ";a", "(re: a)": "(re: a)", "fwdre: a": "fwdre: a", "refwd: a": "refwd: a",
		"Re: [A] b (C)": "[a] b (c)", "re:\n": "\n", "\nre: a": "\nre: a", "re: a\n": "a\n",
	}
	for text, want := range forms {
		wantBase(t, text, want)
	}
}

func TestBaseSubjectOfManyAhead(t *testing.T) {
	aheads := []string{"re:", "RE:", "Re:", "fwd:", "FWD:", "fWd:", "rE: ", " Fwd:   "}
	for _, first := range aheads {
		for _, second := range aheads {
			for _, third := range aheads {
				for _, blanks := range []string{"", " ", "   "} {
					ahead := first + blanks + second + blanks + third + blanks
					wantBase(t, ahead+"Some Words", "some words")
					wantBase(t, blanks+ahead+"x re: y"+blanks, "x re: y")
					wantBase(t, ahead, "")
				}
			}
		}
	}
	const many = 50000
	wantBase(t, strings.Repeat("re:", many)+"a", "a")
	wantBase(t, strings.Repeat("FWD: re:  ", many)+"a", "a")
	wantBase(t, strings.Repeat(" ", many)+"A"+strings.Repeat(" ", many), "a")
	wantBase(t, strings.Repeat("re ", many)+":", strings.Repeat("re ", many)+":")
}

func TestBaseSubjectOfEveryByte(t *testing.T) {
	for c := range 256 {
		one := string([]byte{byte(c)})
		for _, text := range []string{one, one + "re: a", "re:" + one, "re: " + one + "re: a", "r" + one + "e: a", "re" + one + " a", "a" + one + "Z", "fwd: " + one + one} {
			wantBase(t, text, plainBase(text))
		}
	}
}

func TestBaseSubjectOfDrawnTexts(t *testing.T) {
	pieces := []string{"re", "RE", "re:", "Re:", "fwd", "fwd:", "FWD:", ":", " ", " ", "  ", "x", "Y", "\xff", "\t", "f", "w", "d", "r", "e"}
	r := rand.New(rand.NewSource(77))
	for range 60000 {
		text := ""
		for range r.Intn(9) {
			text += pieces[r.Intn(len(pieces))]
		}
		want := plainBase(text)
		wantBase(t, text, want)
		wantBase(t, want, want)
		wantBase(t, " Fwd:"+text, want)
		wantBase(t, "re:  "+text+"  ", want)
	}
}

// cutTexts are texts whose parts are looked at, of which some are cut within a rune.
func cutTexts() []string {
	return append(oddTexts(), "", "a", "ab", "abcd", "abcdefghij", "a\nb\n\nc", "\x00\x00", "h\u00e9\u20ac\U0001f4e7", "\xff\xfe\xfd", someMail)
}

func TestPartOfForms(t *testing.T) {
	wantPart(t, "abcd", 1, 2, "bc")
	wantPart(t, "abcd", 0, 4, "abcd")
	wantPart(t, "abcd", 0, 5, "abcd")
	wantPart(t, "abcd", 0, 0, "")
	wantPart(t, "abcd", 3, 1, "d")
	wantPart(t, "abcd", 3, 2, "d")
	wantPart(t, "abcd", 4, 0, "")
	wantPart(t, "abcd", 4, 1, "")
	wantPart(t, "abcd", 5, 1, "")
	wantPart(t, "abcd", -1, 2, "")
	wantPart(t, "abcd", 1, -1, "")
	wantPart(t, "\u00e9\u20ac", 1, 2, "\xa9\xe2")
}

func TestPartOfEveryPlace(t *testing.T) {
	for _, text := range cutTexts() {
		for from := -3; from <= len(text)+3; from++ {
			for n := -3; n <= len(text)+3; n++ {
				wantPart(t, text, from, n, plainPartOf(text, from, n))
			}
		}
	}
}

func TestPartOfFarNumbers(t *testing.T) {
	far := []int{math.MaxInt, math.MaxInt - 1, math.MaxInt - 4, math.MaxInt/2 + 1, 1 << 62, 1 << 32, 1<<32 + 1, 1 << 31, 1000000}
	below := []int{math.MinInt, math.MinInt + 1, math.MinInt + 4, -1 << 62, -1 << 32, 1 - 1<<32, -1 << 31, -2, -1}
	for _, text := range cutTexts() {
		for _, much := range far {
			for from := range len(text) + 1 {
				wantPart(t, text, from, much, text[from:])
				wantPart(t, text, much, from, "")
			}
			for _, other := range far {
				wantPart(t, text, much, other, "")
			}
			for _, less := range below {
				wantPart(t, text, much, less, "")
				wantPart(t, text, less, much, "")
			}
		}
		for _, less := range below {
			for place := range len(text) + 2 {
				wantPart(t, text, less, place, "")
				wantPart(t, text, place, less, "")
			}
			for _, other := range below {
				wantPart(t, text, less, other, "")
			}
		}
	}
}

func TestPartsPutTogetherAreTheWhole(t *testing.T) {
	for _, text := range cutTexts() {
		for at := range len(text) + 1 {
			if whole := impl.PartOf(text, 0, at) + impl.PartOf(text, at, len(text)-at); whole != text {
				t.Errorf("the parts of %q, cut at %d, are %q", text, at, whole)
			}
			if whole := impl.PartOf(text, 0, at) + impl.PartOf(text, at, math.MaxInt); whole != text {
				t.Errorf("the parts of %q, cut at %d and without end, are %q", text, at, whole)
			}
		}
		for size := 1; size <= len(text)+1; size++ {
			whole := ""
			for from := 0; from <= len(text); from += size {
				whole += impl.PartOf(text, from, size)
			}
			if whole != text {
				t.Errorf("the parts of %d bytes of %q are %q", size, text, whole)
			}
		}
	}
}

func TestLongMails(t *testing.T) {
	const many = 100000
	wantBody(t, strings.Repeat("\n", many), strings.Repeat("\n", many-1))
	wantBody(t, strings.Repeat("a\n", many), "")
	wantBody(t, strings.Repeat("a\n", many)+"\n"+strings.Repeat("b", many), strings.Repeat("b", many))
	wantHead(t, strings.Repeat("a: 1\n", many)+"b: 2", "b", "2")
	wantNoHead(t, strings.Repeat("a: 1\n", many)+"\nb: 2", "b")
	wantNoHead(t, strings.Repeat(":", many), "a")
	wantHead(t, "a:"+strings.Repeat(" ", many)+"b"+strings.Repeat(" ", many), "a", "b")
	long := strings.Repeat("a", many)
	wantHead(t, strings.ToUpper(long)+": x", long, "x")
	wantPart(t, long, many-1, many, "a")
}

func TestMailsAnswerNewMemory(t *testing.T) {
	mail := strings.Join([]string{"subject: some words", "", "some body"}, "\n")
	name := strings.Join([]string{"sub", "ject"}, "")
	if head, ok := impl.HeadOf(mail, name); !ok || head != "some words" || lies(head, mail) {
		t.Error("HeadOf shares the memory of its argument")
	}
	if body := impl.BodyOf(mail); body != "some body" || lies(body, mail) {
		t.Error("BodyOf shares the memory of its argument")
	}
	for _, subject := range []string{mail, mail[9:19], mail[8:19]} {
		if base := impl.BaseSubject(subject); base == "" || lies(base, mail) {
			t.Error("BaseSubject shares the memory of its argument")
		}
	}
	for _, n := range []int{1, 5, len(mail), math.MaxInt} {
		if part := impl.PartOf(mail, 0, n); part == "" || lies(part, mail) {
			t.Errorf("PartOf, of %d bytes, shares the memory of its argument", n)
		}
	}
	if mail != "subject: some words\n\nsome body" || name != "subject" {
		t.Error("an argument is changed")
	}
}

func TestMailsKeepNothing(t *testing.T) {
	for range 2 {
		wantHead(t, someMail, "FROM", "x")
		wantNoHead(t, "", "from")
		wantNoHead(t, someMail, "")
		wantBody(t, "\nb", "b")
		wantBody(t, "", "")
		wantBase(t, "Re: A", "a")
		wantBase(t, "", "")
		wantPart(t, "abc", 1, 1, "b")
		wantPart(t, "", 0, 1, "")
	}
}
