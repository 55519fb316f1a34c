package impl

import (
	"strconv"
	"strings"
)

const (
	MaxText   = 20000
	MaxNumber = 1000000000
	MaxWords  = 600
	MaxParts  = 10
)

const hexFigures = "0123456789abcdef"

func VarText(n int) (string, bool) {
	if n < 0 || n > MaxNumber {
		return "", false
	}
	var out []byte
	for n > 127 {
		out = append(out, byte(n%128+128))
		n /= 128
	}
	return string(append(out, byte(n))), true
}

func ReadVar(text string, at int) (int, int, bool) {
	if at < 0 || at > len(text) {
		return 0, 0, false
	}
	n, weight := 0, 1
	// A weight above MaxNumber belongs to no number, so that n cannot wrap round.
	for i := at; i < len(text) && weight <= MaxNumber; i++ {
		c := text[i]
		n += int(c%128) * weight
		if c < 128 {
			return varEnd(n, at, i, c)
		}
		weight *= 128
	}
	return 0, 0, false
}

// varEnd judges a number whose bytes stand at first .. last, the last being c.
func varEnd(n int, first int, last int, c byte) (int, int, bool) {
	// A last byte that adds nothing is a longer form, unless it is the number 0 itself.
	longer := c == 0 && last > first
	if longer || n > MaxNumber {
		return 0, 0, false
	}
	return n, last + 1, true
}

func ShortText(s string) (string, bool) {
	if len(s) > MaxText {
		return "", false
	}
	size, ok := VarText(len(s))
	if !ok {
		return "", false
	}
	return size + s, true
}

func ReadShort(text string, at int) (string, int, bool) {
	size, from, ok := ReadVar(text, at)
	if !ok || size > MaxText || size > len(text)-from {
		return "", 0, false
	}
	end := from + size
	// A piece of text would share its memory with the argument.
	return strings.Clone(text[from:end]), end, true
}

func Hex(text string) (string, bool) {
	if len(text) > MaxText {
		return "", false
	}
	out := make([]byte, 0, 2*len(text))
	for i := range len(text) {
		c := text[i]
		out = append(out, hexFigures[c/16], hexFigures[c%16])
	}
	return string(out), true
}

func Unhex(text string) (string, bool) {
	if len(text)%2 != 0 || len(text) > 2*MaxText {
		return "", false
	}
	out := make([]byte, len(text)/2)
figures:
	for i := range len(text) {
		for value := range len(hexFigures) {
			if hexFigures[value] == text[i] {
				out[i/2] = out[i/2]*16 + byte(value)
				continue figures
			}
		}
		return "", false
	}
	return string(out), true
}

func Decimal(n int) string { return strconv.Itoa(n) }

func ReadDecimal(text string) (int, bool) {
	n := 0
figures:
	for i := range len(text) {
		c := text[i]
		switch {
		case c < '0' || c > '9', n > MaxNumber:
			// It is refused below in any case; to go on would only let n wrap round.
			break figures
		default:
			n = n*10 + int(c-'0')
		}
	}
	// What is left over, needless noughts and an empty text all differ from what Decimal writes.
	if n > MaxNumber || Decimal(n) != text {
		return 0, false
	}
	return n, true
}

func PartsOf(line string) ([]string, bool) {
	if len(line) > MaxWords {
		return nil, false
	}
	for i := range len(line) {
		if line[i] < ' ' || line[i] > '~' {
			return nil, false
		}
	}
	// Of the bytes that are left the blank alone is a space to Fields; the parts are pieces of a copy, not of line.
	parts := strings.Fields(strings.Clone(line))
	if len(parts) > MaxParts {
		return nil, false
	}
	return parts, true
}
