package impl

import (
	"strconv"
	"strings"
)

const (
	MaxText   = 20000
	MaxNumber = 1000000000
	MaxWords  = 600
	MaxParts  = 10
)

// What the greatest number takes: whoever reads goes no further, so nothing wraps round.
const (
	maxVarBytes = 5
	maxFigures  = 10
)

const allFigures = "0123456789abcdef"

func VarText(n int) (string, bool) {
	if n < 0 || n > MaxNumber {
		return "", false
	}
	out := make([]byte, 0, maxVarBytes)
	for n > 127 {
		out = append(out, byte(n%128+128))
		n /= 128
	}
	return string(append(out, byte(n))), true
}

func ReadVar(text string, at int) (int, int, bool) {
	if at < 0 || at > len(text) {
		return 0, 0, false
	}
	n, scale := 0, 1
	for i, end := at, min(len(text), at+maxVarBytes); i < end; i++ {
		c := int(text[i])
		n += c % 128 * scale
		scale *= 128
		if c > 127 {
			continue
		}
		// A last byte of 0 adds nothing: VarText would have ended ahead of it.
		longer := c == 0 && i > at
		if longer || n > MaxNumber {
			return 0, 0, false
		}
		return n, i + 1, true
	}
	return 0, 0, false
}

func ShortText(s string) (string, bool) {
	if len(s) > MaxText {
		return "", false
	}
	size, ok := VarText(len(s))
	return size + s, ok
}

func ReadShort(text string, at int) (string, int, bool) {
	size, from, ok := ReadVar(text, at)
	if !ok || size > MaxText || size > len(text)-from {
		return "", 0, false
	}
	// A slice would share the caller's bytes.
	return strings.Clone(text[from : from+size]), from + size, true
}

func Hex(text string) (string, bool) {
	if len(text) > MaxText {
		return "", false
	}
	out := make([]byte, 0, 2*len(text))
	for i := 0; i < len(text); i++ {
		out = append(out, allFigures[text[i]/16], allFigures[text[i]%16])
	}
	return string(out), true
}

func Unhex(text string) (string, bool) {
	if len(text)%2 != 0 || len(text) > 2*MaxText {
		return "", false
	}
	values, ok := figureValues(text, true)
	if !ok {
		return "", false
	}
	out := make([]byte, 0, len(values)/2)
	for i := 0; i < len(values); i += 2 {
		out = append(out, values[i]*16+values[i+1])
	}
	return string(out), true
}

func Decimal(n int) string { return strconv.Itoa(n) }

func ReadDecimal(text string) (int, bool) {
	if text == "" || len(text) > maxFigures {
		return 0, false
	}
	if text[0] == '0' && len(text) > 1 {
		return 0, false
	}
	values, ok := figureValues(text, false)
	if !ok {
		return 0, false
	}
	n := 0
	for _, v := range values {
		n = n*10 + int(v)
	}
	if n > MaxNumber {
		return 0, false
	}
	return n, true
}

func PartsOf(line string) ([]string, bool) {
	if len(line) > MaxWords || !plainLine(line) {
		return []string{}, false
	}
	// In a plain line the blank is the only white space that Fields can find.
	parts := strings.Fields(line)
	if len(parts) > MaxParts {
		return []string{}, false
	}
	for i, part := range parts {
		parts[i] = strings.Clone(part)
	}
	return parts, true
}

// figureValues ends at the first byte that is no figure: then fewer were read than text has.
func figureValues(text string, letters bool) ([]byte, bool) {
	values := make([]byte, 0, len(text))
figures:
	for i := 0; i < len(text); i++ {
		switch c := text[i]; {
		case '0' <= c && c <= '9':
			values = append(values, c-'0')
		case letters && 'a' <= c && c <= 'f':
			values = append(values, c-'a'+10)
		default:
			break figures
		}
	}
	return values, len(values) == len(text)
}

func plainLine(line string) bool {
	for i := 0; i < len(line); i++ {
		if line[i] < 32 || line[i] > 126 {
			return false
		}
	}
	return true
}
