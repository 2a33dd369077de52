package impl

import (
	"strconv"
	"strings"
)

const (
	MaxText   = 20000
	MaxNumber = 1000000000
	MaxWords  = 600
	MaxParts  = 10
)

// MaxNumber takes five bytes of seven bits, and ten decimal figures: what is
// longer is refused before it could grow beyond an int.
const (
	varBytes       = 5
	decimalFigures = 10
)

const (
	figures   = "0123456789abcdef"
	blank     = 32
	lastPlain = 126
)

func VarText(n int) (string, bool) {
	if n < 0 || n > MaxNumber {
		return "", false
	}
	var out []byte
	for n > 127 {
		out = append(out, byte(n%128+128))
		n /= 128
	}
	return string(append(out, byte(n))), true
}

func ReadVar(text string, at int) (int, int, bool) {
	if at < 0 || at > len(text) {
		return 0, 0, false
	}
	n, weight := 0, 1
	for place := at; place < len(text) && place < at+varBytes; place++ {
		b := int(text[place])
		n += b % 128 * weight
		weight *= 128
		if b > 127 {
			continue
		}
		// A last byte of 0 adds nothing: without it the number is shorter.
		longer := b == 0 && place > at
		if longer || n > MaxNumber {
			return 0, 0, false
		}
		return n, place + 1, true
	}
	return 0, 0, false
}

func ShortText(s string) (string, bool) {
	if len(s) > MaxText {
		return "", false
	}
	length, ok := VarText(len(s))
	return length + s, ok
}

func ReadShort(text string, at int) (string, int, bool) {
	length, start, ok := ReadVar(text, at)
	if !ok || length > MaxText || length > len(text)-start {
		return "", 0, false
	}
	end := start + length
	return strings.Clone(text[start:end]), end, true
}

func Hex(text string) (string, bool) {
	if len(text) > MaxText {
		return "", false
	}
	out := make([]byte, 0, 2*len(text))
	for at := 0; at < len(text); at++ {
		out = append(out, figures[text[at]/16], figures[text[at]%16])
	}
	return string(out), true
}

func Unhex(text string) (string, bool) {
	if len(text)%2 != 0 || len(text) > 2*MaxText {
		return "", false
	}
	halves, ok := figureValues(text, 16)
	if !ok {
		return "", false
	}
	out := make([]byte, 0, len(halves)/2)
	for at := 0; at < len(halves); at += 2 {
		out = append(out, byte(halves[at]*16+halves[at+1]))
	}
	return string(out), true
}

func Decimal(n int) string { return strconv.Itoa(n) }

func ReadDecimal(text string) (int, bool) {
	if text == "" || len(text) > decimalFigures {
		return 0, false
	}
	values, ok := figureValues(text, 10)
	if !ok || values[0] == 0 && len(values) > 1 {
		return 0, false
	}
	n := 0
	for _, value := range values {
		n = n*10 + value
	}
	if n > MaxNumber {
		return 0, false
	}
	return n, true
}

// figureValues tells what each byte of text counts as a figure of this base;
// false when one is none.
func figureValues(text string, base int) ([]int, bool) {
	values := make([]int, 0, len(text))
nextFigure:
	for at := 0; at < len(text); at++ {
		for value := 0; value < base; value++ {
			if text[at] == figures[value] {
				values = append(values, value)
				continue nextFigure
			}
		}
		return nil, false
	}
	return values, true
}

func PartsOf(line string) ([]string, bool) {
	if len(line) > MaxWords || !plainLine(line) {
		return []string{}, false
	}
	parts := []string{}
	start := 0
	for at := 0; at <= len(line); at++ {
		if at < len(line) && line[at] != blank {
			continue
		}
		if at > start {
			parts = append(parts, strings.Clone(line[start:at]))
		}
		start = at + 1
	}
	if len(parts) > MaxParts {
		return []string{}, false
	}
	return parts, true
}

func plainLine(line string) bool {
	for at := 0; at < len(line); at++ {
		if line[at] < blank || line[at] > lastPlain {
			return false
		}
	}
	return true
}
