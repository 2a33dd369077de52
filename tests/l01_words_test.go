package tests

import (
	"math"
	"slices"
	"strconv"
	"strings"
	"testing"

	"loop.example/g00232/impl"
)

func TestWordsLimits(t *testing.T) {
	got := []int{impl.MaxText, impl.MaxNumber, impl.MaxWords, impl.MaxParts}
	if !slices.Equal(got, []int{20000, 1000000000, 600, 10}) {
		t.Errorf("limits are %v", got)
	}
}

func wantVarText(t *testing.T, n int, want string, right bool) {
	t.Helper()
	if got, ok := impl.VarText(n); got != want || ok != right {
		t.Errorf("VarText(%d) = %q, %v; want %q, %v", n, got, ok, want, right)
	}
}

func TestVarText(t *testing.T) {
	wantVarText(t, 0, "\x00", true)
	wantVarText(t, 1, "\x01", true)
	wantVarText(t, 127, "\x7f", true)
	wantVarText(t, 128, "\x80\x01", true)
	wantVarText(t, 255, "\xff\x01", true)
	wantVarText(t, 256, "\x80\x02", true)
	wantVarText(t, 300, "\xac\x02", true)
	wantVarText(t, 16383, "\xff\x7f", true)
	wantVarText(t, 16384, "\x80\x80\x01", true)
	wantVarText(t, 2097151, "\xff\xff\x7f", true)
	wantVarText(t, 2097152, "\x80\x80\x80\x01", true)
	wantVarText(t, 268435455, "\xff\xff\xff\x7f", true)
	wantVarText(t, 268435456, "\x80\x80\x80\x80\x01", true)
	wantVarText(t, impl.MaxNumber, "\x80\x94\xeb\xdc\x03", true)
}

func TestVarTextRefuses(t *testing.T) {
	for _, n := range []int{-1, -127, -128, math.MinInt, impl.MaxNumber + 1, 1 << 32, 1<<32 + 5, math.MaxInt} {
		wantVarText(t, n, "", false)
	}
}

func wantReadVar(t *testing.T, text string, at, n, behind int, right bool) {
	t.Helper()
	gotN, gotBehind, ok := impl.ReadVar(text, at)
	if gotN != n || gotBehind != behind || ok != right {
		t.Errorf("ReadVar(%q, %d) = %d, %d, %v; want %d, %d, %v", text, at, gotN, gotBehind, ok, n, behind, right)
	}
}

func TestReadVar(t *testing.T) {
	wantReadVar(t, "\x00", 0, 0, 1, true)
	wantReadVar(t, "\x00\x00", 0, 0, 1, true)
	wantReadVar(t, "\x00\x00", 1, 0, 2, true)
	wantReadVar(t, "\x7f\x80", 0, 127, 1, true)
	wantReadVar(t, "\x80\x01", 0, 128, 2, true)
	wantReadVar(t, "\x80\x01", 1, 1, 2, true)
	wantReadVar(t, "ab\xac\x02cd", 2, 300, 4, true)
	wantReadVar(t, "\xff\xff\xff\x7f", 0, 268435455, 4, true)
	wantReadVar(t, "\x80\x94\xeb\xdc\x03", 0, impl.MaxNumber, 5, true)
	wantReadVar(t, "\x80\x94\xeb\xdc\x03\x00", 0, impl.MaxNumber, 5, true)
}

func TestReadVarRefusesLongerForms(t *testing.T) {
	forms := []string{
		"\x80\x00",
		"\x81\x00",
		"\xff\x00",
		"\x80\x80\x00",
		"\xac\x82\x00",
		"\xff\xff\xff\x00",
		"\x80\x80\x80\x80\x00",
		"\x80\x94\xeb\xdc\x83\x00",
		"\x80\x80\x80\x80\x80\x80\x80\x80\x80\x80\x00",
		strings.Repeat("\x80", 50) + "\x00",
	}
	for _, form := range forms {
		wantReadVar(t, form, 0, 0, 0, false)
		wantReadVar(t, "x"+form+"\x01", 1, 0, 0, false)
	}
}

func TestReadVarRefusesTextsThatEndTooEarly(t *testing.T) {
	for _, text := range []string{"", "\x80", "\xff", "\xff\xff", "\x80\x94\xeb\xdc"} {
		wantReadVar(t, text, 0, 0, 0, false)
		wantReadVar(t, "\x01"+text, 1, 0, 0, false)
	}
}

func TestReadVarRefusesTooGreatNumbers(t *testing.T) {
	texts := []string{
		"\x81\x94\xeb\xdc\x03", // MaxNumber + 1
		"\x80\x94\xeb\xdc\x04",
		"\xff\xff\xff\xff\x7f",
		"\x80\x80\x80\x80\x80\x01",
		"\x80\x80\x80\x80\x80\x80\x80\x80\x80\x01", // two to the 63rd
		"\x80\x80\x80\x80\x80\x80\x80\x80\x80\x02", // two to the 64th, which is 0 when it wraps
		"\x85\x80\x80\x80\x80\x80\x80\x80\x80\x02", // and 5 more
		strings.Repeat("\xff", 40) + "\x01",
		strings.Repeat("\x80", impl.MaxText) + "\x01",
	}
	for _, text := range texts {
		wantReadVar(t, text, 0, 0, 0, false)
	}
}

func TestReadVarRefusesPlaces(t *testing.T) {
	text := "\x01\x02\x03"
	for _, at := range []int{-1, -3, math.MinInt, 3, 4, 100, math.MaxInt} {
		wantReadVar(t, text, at, 0, 0, false)
	}
	for _, at := range []int{-1, 0, 1, math.MinInt, math.MaxInt} {
		wantReadVar(t, "", at, 0, 0, false)
	}
}

func checkVarBack(t *testing.T, n int) {
	t.Helper()
	text, ok := impl.VarText(n)
	if !ok {
		t.Fatalf("VarText(%d) is false", n)
	}
	wantReadVar(t, text, 0, n, len(text), true)
	wantReadVar(t, "\xff"+text+"\xff", 1, n, 1+len(text), true)
	for cut := range len(text) {
		wantReadVar(t, text[:cut], 0, 0, 0, false)
	}
}

func TestVarTextIsReadBack(t *testing.T) {
	for n := range 40000 {
		checkVarBack(t, n)
	}
	for n := 40000; n <= impl.MaxNumber; n += 99991 {
		checkVarBack(t, n)
	}
	for _, edge := range []int{1 << 7, 1 << 14, 1 << 21, 1 << 28} {
		checkVarBack(t, edge-1)
		checkVarBack(t, edge)
		checkVarBack(t, edge+1)
	}
	checkVarBack(t, impl.MaxNumber-1)
	checkVarBack(t, impl.MaxNumber)
}

// What is read must be just what VarText writes: no bytes tell a number in two ways.
func TestReadVarTakesNothingElse(t *testing.T) {
	edges := []byte{0, 1, 2, 3, 4, 127, 128, 129, 131, 148, 220, 235, 255}
	var grow func(text string)
	grow = func(text string) {
		if n, behind, ok := impl.ReadVar(text, 0); ok {
			back, fine := impl.VarText(n)
			if !fine || behind > len(text) || text[:behind] != back {
				t.Fatalf("ReadVar(%q, 0) = %d, %d, of which VarText is %q", text, n, behind, back)
			}
		} else if n != 0 || behind != 0 {
			t.Fatalf("ReadVar(%q, 0) = %d, %d, false", text, n, behind)
		}
		for _, b := range edges {
			if len(text) < 5 {
				grow(text + string([]byte{b}))
			}
		}
	}
	grow("")
}

func wantShort(t *testing.T, s string, length string) {
	t.Helper()
	text, ok := impl.ShortText(s)
	if !ok || text != length+s {
		t.Fatalf("ShortText of %d bytes is %v, of %d bytes", len(s), ok, len(text))
	}
	wantReadShort(t, text, 0, s, len(text), true)
	wantReadShort(t, "\x80\x05"+text+"\xff", 2, s, 2+len(text), true)
	wantReadShort(t, text[:len(text)-1], 0, "", 0, false)
}

func wantReadShort(t *testing.T, text string, at int, s string, behind int, right bool) {
	t.Helper()
	gotS, gotBehind, ok := impl.ReadShort(text, at)
	if gotS != s || gotBehind != behind || ok != right {
		t.Errorf("ReadShort of %d bytes at %d = %d bytes, %d, %v; want %d bytes, %d, %v",
			len(text), at, len(gotS), gotBehind, ok, len(s), behind, right)
	}
}

func TestShortTextIsReadBack(t *testing.T) {
	wantShort(t, "", "\x00")
	wantShort(t, "a", "\x01")
	wantShort(t, "\x00\xff\x80 \n", "\x05")
	wantShort(t, strings.Repeat("x", 127), "\x7f")
	wantShort(t, strings.Repeat("x", 128), "\x80\x01")
	wantShort(t, strings.Repeat("\xfe", impl.MaxText-1), "\x9f\x9c\x01")
	wantShort(t, strings.Repeat("\xfe", impl.MaxText), "\xa0\x9c\x01")
	for length := range 300 {
		s := mixedBytes(length)
		head, _ := impl.VarText(length)
		wantShort(t, s, head)
	}
}

func TestShortTextRefuses(t *testing.T) {
	for _, length := range []int{impl.MaxText + 1, 2 * impl.MaxText} {
		if text, ok := impl.ShortText(strings.Repeat("x", length)); ok || text != "" {
			t.Errorf("ShortText of %d bytes = %d bytes, %v", length, len(text), ok)
		}
	}
}

func TestReadShort(t *testing.T) {
	wantReadShort(t, "\x02abc", 0, "ab", 3, true)
	wantReadShort(t, "\x02\x01bc", 1, "b", 3, true)
	wantReadShort(t, "\x00", 0, "", 1, true)
	wantReadShort(t, "ab\x00", 2, "", 3, true)
}

func TestReadShortRefuses(t *testing.T) {
	wantReadShort(t, "", 0, "", 0, false)
	wantReadShort(t, "\x01", 0, "", 0, false)
	wantReadShort(t, "\x03ab", 0, "", 0, false)
	wantReadShort(t, "\x82\x00ab", 0, "", 0, false)
	wantReadShort(t, "\x80\x00", 0, "", 0, false)
	wantReadShort(t, "\x80", 0, "", 0, false)
	wantReadShort(t, "\x80\x94\xeb\xdc\x03abc", 0, "", 0, false)
	wantReadShort(t, "\x81\x94\xeb\xdc\x03abc", 0, "", 0, false)
	// The length MaxText + 1 with all of its bytes: no ShortText begins so.
	wantReadShort(t, "\xa1\x9c\x01"+strings.Repeat("x", impl.MaxText+1), 0, "", 0, false)
	for _, at := range []int{-1, math.MinInt, 3, 4, math.MaxInt} {
		wantReadShort(t, "\x01\x01a", at, "", 0, false)
	}
}

// mixedBytes makes a text in which every byte comes up, the same at each run.
func mixedBytes(length int) string {
	out := make([]byte, length)
	state := uint32(length)*2654435761 + 12345
	for at := range out {
		state = state*1664525 + 1013904223
		out[at] = byte(state >> 24)
	}
	return string(out)
}

func wantHex(t *testing.T, text, figures string) {
	t.Helper()
	if got, ok := impl.Hex(text); !ok || got != figures {
		t.Fatalf("Hex of %d bytes is %v, of %d figures", len(text), ok, len(got))
	}
	if got, ok := impl.Unhex(figures); !ok || got != text {
		t.Fatalf("Unhex of %d figures is %v, of %d bytes", len(figures), ok, len(got))
	}
}

func TestHexIsReadBack(t *testing.T) {
	wantHex(t, "", "")
	wantHex(t, "\x00", "00")
	wantHex(t, "\x0f\xf0", "0ff0")
	wantHex(t, "az\xff", "617aff")
	for b := range 256 {
		const digits = "0123456789abcdef"
		wantHex(t, string([]byte{byte(b)}), string([]byte{digits[b>>4], digits[b&15]}))
	}
	wantHex(t, strings.Repeat("\xab", impl.MaxText-1), strings.Repeat("ab", impl.MaxText-1))
	wantHex(t, strings.Repeat("\xab", impl.MaxText), strings.Repeat("ab", impl.MaxText))
}

func TestHexRefuses(t *testing.T) {
	for _, length := range []int{impl.MaxText + 1, 3 * impl.MaxText} {
		if got, ok := impl.Hex(strings.Repeat("x", length)); ok || got != "" {
			t.Errorf("Hex of %d bytes = %d figures, %v", length, len(got), ok)
		}
	}
}

func wantNoUnhex(t *testing.T, text string) {
	t.Helper()
	if got, ok := impl.Unhex(text); ok || got != "" {
		t.Errorf("Unhex of %d figures = %q, %v", len(text), got, ok)
	}
}

func TestUnhexRefuses(t *testing.T) {
	for _, text := range []string{"0", "abc", "00000", "0A", "A0", "Ff", "g0", "0g", "0x", " 0", "0 ", "-1", "00\n0", "\x00\x00", "é", "ab:d", "ab/d", "ab`d"} {
		wantNoUnhex(t, text)
	}
	wantNoUnhex(t, strings.Repeat("00", impl.MaxText+1))
	wantNoUnhex(t, strings.Repeat("0", 2*impl.MaxText+1))
	wantNoUnhex(t, strings.Repeat("0", 2*impl.MaxText-1))
	wantNoUnhex(t, strings.Repeat("0", 2*impl.MaxText-1)+"G")
}

func TestUnhexTakesJustItsFigures(t *testing.T) {
	for b := range 256 {
		c := byte(b)
		figure := c >= '0' && c <= '9' || c >= 'a' && c <= 'f'
		for _, text := range []string{string([]byte{c, '0'}), string([]byte{'0', c})} {
			got, ok := impl.Unhex(text)
			if ok != figure || !ok && got != "" {
				t.Errorf("Unhex(%q) = %q, %v", text, got, ok)
			}
		}
	}
}

func TestDecimal(t *testing.T) {
	want := map[int]string{
		0: "0", 1: "1", 9: "9", 10: "10", 100: "100", 1234567890: "1234567890",
		-1: "-1", -5: "-5", -10: "-10", -1000000001: "-1000000001",
		impl.MaxNumber:  "1000000000",
		math.MaxInt:     "9223372036854775807",
		math.MinInt:     "-9223372036854775808",
		math.MinInt + 1: "-9223372036854775807",
	}
	for n, text := range want {
		if got := impl.Decimal(n); got != text {
			t.Errorf("Decimal(%d) = %q", n, got)
		}
	}
}

func checkDecimalBack(t *testing.T, n int) {
	t.Helper()
	text := impl.Decimal(n)
	if text != strconv.FormatInt(int64(n), 10) {
		t.Fatalf("Decimal(%d) = %q", n, text)
	}
	if got, ok := impl.ReadDecimal(text); !ok || got != n {
		t.Fatalf("ReadDecimal(%q) = %d, %v", text, got, ok)
	}
}

func TestDecimalIsReadBack(t *testing.T) {
	for n := range 20000 {
		checkDecimalBack(t, n)
	}
	for n := 20000; n < impl.MaxNumber; n += 99991 {
		checkDecimalBack(t, n)
	}
	for ten := 1; ten <= impl.MaxNumber; ten *= 10 {
		checkDecimalBack(t, ten-1)
		checkDecimalBack(t, ten)
	}
}

func TestReadDecimalRefuses(t *testing.T) {
	texts := []string{
		"", "00", "01", "007", "0000000001", "00000000001", "01000000000",
		"-", "-0", "-1", "-5", "+", "+0", "+1",
		" 1", "1 ", "1 2", "1\n", "\t1", "1_000", "1,000", "1.0", "1e3", "0x1", "a", "f", "1a", "/", ":", "\x00", "\xff", "\xd9\xa1",
		"1000000001", "1000000010", "2000000000", "9999999999", "10000000000", "99999999999",
		"9223372036854775807", "9223372036854775808", "18446744073709551616", "18446744073709551621",
		"-9223372036854775808",
		strings.Repeat("9", 100), strings.Repeat("0", 100), "1" + strings.Repeat("0", 100000),
	}
	for _, text := range texts {
		if n, ok := impl.ReadDecimal(text); ok || n != 0 {
			t.Errorf("ReadDecimal of %d bytes (%.30q) = %d, %v", len(text), text, n, ok)
		}
	}
}

func TestReadDecimalTakesJustItsFigures(t *testing.T) {
	for b := range 256 {
		c := byte(b)
		figure := c >= '0' && c <= '9'
		text := string([]byte{'1', c})
		n, ok := impl.ReadDecimal(text)
		if ok != figure || ok && n != 10+int(c-'0') || !ok && n != 0 {
			t.Errorf("ReadDecimal(%q) = %d, %v", text, n, ok)
		}
	}
}

func wantParts(t *testing.T, line string, want ...string) {
	t.Helper()
	if got, ok := impl.PartsOf(line); !ok || !slices.Equal(got, want) {
		t.Errorf("PartsOf(%.40q) = %q, %v; want %q", line, got, ok, want)
	}
}

func wantNoParts(t *testing.T, line string) {
	t.Helper()
	if got, ok := impl.PartsOf(line); ok || len(got) != 0 {
		t.Errorf("PartsOf(%.40q) = %q, %v", line, got, ok)
	}
}

func TestPartsOf(t *testing.T) {
	wantParts(t, "")
	wantParts(t, " ")
	wantParts(t, "      ")
	wantParts(t, "a", "a")
	wantParts(t, "tick 1 2", "tick", "1", "2")
	wantParts(t, " tick  1 2 ", "tick", "1", "2")
	wantParts(t, "   one", "one")
	wantParts(t, "one   ", "one")
	wantParts(t, "one     two", "one", "two")
	wantParts(t, "same same", "same", "same")
	wantParts(t, "!~ ~! #x", "!~", "~!", "#x")
}

func TestPartsOfLongLines(t *testing.T) {
	for _, length := range []int{impl.MaxWords - 1, impl.MaxWords} {
		wantParts(t, strings.Repeat("x", length), strings.Repeat("x", length))
		wantParts(t, strings.Repeat(" ", length))
	}
	wantParts(t, "a"+strings.Repeat(" ", impl.MaxWords-2)+"b", "a", "b")
	for _, length := range []int{impl.MaxWords + 1, 100 * impl.MaxWords} {
		wantNoParts(t, strings.Repeat("x", length))
		wantNoParts(t, strings.Repeat(" ", length))
	}
	wantNoParts(t, "a"+strings.Repeat(" ", impl.MaxWords))
}

func TestPartsOfManyParts(t *testing.T) {
	ten := "a b c d e f g h i j"
	want := strings.Split(ten, " ")
	wantParts(t, ten, want...)
	wantParts(t, "  "+strings.ReplaceAll(ten, " ", "   ")+"  ", want...)
	wantNoParts(t, ten+" k")
	wantNoParts(t, " "+ten+" k ")
	wantNoParts(t, strings.Repeat("x ", impl.MaxWords/2))
}

func TestPartsOfEveryByte(t *testing.T) {
	for b := range 256 {
		c := string([]byte{byte(b)})
		line := "p" + c + "q"
		switch {
		case b == 32:
			wantParts(t, line, "p", "q")
			wantParts(t, c)
		case b > 32 && b <= 126:
			wantParts(t, line, line)
			wantParts(t, c, c)
		default:
			wantNoParts(t, line)
			wantNoParts(t, c)
			wantNoParts(t, "p q "+c)
			wantNoParts(t, c+" p q")
		}
	}
	wantNoParts(t, "caf\u00e9")
}
