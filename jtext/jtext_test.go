package jtext

import (
	"encoding/json"
	"fmt"
	"math"
	"regexp"
	"strings"
	"sync"
	"testing"
	"unsafe"

	"gazetteer/api"
)

// utf8Of tells a code's bytes, by the words of the chapter.
func utf8Of(code int) string {
	low := func(above int) byte { return byte(128 + code>>above%64) }
	switch {
	case code <= 127:
		return string([]byte{byte(code)})
	case code <= 2047:
		return string([]byte{byte(192 + code>>6), low(0)})
	case code <= 65535:
		return string([]byte{byte(224 + code>>12), low(6), low(0)})
	}
	return string([]byte{byte(240 + code>>18), low(12), low(6), low(0)})
}

// isHalf tells whether a code is one of those that no rune has.
func isHalf(code int) bool { return code >= 55296 && code <= 57343 }

// codes tells the code of each rune, by its bytes.
var codes = sync.OnceValue(func() map[string]int {
	m := map[string]int{}
	for code := range 1114112 {
		if !isHalf(code) {
			m[utf8Of(code)] = code
		}
	}
	return m
})

// whole tells the rune at the beginning of a text, and how many bytes it has; 0,
// if none stands there.
func whole(s string) (int, int) {
	for n := 1; n <= min(4, len(s)); n++ {
		if code, is := codes()[s[:n]]; is {
			return code, n
		}
	}
	return 0, 0
}

// runesOf tells the codes of a text, and whether it is valid.
func runesOf(s string) ([]int, bool) {
	var l []int
	for s != "" {
		code, n := whole(s)
		if n == 0 {
			return nil, false
		}
		l, s = append(l, code), s[n:]
	}
	return l, true
}

// quote tells Quote's answer, by the words of the chapter.
func quote(s string) (string, api.Errno) {
	l, is := runesOf(s)
	if !is {
		return "", api.ErrForm
	}
	marks := map[int]string{34: `\"`, 92: `\\`, 8: `\b`, 9: `\t`, 10: `\n`, 12: `\f`, 13: `\r`}
	q := `"`
	for _, code := range l {
		switch m, is := marks[code]; {
		case is:
			q += m
		case code < 32:
			q += fmt.Sprintf(`\u%04x`, code)
		default:
			q += utf8Of(code)
		}
	}
	return q + `"`, api.OK
}

// What a mark is, and what might become one if bytes came behind it.
var (
	isShort = regexp.MustCompile(`^\\["\\/bfnrt]`)
	isLong  = regexp.MustCompile(`^\\u[0-9a-fA-F]{4}`)
	isPair  = regexp.MustCompile(`^\\u[dD][89abAB][0-9a-fA-F]{2}\\u[dD][c-fC-F][0-9a-fA-F]{2}`)
	isOpen  = regexp.MustCompile(`^\\(u[0-9a-fA-F]{0,3}|u[dD][89abAB][0-9a-fA-F]{2}(\\(u[0-9a-fA-F]{0,3})?)?)?$`)
)

// markOf tells the code of a mark at the beginning of a text, and how many bytes
// it has; 0, if none stands there.
func markOf(s string) (int, int) {
	var h, l int
	if isShort.MatchString(s) {
		return map[byte]int{'"': 34, '\\': 92, '/': 47, 'b': 8, 'f': 12, 'n': 10, 'r': 13, 't': 9}[s[1]], 2
	}
	if isPair.MatchString(s) {
		fmt.Sscanf(s[2:6]+" "+s[8:12], "%x %x", &h, &l)
		return 65536 + 1024*(h-55296) + (l - 56320), 12
	}
	if isLong.MatchString(s) {
		fmt.Sscanf(s[2:6], "%x", &h)
		if !isHalf(h) {
			return h, 6
		}
	}
	return 0, 0
}

// taken is what Take tells.
type taken struct {
	text string
	next int
	bad  api.Errno
}

// take tells Take's answer, by the words of the chapter.
func take(s string, at int) taken {
	switch {
	case at < 0 || at > len(s):
		return taken{bad: api.ErrArg}
	case at == len(s):
		return taken{"", at, api.ErrShort}
	case s[at] != '"':
		return taken{"", at, api.ErrForm}
	}
	text := ""
	for at++; at < len(s) && s[at] != '"'; {
		code, n := whole(s[at:])
		if s[at] == '\\' {
			code, n = markOf(s[at:])
			if n == 0 && isOpen.MatchString(s[at:]) {
				return taken{"", len(s), api.ErrShort}
			}
		}
		if s[at] < 32 || n == 0 {
			return taken{"", at, api.ErrForm}
		}
		text += utf8Of(code)
		at += n
	}
	if at == len(s) {
		return taken{"", at, api.ErrShort}
	}
	return taken{text, at + 1, api.OK}
}

// tryTake holds Take's answer.
func tryTake(t *testing.T, s string, at int, want taken) {
	t.Helper()
	text, next, bad := Take(s, at)
	if got := (taken{text, next, bad}); got != want {
		t.Errorf("Take(%q, %d): %q, %d, %d; want %q, %d, %d", s, at, text, next, int(bad), want.text, want.next, int(want.bad))
	}
}

// tryUnquote holds the answers of Take and Unquote of a text, by the words of the
// chapter.
func tryUnquote(t *testing.T, s string) {
	t.Helper()
	want := take(s, 0)
	tryTake(t, s, 0, want)
	if want.bad == api.OK && want.next != len(s) {
		want.text, want.bad = "", api.ErrForm
	}
	if text, bad := Unquote(s); text != want.text || bad != want.bad {
		t.Errorf("Unquote(%q): %q, %d; want %q, %d", s, text, int(bad), want.text, int(want.bad))
	}
}

// tryText holds the answers of Valid, Count and Quote of a text, by the words of
// the chapter, and that it comes back of its quotes.
func tryText(t *testing.T, s string) {
	t.Helper()
	l, is := runesOf(s)
	n := len(l)
	if !is {
		n = -1
	}
	if Valid(s) != is || Count(s) != n {
		t.Errorf("%q: %t, %d; want %t, %d", s, Valid(s), Count(s), is, n)
	}
	want, wantBad := quote(s)
	q, bad := Quote(s)
	if q != want || bad != wantBad {
		t.Errorf("Quote(%q): %q, %d; want %q, %d", s, q, int(bad), want, int(wantBad))
	}
	if bad != api.OK {
		return
	}
	tryTake(t, q, 0, taken{s, len(q), api.OK})
	if back, bad := Unquote(q); back != s || bad != api.OK {
		t.Errorf("Unquote(%q): %q, %d; want %q", q, back, int(bad), s)
	}
}

// textsOf tells each text of up to n pieces.
func textsOf(pieces []string, n int, tell func(string)) {
	tell("")
	if n == 0 {
		return
	}
	for _, p := range pieces {
		textsOf(pieces, n-1, func(s string) { tell(p + s) })
	}
}

// bytesOf tells each of some bytes as a text.
func bytesOf(some string) []string {
	var l []string
	for i := range len(some) {
		l = append(l, some[i:i+1])
	}
	return l
}

// P16.1, P16.2, P16.3, P16.5: each rune, alone and between others.
func TestEachRune(t *testing.T) {
	for s, code := range codes() {
		tryText(t, s)
		if code < 2100 || code%97 == 0 {
			tryText(t, "a"+s+"\n"+s)
		}
	}
}

// P16.1: codes that no rune has, more bytes than one needs, and runes cut off.
func TestNoRunes(t *testing.T) {
	long := func(code int) string { // four bytes, whatever the code
		return string([]byte{byte(240 + code>>18), byte(128 + code>>12%64), byte(128 + code>>6%64), byte(128 + code%64)})
	}
	bad := []string{"\x80", "\xbf", "\xc0", "\xff", "\xfe", "\xc0\x80", "\xc1\xbf", "\xe0\x9f\xbf", "\xf0\x8f\xbf\xbf", "\xf8\x88\x80\x80\x80", "\xfc\x84\x80\x80\x80\x80"}
	for code := 55296; code <= 57343; code++ {
		bad = append(bad, utf8Of(code))
	}
	for _, code := range []int{0, 65, 127, 128, 2047, 2048, 65533, 65535, 1114112, 1114113, 1200000, 1310719, 2097151} {
		bad = append(bad, long(code))
	}
	for _, code := range []int{128, 2047, 2048, 65533, 65535, 65536, 1114111} {
		for n := 1; n < len(utf8Of(code)); n++ {
			bad = append(bad, utf8Of(code)[:n], utf8Of(code)[n:])
		}
	}
	for _, s := range bad {
		for _, x := range []string{s, "a" + s, s + "a", "ab" + s + "\ufffd", s + s} {
			if Valid(x) || Count(x) != -1 {
				t.Errorf("%q: %t, %d", x, Valid(x), Count(x))
			}
			if q, e := Quote(x); q != "" || e != api.ErrForm {
				t.Errorf("Quote(%q): %q, %d", x, q, int(e))
			}
			tryUnquote(t, `"`+x)
			tryUnquote(t, `"`+x+`"`)
		}
		tryTake(t, `"`+s, 0, taken{"", 1, api.ErrForm})
		tryTake(t, `"a€`+s+`"`, 0, taken{"", 5, api.ErrForm})
		tryTake(t, `"\n`+s+`"`, 0, taken{"", 3, api.ErrForm})
	}
}

// P16.1, P16.2: all texts of two bytes, and of four bytes at the edges.
func TestTexts(t *testing.T) {
	var all []byte
	for b := range 256 {
		all = append(all, byte(b))
	}
	textsOf(bytesOf(string(all)), 2, func(s string) { tryText(t, s) })
	edges := "\x00\x1f\x20\"\\\x7f\x80\x8f\x90\x9f\xa0\xbf\xc1\xc2\xdf\xe0\xed\xef\xf0\xf4\xf5\xff"
	textsOf(bytesOf(edges), 4, func(s string) { tryText(t, s) })
}

// P16.2: the chapter's example, and each rune below 32, written out.
func TestQuote(t *testing.T) {
	for s, want := range map[string]string{
		"":                         `""`,
		"a\n":                      `"a\n"`,
		"\x00\x01\x02\x03":         `"\u0000\u0001\u0002\u0003"`,
		"\x04\x05\x06\x07":         `"\u0004\u0005\u0006\u0007"`,
		"\b\t\n\v\f\r":             `"\b\t\n\u000b\f\r"`,
		"\x0e\x0f\x10\x11\x12":     `"\u000e\u000f\u0010\u0011\u0012"`,
		"\x13\x14\x15\x16\x17\x18": `"\u0013\u0014\u0015\u0016\u0017\u0018"`,
		"\x19\x1a\x1b\x1c\x1d\x1e": `"\u0019\u001a\u001b\u001c\u001d\u001e"`,
		"\x1f !\"#":                `"\u001f !\"#"`,
		`/\'`:                      `"/\\'"`,
		"\x7f\u0080\u2028<>&":      "\"\x7f\u0080\u2028<>&\"",
		"\ufffd\ufeff\U0010ffff":   "\"\ufffd\ufeff\U0010ffff\"",
	} {
		if q, bad := Quote(s); q != want || bad != api.OK {
			t.Errorf("Quote(%q): %q, %d; want %q", s, q, int(bad), want)
		}
		if x, bad := Unquote(want); x != s || bad != api.OK {
			t.Errorf("Unquote(%q): %q, %d; want %q", want, x, int(bad), s)
		}
	}
}

// P16.3: places and errors, written out.
func TestTake(t *testing.T) {
	for _, x := range []struct {
		s    string
		at   int
		want taken
	}{
		{`"ab"`, 0, taken{"ab", 4, api.OK}},
		{`"ab"c`, 0, taken{"ab", 4, api.OK}},
		{`ab"c"d`, 2, taken{"c", 5, api.OK}},
		{`""`, 0, taken{"", 2, api.OK}},
		{"\xff\"\"\xff", 1, taken{"", 3, api.OK}}, // what stands ahead and behind is not asked for
		{`"\""`, 0, taken{`"`, 4, api.OK}},
		{`"\\"`, 0, taken{`\`, 4, api.OK}},
		{`"\"\\\/\b\f\n\r\t"`, 0, taken{"\"\\/\b\f\n\r\t", 18, api.OK}},
		{`"\u0041\u00e4\u20AC\uFfFd"`, 0, taken{"Aä€\ufffd", 26, api.OK}},
		{`"\u0000\u001F"`, 0, taken{"\x00\x1f", 14, api.OK}},
		{`"\ud800\udc00"`, 0, taken{"\U00010000", 14, api.OK}},
		{`"\uDBFF\uDFFF"`, 0, taken{"\U0010ffff", 14, api.OK}},
		{`"\ud83d\ude00x"`, 0, taken{"\U0001f600x", 15, api.OK}},
		{`"\ud7ff\ue000"`, 0, taken{"\ud7ff\ue000", 14, api.OK}},

		{`""`, -1, taken{"", 0, api.ErrArg}},
		{`""`, 3, taken{"", 0, api.ErrArg}},
		{``, 1, taken{"", 0, api.ErrArg}},
		{`""`, math.MinInt, taken{"", 0, api.ErrArg}},
		{`""`, math.MaxInt, taken{"", 0, api.ErrArg}},

		{``, 0, taken{"", 0, api.ErrShort}},
		{`""`, 2, taken{"", 2, api.ErrShort}},
		{`""`, 1, taken{"", 2, api.ErrShort}},
		{`"ab`, 0, taken{"", 3, api.ErrShort}},
		{`"ab\"`, 0, taken{"", 5, api.ErrShort}},
		{`"ab\`, 0, taken{"", 4, api.ErrShort}},
		{`"\u`, 0, taken{"", 3, api.ErrShort}},
		{`"\u0`, 0, taken{"", 4, api.ErrShort}},
		{`"\u004`, 0, taken{"", 6, api.ErrShort}},
		{`"\ud83`, 0, taken{"", 6, api.ErrShort}},
		{`"\u0041`, 0, taken{"", 7, api.ErrShort}},
		{`"\ud83d`, 0, taken{"", 7, api.ErrShort}},
		{`"\ud83d\`, 0, taken{"", 8, api.ErrShort}},
		{`"\ud83d\u`, 0, taken{"", 9, api.ErrShort}},
		{`"\ud83d\u0`, 0, taken{"", 10, api.ErrShort}}, // what four digits make is asked of all four
		{`"\ud83d\ud8`, 0, taken{"", 11, api.ErrShort}},
		{`"\ud83d\ude0`, 0, taken{"", 12, api.ErrShort}},
		{`"\ud83d\ude00`, 0, taken{"", 13, api.ErrShort}},

		{` "`, 0, taken{"", 0, api.ErrForm}},
		{`a""`, 0, taken{"", 0, api.ErrForm}},
		{`'a'`, 0, taken{"", 0, api.ErrForm}},
		{`x\`, 1, taken{"", 1, api.ErrForm}},
		{"\x00", 0, taken{"", 0, api.ErrForm}},
		{"\xff", 0, taken{"", 0, api.ErrForm}},
		{"\"a\x1f", 0, taken{"", 2, api.ErrForm}},
		{"\"a\x00\\", 0, taken{"", 2, api.ErrForm}},
		{"\"a\n\xff", 0, taken{"", 2, api.ErrForm}},
		{"\"a\xff\n", 0, taken{"", 2, api.ErrForm}},
		{"\"€\xe2\x82", 0, taken{"", 4, api.ErrForm}},
		{"\"€\xe2\x82\"", 0, taken{"", 4, api.ErrForm}},
		{`"a\x`, 0, taken{"", 2, api.ErrForm}},
		{`"a\x"`, 0, taken{"", 2, api.ErrForm}},
		{`"a\U0041"`, 0, taken{"", 2, api.ErrForm}},
		{`"a\'"`, 0, taken{"", 2, api.ErrForm}},
		{`"\0"`, 0, taken{"", 1, api.ErrForm}},
		{`"\v"`, 0, taken{"", 1, api.ErrForm}},
		{"\"\\\n", 0, taken{"", 1, api.ErrForm}},
		{"\"\\\xff", 0, taken{"", 1, api.ErrForm}},
		{"\"\\\xc3", 0, taken{"", 1, api.ErrForm}},
		{`"a\u"`, 0, taken{"", 2, api.ErrForm}},
		{`"a\u00g`, 0, taken{"", 2, api.ErrForm}},
		{`"a\u004"`, 0, taken{"", 2, api.ErrForm}},
		{`"a\u+041"`, 0, taken{"", 2, api.ErrForm}},
		{`"a\u{41}"`, 0, taken{"", 2, api.ErrForm}},
		{"\"a\\u004\xff", 0, taken{"", 2, api.ErrForm}},
		{"\"a\\u004\xc3", 0, taken{"", 2, api.ErrForm}},
		{"\"a\\u00\u0661", 0, taken{"", 2, api.ErrForm}}, // a digit, but none of 16
		{`"\udc00`, 0, taken{"", 1, api.ErrForm}},
		{`"\udfff"`, 0, taken{"", 1, api.ErrForm}},
		{`"\ude00\ud83d"`, 0, taken{"", 1, api.ErrForm}},
		{`"a\ud83d"`, 0, taken{"", 2, api.ErrForm}},
		{`"a\ud83dx`, 0, taken{"", 2, api.ErrForm}},
		{`"a\ud83d\n`, 0, taken{"", 2, api.ErrForm}},
		{`"a\ud83d\ux`, 0, taken{"", 2, api.ErrForm}},
		{`"a\ud83d\u0x`, 0, taken{"", 2, api.ErrForm}},
		{`"a\ud83d\u0041`, 0, taken{"", 2, api.ErrForm}},
		{`"a\ud83d\ud83d\ude00"`, 0, taken{"", 2, api.ErrForm}},
		{`"a\ud83d\ue000"`, 0, taken{"", 2, api.ErrForm}},
		{"\"a\\ud83d\n", 0, taken{"", 2, api.ErrForm}},
		{"\"a\\ud83d\xff", 0, taken{"", 2, api.ErrForm}},
	} {
		tryTake(t, x.s, x.at, x.want)
		if want := take(x.s, x.at); want != x.want {
			t.Errorf("%q, %d: these tests would ask for %v", x.s, x.at, want)
		}
	}
}

// P16.3, P16.4: all texts of a few pieces, with what marks are made of.
func TestPieces(t *testing.T) {
	pieces := []string{`"`, `\`, "u", "d83d", "DE00", "00", "e", "n", "/", "\x1f", "€", "\xe2\x82"}
	textsOf(pieces, 5, func(s string) { tryUnquote(t, `"`+s) })
	textsOf(pieces, 3, func(s string) { tryUnquote(t, s) })
	textsOf(pieces, 2, func(s string) {
		tryUnquote(t, `"\ud83d`+s)
		tryUnquote(t, `"\ud83d\u`+s)
		tryUnquote(t, `"\ud83d\ude`+s+`"`)
	})
}

// P16.3, P16.4: a text in quotes that is cut off, and with each byte, in the place
// of one and ahead of one, at each place.
func TestSpoilt(t *testing.T) {
	for _, s := range []string{`"a\nb\u20ac€"`, `"\ud83d\ude00"`, `"ä\uDBFF\uDFFF\/"`, `"\u0000"`, "\"\U0001f600\\\\\""} {
		for at := range len(s) + 1 {
			tryUnquote(t, s[:at])
			for from := range len(s) + 1 {
				tryTake(t, s[:at], from, take(s[:at], from))
			}
			for b := range 256 {
				put := s[:at] + string([]byte{byte(b)})
				tryUnquote(t, put)
				tryUnquote(t, put+s[at:])
				if at < len(s) {
					tryUnquote(t, put+s[at+1:])
				}
			}
		}
	}
}

// P16.3: each code as a mark, in digits of both sorts; and pairs of each half with
// some others.
func TestMarks(t *testing.T) {
	for code := range 65536 {
		for _, form := range []string{`"\u%04x`, `"\u%04X`, `"\u%04x"`, `"\u%04X"`, `"\u%04x\ude00"`, `"\ud83d\u%04x"`, `"\udbff\u%04X`} {
			tryUnquote(t, fmt.Sprintf(form, code))
		}
	}
	edges := []int{0, 0x41, 0xd7ff, 0xd800, 0xd801, 0xdbff, 0xdc00, 0xdc01, 0xdfff, 0xe000, 0xffff}
	for _, h := range edges {
		for _, l := range edges {
			tryUnquote(t, fmt.Sprintf(`"\u%04x\u%04x"`, h, l))
		}
	}
	for code := 65536; code <= 1114111; code += 61 {
		h, l := 55296+(code-65536)/1024, 56320+(code-65536)%1024
		q := fmt.Sprintf(`"\u%04x\u%04X"`, h, l)
		tryTake(t, q, 0, taken{utf8Of(code), len(q), api.OK})
	}
}

// P16.3: what is taken is what another reader of JSON takes.
func TestOtherReader(t *testing.T) {
	pieces := []string{`\"`, `\\`, `\/`, `\b`, `\f`, `\n`, `\r`, `\t`, `\u20ac`, `\uD83D\uDE00`, "/", "€", "\U0001f600", "\x7f"}
	textsOf(pieces, 4, func(s string) {
		var want string
		q := `"` + s + `"`
		if err := json.Unmarshal([]byte(q), &want); err != nil {
			t.Fatal(q, err)
		}
		tryTake(t, q, 0, taken{want, len(q), api.OK})
	})
}

// P16.4: bytes that are left.
func TestUnquoteLeft(t *testing.T) {
	for _, left := range []string{" ", "\n", `"`, `""`, "\x00", "\xff", `\`, "a"} {
		if text, bad := Unquote(`"a"` + left); text != "" || bad != api.ErrForm {
			t.Errorf("%q: %q, %d", left, text, int(bad))
		}
		if text, bad := Unquote(left + `"a"`); text != "" || bad != api.ErrForm {
			t.Errorf("%q ahead: %q, %d", left, text, int(bad))
		}
		if text, bad := Unquote(`"\x"` + left); text != "" || bad != api.ErrForm {
			t.Errorf("%q behind what is wrong: %q, %d", left, text, int(bad))
		}
	}
	if text, bad := Unquote(`"a`); text != "" || bad != api.ErrShort {
		t.Errorf("%q, %d", text, int(bad))
	}
	if text, bad := Unquote(""); text != "" || bad != api.ErrShort {
		t.Errorf("%q, %d", text, int(bad))
	}
}

// P16.1, P16.2, P16.3, P16.4: long texts, which end soon.
func TestLong(t *testing.T) {
	const times = 1 << 19
	for _, x := range []struct{ s, q string }{{"a", "a"}, {"\x01", `\u0001`}, {"\n€", `\n€`}, {"\"\\", `\"\\`}, {"\ufffd", "\ufffd"}} {
		s, q := strings.Repeat(x.s, times), `"`+strings.Repeat(x.q, times)+`"`
		if n := Count(s); n != times*Count(x.s) || !Valid(s) {
			t.Errorf("%q: %d runes", x.s, n)
		}
		if got, bad := Quote(s); got != q || bad != api.OK {
			t.Errorf("Quote of many %q: %d bytes, %d", x.s, len(got), int(bad))
		}
		if got, bad := Unquote(q); got != s || bad != api.OK {
			t.Errorf("Unquote of many %q: %d bytes, %d", x.s, len(got), int(bad))
		}
		if got, at, bad := Take(q[:len(q)-1], 0); got != "" || at != len(q)-1 || bad != api.ErrShort {
			t.Errorf("Take of many %q: %d bytes, %d, %d", x.s, len(got), at, int(bad))
		}
		if Count(s+"\xff") != -1 || Valid(s+"\xff") {
			t.Errorf("many %q, and no rune: valid", x.s)
		}
	}
}

// Rule 3: what is told is new memory.
func TestNewMemory(t *testing.T) {
	for _, q := range []string{`"some text"`, `"\n"`, `"€"`} {
		text, next, bad := Take(q, 0)
		again, _ := Unquote(q)
		if bad != api.OK || next != len(q) || again != text {
			t.Fatal(q, text, next, bad)
		}
		for _, x := range []string{text, again} {
			if d := uintptr(unsafe.Pointer(unsafe.StringData(x))) - uintptr(unsafe.Pointer(unsafe.StringData(q))); d < uintptr(len(q)) {
				t.Errorf("%q is a piece of %q", x, q)
			}
		}
		if unsafe.StringData(text) == unsafe.StringData(again) {
			t.Errorf("%q: two answers share their memory", q)
		}
	}
}
