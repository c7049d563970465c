package lines

import (
	"math"
	"math/rand"
	"regexp"
	"slices"
	"strings"
	"testing"
	"unsafe"

	"gazetteer/api"
)

func TestLimits(t *testing.T) {
	if api.MaxLine != 256 || api.MaxFields != 16 {
		t.Fatal("these tests are written for lines of 256 bytes, and heads of 17")
	}
}

// x tells so many bytes of a line.
func x(n int) string { return strings.Repeat("x", n) }

// What a line is, by the words of the chapter.
var (
	isEnded = regexp.MustCompile(`^([\t\x20-\x7e]{0,256})\x0d\x0a`)
	isLong  = regexp.MustCompile(`^[\t\x20-\x7e]{257}`)
	isOpen  = regexp.MustCompile(`^[\t\x20-\x7e]{0,256}\x0d?$`)
	isLine  = regexp.MustCompile(`^[\t\x20-\x7e]*$`)
)

// taken is what Take tells.
type taken struct {
	line string
	next int
	bad  api.Errno
}

// take tells Take's answer, by the words of the chapter.
func take(s string, at int) taken {
	if at < 0 || at > len(s) {
		return taken{"", at, api.ErrArg}
	}
	rest := s[at:]
	if m := isEnded.FindStringSubmatch(rest); m != nil {
		return taken{m[1], at + len(m[0]), api.OK}
	}
	switch {
	case isOpen.MatchString(rest):
		return taken{"", at, api.ErrShort}
	case isLong.MatchString(rest):
		return taken{"", at, api.ErrLong}
	}
	return taken{"", at, api.ErrForm}
}

// put tells Put's answer, by the words of the chapter.
func put(line string) (string, api.Errno) {
	switch {
	case !isLine.MatchString(line):
		return "", api.ErrForm
	case len(line) > 256:
		return "", api.ErrLong
	}
	return line + "\x0d\x0a", api.OK
}

// headed is what Head tells.
type headed struct {
	l    []string
	next int
	bad  api.Errno
}

// head tells Head's answer, by the words of the chapter.
func head(s string) headed {
	var l []string
	at := 0
	for n := 1; ; n++ {
		got := take(s, at)
		switch {
		case got.bad != api.OK:
			return headed{bad: got.bad}
		case got.line == "":
			return headed{l, got.next, api.OK}
		case n == 18:
			return headed{bad: api.ErrMany}
		}
		l, at = append(l, got.line), got.next
	}
}

// words tells Words' answer, by the words of the chapter.
func words(line string) []string {
	l := []string{""}
	for _, b := range []byte(line) {
		if b == 32 {
			l = append(l, "")
			continue
		}
		l[len(l)-1] += string([]byte{b})
	}
	return l
}

// tryTake holds Take's answer.
func tryTake(t *testing.T, s string, at int, want taken) {
	t.Helper()
	line, next, bad := Take(s, at)
	if got := (taken{line, next, bad}); got != want {
		t.Errorf("Take(%q, %d): %q, %d, %d; want %q, %d, %d", s, at, line, next, int(bad), want.line, want.next, int(want.bad))
	}
}

// tryPut holds Put's answer, and that Take tells the line again, whatever stands
// around it.
func tryPut(t *testing.T, line, want string, wantBad api.Errno) {
	t.Helper()
	s, bad := Put(line)
	if s != want || bad != wantBad {
		t.Errorf("Put(%q): %q, %d; want %q, %d", line, s, int(bad), want, int(wantBad))
	}
	if bad == api.OK {
		tryTake(t, s, 0, taken{line, len(s), api.OK})
		tryTake(t, "\x00\r\n"+s+"\x00", 3, taken{line, 3 + len(s), api.OK})
	}
}

// tryHead holds Head's answer.
func tryHead(t *testing.T, s string, want headed) {
	t.Helper()
	l, next, bad := Head(s)
	if !slices.Equal(l, want.l) || next != want.next || bad != want.bad {
		t.Errorf("Head(%q): %q, %d, %d; want %q, %d, %d", s, l, next, int(bad), want.l, want.next, int(want.bad))
	}
}

// tryWords holds Words' answer.
func tryWords(t *testing.T, line string, want []string) {
	t.Helper()
	if l := Words(line); !slices.Equal(l, want) {
		t.Errorf("Words(%q): %q; want %q", line, l, want)
	}
}

// tryText holds all answers of a text, by the words of the chapter.
func tryText(t *testing.T, s string) {
	t.Helper()
	for at := -1; at <= len(s)+1; at++ {
		tryTake(t, s, at, take(s, at))
	}
	want, bad := put(s)
	tryPut(t, s, want, bad)
	tryHead(t, s, head(s))
	tryWords(t, s, words(s))
}

// textsOf tells each text of up to n pieces.
func textsOf(pieces []string, n int, tell func(string)) {
	tell("")
	if n == 0 {
		return
	}
	for _, p := range pieces {
		textsOf(pieces, n-1, func(s string) { tell(p + s) })
	}
}

// allBytes tells each byte as a text.
func allBytes() []string {
	var l []string
	for b := range 256 {
		l = append(l, string([]byte{byte(b)}))
	}
	return l
}

// P21.1, P21.2, P21.3, P21.4: all texts of two bytes, and of up to six pieces of
// a small choice.
func TestTexts(t *testing.T) {
	textsOf(allBytes(), 2, func(s string) { tryText(t, s) })
	textsOf([]string{"a", " ", "\r", "\n", "\r\n"}, 6, func(s string) { tryText(t, s) })
	textsOf([]string{"~", "\t", "\r", "\n", "\x00", "\x1f", "\x7f", "\x80", "\xff", "ä"}, 4, func(s string) { tryText(t, s) })
}

// P21.1: lines that are told, written out.
func TestTake(t *testing.T) {
	for _, w := range []struct {
		s    string
		at   int
		want taken
	}{
		{"a b\r\nc", 0, taken{"a b", 5, api.OK}},
		{"a b\r\nc\r\n", 5, taken{"c", 8, api.OK}},
		{"a b\r\nc\r\n", 1, taken{" b", 5, api.OK}},
		{"a b\r\n", 3, taken{"", 5, api.OK}},
		{"\r\n", 0, taken{"", 2, api.OK}},
		{"\r\n\r\n", 2, taken{"", 4, api.OK}},
		{" \t~!\r\n", 0, taken{" \t~!", 6, api.OK}},
		{"GET /0/0/0.png HTTP/1.1\r\nHost: h\r\n", 25, taken{"Host: h", 34, api.OK}},
		{"\x00\xff\r\n\n", 2, taken{"", 4, api.OK}}, // what stands ahead and behind plays no part
		{x(256) + "\r\n", 0, taken{x(256), 258, api.OK}},
		{x(257) + "\r\n", 1, taken{x(256), 259, api.OK}},
	} {
		tryTake(t, w.s, w.at, w.want)
	}
}

// P21.1: what goes wrong, with no line, and the place as it was.
func TestTakeErrors(t *testing.T) {
	for _, w := range []struct {
		s   string
		at  int
		bad api.Errno
	}{
		{"", -1, api.ErrArg},
		{"", 1, api.ErrArg},
		{"\r\n", -1, api.ErrArg},
		{"\r\n", 3, api.ErrArg},
		{"a\r\n", math.MinInt, api.ErrArg},
		{"a\r\n", math.MaxInt, api.ErrArg},
		{"", 0, api.ErrShort},
		{"ab", 2, api.ErrShort},
		{"ab", 0, api.ErrShort},
		{"ab\r", 0, api.ErrShort},
		{"ab\r", 2, api.ErrShort},
		{"a\r\n", 3, api.ErrShort},
		{"\r", 0, api.ErrShort},
		{x(256), 0, api.ErrShort},
		{x(256) + "\r", 0, api.ErrShort},
		{x(257), 1, api.ErrShort},
		{"a\r\n", 2, api.ErrForm}, // a 10 alone
		{"\n", 0, api.ErrForm},
		{"\n\r\n", 0, api.ErrForm},
		{"a\r\r\n", 0, api.ErrForm},
		{"a\rb", 0, api.ErrForm},
		{"a\r\x00\n", 0, api.ErrForm},
		{"a\r \n", 0, api.ErrForm},
		{"a\x00", 0, api.ErrForm},
		{"a\x00\r\n", 0, api.ErrForm},
		{"a\x7f\r\n", 0, api.ErrForm},
		{"a\x1f\r\n", 0, api.ErrForm},
		{"ä\r\n", 0, api.ErrForm},
		{x(256) + "\n", 0, api.ErrForm},
		{x(256) + "\x00", 0, api.ErrForm},
		{x(256) + "\r\r\n", 0, api.ErrForm},
		{x(256) + "\rx", 0, api.ErrForm},
		{x(255) + "\x00" + x(9), 0, api.ErrForm},
		{x(257), 0, api.ErrLong},
		{x(257) + "\r\n", 0, api.ErrLong},
		{x(257) + "\x00", 0, api.ErrLong},
		{x(256) + " ", 0, api.ErrLong},
		{x(256) + "\t\r\n", 0, api.ErrLong},
		{x(256) + "~\r", 0, api.ErrLong},
		{x(258) + "\r\n", 1, api.ErrLong},
	} {
		tryTake(t, w.s, w.at, taken{"", w.at, w.bad})
	}
}

// P21.1, P21.2, P21.3: lines about as long as may be, with each sort of end, and
// with each byte as the last ones.
func TestLongLines(t *testing.T) {
	ends := []string{"", "\r", "\n", "\r\n", "\r\r\n", "\r\n\r\n", "\rx", "x\r\n", "\x00", "\x00\r\n", " \n", "\t\r", "\r\n" + x(257), "\xc3\xa4"}
	for n := 250; n < 262; n++ {
		for _, end := range ends {
			s := x(n) + end
			for at := range 12 {
				tryTake(t, s, at, take(s, at))
			}
			want, bad := put(s)
			tryPut(t, s, want, bad)
			tryHead(t, s, head(s))
			tryHead(t, "a\r\n"+s, head("a\r\n"+s))
			tryHead(t, s+"\r\n", head(s+"\r\n"))
		}
		for _, b := range allBytes() {
			for _, s := range []string{x(n) + b, x(n) + b + "\r\n", x(n) + b + "\n", b + x(n) + "\r\n", x(n-9) + b + x(9) + "\r\n"} {
				tryTake(t, s, 0, take(s, 0))
				want, bad := put(s)
				tryPut(t, s, want, bad)
				want, bad = put(strings.TrimSuffix(s, "\r\n"))
				tryPut(t, strings.TrimSuffix(s, "\r\n"), want, bad)
			}
		}
	}
}

// P21.1, P21.2: each byte at each place of a line.
func TestEachByte(t *testing.T) {
	for _, line := range []string{"a", "a b", "Content-Length: 5", x(256)} {
		for at := range len(line) {
			for _, b := range allBytes() {
				spoilt := line[:at] + b + line[at+1:]
				tryTake(t, spoilt+"\r\n", 0, take(spoilt+"\r\n", 0))
				want, bad := put(spoilt)
				tryPut(t, spoilt, want, bad)
			}
		}
	}
}

// P21.2: written out.
func TestPut(t *testing.T) {
	for _, line := range []string{"", "a", "a b", " ", "\t", "~", "!", " a ", "HTTP/1.1 206 Partial Content", x(255), x(256)} {
		tryPut(t, line, line+"\r\n", api.OK)
	}
	for _, line := range []string{"\r", "\n", "\r\n", "a\r", "a\r\n", "\x00", "\x08", "\x0a", "\x1f", "\x7f", "\x80", "\xff", "ä", x(256) + "\x00", x(300) + "\r\n", "\n" + x(300), x(256) + "\n"} {
		tryPut(t, line, "", api.ErrForm)
	}
	for _, n := range []int{257, 258, 512, 65536, 1 << 24} {
		if s, bad := Put(x(n)); s != "" || bad != api.ErrLong {
			t.Errorf("Put of %d bytes: %d, %d", n, len(s), int(bad))
		}
		if s, bad := Put(x(n) + "\x00"); s != "" || bad != api.ErrForm {
			t.Errorf("Put of %d bytes and a 0: %d, %d", n, len(s), int(bad))
		}
	}
}

// P21.3: written out.
func TestHead(t *testing.T) {
	tryHead(t, "\r\n", headed{nil, 2, api.OK})
	tryHead(t, "\r\nbody", headed{nil, 2, api.OK})
	tryHead(t, "\r\n\x00", headed{nil, 2, api.OK})
	tryHead(t, "a: b\r\nc\r\n\r\nbody", headed{[]string{"a: b", "c"}, 11, api.OK})
	tryHead(t, "a\r\n\r\na\r\n\r\n", headed{[]string{"a"}, 5, api.OK})
	tryHead(t, " \r\n\t\r\n\r\n", headed{[]string{" ", "\t"}, 8, api.OK}) // neither is empty
	tryHead(t, "b\r\na\r\nb\r\n\r\n", headed{[]string{"b", "a", "b"}, 11, api.OK})
	tryHead(t, x(256)+"\r\n"+x(256)+"\r\n\r\n", headed{[]string{x(256), x(256)}, 518, api.OK})
	for s, bad := range map[string]api.Errno{
		"":                        api.ErrShort,
		"\r":                      api.ErrShort,
		"a":                       api.ErrShort,
		"a\r\n":                   api.ErrShort,
		"a\r\nb":                  api.ErrShort,
		"a\r\nb\r\n\r":            api.ErrShort,
		"\n":                      api.ErrForm,
		"a\n\n":                   api.ErrForm,
		"a\r\n\n":                 api.ErrForm,
		"a\r\nb\x00\r\n\r\n":      api.ErrForm,
		"a\r\n\rb\r\n\r\n":        api.ErrForm,
		"a\r\n" + x(257):          api.ErrLong,
		x(257) + "\r\n\x00":       api.ErrLong,
		"\x00" + x(257) + "\r\n":  api.ErrForm,
		"a\x00\r\n" + x(257):      api.ErrForm,
		"a\r\n" + x(257) + "\x00": api.ErrLong,
	} {
		tryHead(t, s, headed{bad: bad})
	}
}

// P21.3: heads of up to 20 lines, with whatever behind them: 17 lines may be, and
// of the line 18 Take's error is told first.
func TestManyLines(t *testing.T) {
	errors := map[string]api.Errno{
		"":                  api.ErrShort,
		"\r":                api.ErrShort,
		"b":                 api.ErrShort,
		"b\r":               api.ErrShort,
		"\n":                api.ErrForm,
		"b\n":               api.ErrForm,
		"b\x00\r\n":         api.ErrForm,
		"\r\r\n":            api.ErrForm,
		x(257):              api.ErrLong,
		x(257) + "\r\n\r\n": api.ErrLong,
		"b\r\n":             api.ErrMany,
		"b\r\n\r\n":         api.ErrMany,
		"b\r\nb\r\n\r\n":    api.ErrMany,
		" \r\n\r\n":         api.ErrMany,
		"b\r\n\x00":         api.ErrMany,
		"b\r\n" + x(257):    api.ErrMany,
	}
	for end, bad := range errors {
		tryHead(t, strings.Repeat("a\r\n", 17)+end, headed{bad: bad})
		tryHead(t, strings.Repeat(x(256)+"\r\n", 17)+end, headed{bad: bad})
		for n := range 21 {
			s := strings.Repeat("a\r\n", n) + end
			tryHead(t, s, head(s))
		}
	}
	for n := range 21 {
		want := headed{slices.Repeat([]string{"ab"}, n), 4*n + 2, api.OK}
		if n > 17 {
			want = headed{bad: api.ErrMany}
		}
		tryHead(t, strings.Repeat("ab\r\n", n)+"\r\n", want)
		tryHead(t, strings.Repeat("ab\r\n", n)+"\r\nbody\x00", want)
	}
	tryHead(t, strings.Repeat("a\r\n", 1<<20), headed{bad: api.ErrMany})
}

// P21.3: heads that are cut off at each place, and with each byte at each place.
func TestSpoiltHeads(t *testing.T) {
	for _, s := range []string{
		"HTTP/1.1 206 Partial Content\r\nContent-Length: 1\r\nContent-Range: bytes 0-0/135\r\n\r\nx",
		"GET /a HTTP/1.1\r\nHost: h\r\nRange: bytes=0-9\r\n\r\n",
		strings.Repeat("a\r\n", 17) + "\r\n",
		"a\r\n" + x(256) + "\r\nb\r\n\r\n",
	} {
		for at := range len(s) {
			tryHead(t, s[:at], head(s[:at]))
			for _, b := range allBytes() {
				spoilt := s[:at] + b + s[at+1:]
				tryHead(t, spoilt, head(spoilt))
				longer := s[:at] + b + s[at:]
				tryHead(t, longer, head(longer))
			}
		}
	}
}

// P21.1, P21.3: drawn texts of many pieces.
func TestDrawn(t *testing.T) {
	drawn := rand.New(rand.NewSource(21))
	often := []string{"a\r\n", "a: b\r\n", " \r\n", x(255), x(256) + "\r\n"}
	seldom := []string{"\r\n", "\r", "\n", "\x00", x(2), x(257)}
	for range 40000 {
		var b strings.Builder
		for range drawn.Intn(24) {
			some := often
			if drawn.Intn(12) == 0 {
				some = seldom
			}
			b.WriteString(some[drawn.Intn(len(some))])
		}
		s := b.String()
		tryHead(t, s, head(s))
		at := drawn.Intn(len(s) + 1)
		tryTake(t, s, at, take(s, at))
	}
}

// P21.4: written out; bytes that are none of a line's play no part.
func TestWords(t *testing.T) {
	for line, want := range map[string][]string{
		"":                {""},
		" ":               {"", ""},
		"  ":              {"", "", ""},
		"a":               {"a"},
		"a b":             {"a", "b"},
		" a":              {"", "a"},
		"a ":              {"a", ""},
		"a  b ":           {"a", "", "b", ""},
		"a\tb c":          {"a\tb", "c"},
		"a\r\nb \x00":     {"a\r\nb", "\x00"},
		"a\u00a0b\u2003c": {"a\u00a0b\u2003c"},
		"\xff \x80":       {"\xff", "\x80"},
		"GET / HTTP/1.1":  {"GET", "/", "HTTP/1.1"},
	} {
		tryWords(t, line, want)
	}
	for _, n := range []int{256, 257, 65536, 1 << 20} {
		for line, want := range map[string]string{strings.Repeat(" ", n): "", strings.Repeat("a ", n) + "a": "a"} {
			l := Words(line)
			if len(l) != n+1 || slices.ContainsFunc(l, func(w string) bool { return w != want }) {
				t.Errorf("Words of %d blanks: %d", n, len(l))
			}
		}
	}
	textsOf([]string{" ", "a", "bc", "\t", "\xa0"}, 6, func(s string) { tryWords(t, s, words(s)) })
}

// overlap tells whether two texts, neither of which is empty, share a byte.
func overlap(a, b string) bool {
	from := func(s string) uintptr { return uintptr(unsafe.Pointer(unsafe.StringData(s))) }
	return from(a) < from(b)+uintptr(len(b)) && from(b) < from(a)+uintptr(len(a))
}

// Answers are new memory, and two calls' answers have nothing in common.
func TestNewMemory(t *testing.T) {
	s := "a b\r\nc d\r\n\r\nbody"
	line, _, _ := Take(s, 0)
	again, _, _ := Take(s, 0)
	laid, _ := Put(s[:3])
	texts := []string{line, again, laid}
	for _, tell := range []func() []string{
		func() []string { l, _, _ := Head(s); return l },
		func() []string { return Words(s) },
	} {
		l, other := tell(), tell()
		texts = append(texts, l...)
		kept := slices.Clone(other)
		room := l[:cap(l)]
		for i := range room {
			room[i] = "spoilt"
		}
		if _ = append(l, "more"); !slices.Equal(other, kept) || !slices.Equal(tell(), kept) {
			t.Errorf("what was told is changed: %q, %q", other, tell())
		}
	}
	for _, text := range texts {
		if overlap(text, s) {
			t.Errorf("%q is a piece of what was given", text)
		}
	}
	if overlap(line, again) {
		t.Error("two answers share their memory")
	}
	if none := Words(""); len(none) != 1 || none[0] != "" {
		t.Errorf("%q", none)
	}
}

// The chapter's example.
func TestExample(t *testing.T) {
	tryTake(t, "a b\r\nc", 0, taken{"a b", 5, api.OK})
	tryWords(t, "a b", []string{"a", "b"})
}
