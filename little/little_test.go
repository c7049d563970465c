package little

import (
	"math"
	"testing"

	"gazetteer/api"
)

// noWidths are what the number of a number's bytes may not be.
var noWidths = []int{0, 9, -1, 10, 64, math.MinInt, math.MaxInt}

func TestPut(t *testing.T) {
	const x = 0x8877665544332211
	all := "\x11\x22\x33\x44\x55\x66\x77\x88"
	for n := 1; n <= 8; n++ {
		if b := Put([]byte("ab"), n, x); string(b) != "ab"+all[:n] {
			t.Errorf("Put of %d bytes: %q", n, b)
		}
		if b := Put(nil, n, x); string(b) != all[:n] {
			t.Errorf("Put of %d bytes behind none: %q", n, b)
		}
	}
	for _, c := range []struct {
		n    int
		x    uint64
		want string
	}{
		{2, 258, "\x02\x01"},
		{1, 0, "\x00"},
		{1, 255, "\xff"},
		{1, 256, "\x00"},
		{3, 1, "\x01\x00\x00"},
		{8, 0, "\x00\x00\x00\x00\x00\x00\x00\x00"},
		{8, math.MaxUint64, "\xff\xff\xff\xff\xff\xff\xff\xff"},
		{8, 1 << 63, "\x00\x00\x00\x00\x00\x00\x00\x80"},
	} {
		if b := Put(nil, c.n, c.x); string(b) != c.want {
			t.Errorf("Put of %d in %d bytes: %q", c.x, c.n, b)
		}
	}
}

func TestPutOfNoWidth(t *testing.T) {
	for _, n := range noWidths {
		if b := Put([]byte("ab"), n, 1); string(b) != "ab" {
			t.Errorf("Put of %d bytes: %q", n, b)
		}
		if b := Put(nil, n, 1); len(b) != 0 {
			t.Errorf("Put of %d bytes behind none: %q", n, b)
		}
	}
}

func TestPutTellsNewList(t *testing.T) {
	for _, n := range []int{0, 1, 8, 9} {
		room := []byte("abcdefghijklmnop")
		given := room[:2]
		told := Put(given, n, math.MaxUint64)
		told = told[:cap(told)]
		for i := range told {
			told[i] = '!'
		}
		if string(room) != "abcdefghijklmnop" {
			t.Errorf("Put of %d bytes changed what it was given: %q", n, room)
		}
		told = Put(given, n, 0)
		given[0] = '!'
		if told[0] != 'a' {
			t.Errorf("Put of %d bytes tells what it was given", n)
		}
	}
}

func TestNum(t *testing.T) {
	const x = 0x8877665544332211
	text := "..\x11\x22\x33\x44\x55\x66\x77\x88.."
	for n := 1; n <= 8; n++ {
		want := uint64(x)
		if n < 8 {
			want &= 1<<(8*n) - 1
		}
		got, s := Scan{Text: text, At: 2}.Num(n)
		if got != want || s != (Scan{Text: text, At: 2 + n}) {
			t.Errorf("Num of %d bytes: %x, %+v", n, got, s)
		}
	}
	for n := 1; n <= 8; n++ {
		whole := Scan{Text: text[2 : 2+n]}
		if got, s := whole.Num(n); got == 0 || s != (Scan{Text: whole.Text, At: n}) {
			t.Errorf("Num of all %d bytes: %x, %+v", n, got, s)
		}
	}
	if got, s := (Scan{Text: "\x02\x01"}).Num(2); got != 258 || s.At != 2 || s.Bad != api.OK {
		t.Error(got, s)
	}
	if got, s := (Scan{Text: "\xff\xff\xff\xff\xff\xff\xff\xff"}).Num(8); got != math.MaxUint64 || s.At != 8 || s.Bad != api.OK {
		t.Error(got, s)
	}
}

func TestNumTakesWhatPutLays(t *testing.T) {
	x := uint64(1)
	for range 200 {
		x = x*6364136223846793005 + 1442695040888963407
		for n := 1; n <= 8; n++ {
			got, s := Scan{Text: string(Put([]byte("ab"), n, x)), At: 2}.Num(n)
			if above := 64 - 8*n; got != x<<above>>above || s.End() != api.OK {
				t.Fatalf("%x in %d bytes: %x, %+v", x, n, got, s)
			}
		}
	}
}

func TestBytes(t *testing.T) {
	text := "abc\x00\xff"
	for at := 0; at <= len(text); at++ {
		for n := 0; at+n <= len(text); n++ {
			got, s := Scan{Text: text, At: at}.Bytes(n)
			if got != text[at:at+n] || s != (Scan{Text: text, At: at + n}) {
				t.Errorf("Bytes of %d from %d on: %q, %+v", n, at, got, s)
			}
		}
	}
	if got, s := (Scan{}).Bytes(0); got != "" || s != (Scan{}) {
		t.Errorf("%q, %+v", got, s)
	}
	long := string(make([]byte, 100))
	if got, s := (Scan{Text: long}).Bytes(100); got != long || s.At != 100 || s.Bad != api.OK {
		t.Errorf("%q, %+v", got, s)
	}
}

// tryNum and tryBytes hold what a scan answers beside an error against that
// scan with the error as its Bad.
func tryNum(t *testing.T, s Scan, n int, want api.Errno) {
	t.Helper()
	x, next := s.Num(n)
	s.Bad = want
	if x != 0 || next != s {
		t.Errorf("Num of %d bytes: %d, %+v; want 0, %+v", n, x, next, s)
	}
}

func tryBytes(t *testing.T, s Scan, n int, want api.Errno) {
	t.Helper()
	text, next := s.Bytes(n)
	s.Bad = want
	if text != "" || next != s {
		t.Errorf("Bytes of %d: %q, %+v; want none, %+v", n, text, next, s)
	}
}

func TestNumAndBytesTooFew(t *testing.T) {
	for n := 1; n <= 8; n++ {
		text := "abcdefgh"[:n-1]
		tryNum(t, Scan{Text: text}, n, api.ErrShort)
		tryNum(t, Scan{Text: ".." + text, At: 2}, n, api.ErrShort)
		tryBytes(t, Scan{Text: text}, n, api.ErrShort)
		tryBytes(t, Scan{Text: ".." + text, At: 2}, n, api.ErrShort)
	}
	tryNum(t, Scan{Text: "ab", At: 2}, 1, api.ErrShort)
	tryBytes(t, Scan{Text: "ab", At: 2}, 1, api.ErrShort)
	tryBytes(t, Scan{Text: "ab", At: 1}, math.MaxInt, api.ErrShort)
	tryBytes(t, Scan{Text: "ab"}, math.MaxInt, api.ErrShort)
}

func TestNumAndBytesOfWrongCount(t *testing.T) {
	for _, n := range noWidths {
		tryNum(t, Scan{Text: "abcdefghijkl"}, n, api.ErrArg)
		tryNum(t, Scan{Text: "abcdefghijkl", At: 11}, n, api.ErrArg)
		tryNum(t, Scan{}, n, api.ErrArg)
	}
	for _, n := range []int{-1, -2, math.MinInt} {
		tryBytes(t, Scan{Text: "abc", At: 2}, n, api.ErrArg)
		tryBytes(t, Scan{Text: "abc", At: 3}, n, api.ErrArg)
		tryBytes(t, Scan{}, n, api.ErrArg)
	}
}

func TestNumAndBytesOfNoPlace(t *testing.T) {
	for _, at := range []int{-1, 4, 5, math.MinInt, math.MaxInt} {
		for _, n := range []int{-1, 0, 1, 3, 8, 9, math.MaxInt, math.MinInt} {
			tryNum(t, Scan{Text: "abc", At: at}, n, api.ErrArg)
			tryBytes(t, Scan{Text: "abc", At: at}, n, api.ErrArg)
		}
	}
}

func TestNumAndBytesKeepAnError(t *testing.T) {
	for _, bad := range []api.Errno{api.ErrNil, api.ErrFull, api.ErrLost, 99, -1} {
		for _, at := range []int{-1, 0, 2, 3, 4} {
			for _, n := range []int{-1, 0, 1, 2, 4, 9} {
				tryNum(t, Scan{Text: "abc", At: at, Bad: bad}, n, bad)
				tryBytes(t, Scan{Text: "abc", At: at, Bad: bad}, n, bad)
			}
		}
	}
}

func TestScanIsValue(t *testing.T) {
	s := Scan{Text: "abc"}
	s.Num(1)
	s.Bytes(9)
	if s != (Scan{Text: "abc"}) {
		t.Errorf("%+v", s)
	}
}

func TestRestAndEnd(t *testing.T) {
	for _, c := range []struct {
		s    Scan
		rest string
		end  api.Errno
	}{
		{Scan{}, "", api.OK},
		{Scan{Text: "abc"}, "abc", api.ErrForm},
		{Scan{Text: "abc", At: 2}, "c", api.ErrForm},
		{Scan{Text: "abc", At: 3}, "", api.OK},
		{Scan{Text: "abc", At: 4}, "", api.ErrArg},
		{Scan{Text: "abc", At: -1}, "", api.ErrArg},
		{Scan{Text: "abc", At: math.MaxInt}, "", api.ErrArg},
		{Scan{Text: "abc", At: math.MinInt}, "", api.ErrArg},
		{Scan{At: 1}, "", api.ErrArg},
		{Scan{At: -1}, "", api.ErrArg},
		{Scan{Text: "abc", Bad: api.ErrShort}, "", api.ErrShort},
		{Scan{Text: "abc", At: 3, Bad: api.ErrShort}, "", api.ErrShort},
		{Scan{Text: "abc", At: 4, Bad: api.ErrShort}, "", api.ErrShort},
		{Scan{Text: "abc", At: -1, Bad: -1}, "", -1},
	} {
		if got := c.s.Rest(); got != c.rest {
			t.Errorf("Rest of %+v: %q", c.s, got)
		}
		if got := c.s.End(); got != c.end {
			t.Errorf("End of %+v: %d", c.s, int(got))
		}
	}
}

// signs are numbers with a sign, and what they are in n bytes.
var signs = []struct {
	n int
	v int64
	x uint64
}{
	{1, 0, 0}, {1, 1, 1}, {1, -1, 0xff}, {1, 127, 0x7f}, {1, -128, 0x80},
	{2, 255, 0xff}, {2, -1, 0xffff}, {2, 32767, 0x7fff}, {2, -32768, 0x8000},
	{3, -2, 0xfffffe}, {3, 1<<23 - 1, 0x7fffff}, {3, -1 << 23, 0x800000},
	{4, 1800000000, 0x6b49d200}, {4, -1800000000, 0x94b62e00}, {4, -1 << 31, 0x80000000},
	{5, 1<<39 - 1, 0x7fffffffff}, {5, -1 << 39, 0x8000000000},
	{6, 1<<47 - 1, 0x7fffffffffff}, {6, -1 << 47, 0x800000000000},
	{7, 1<<55 - 1, 0x7fffffffffffff}, {7, -1 << 55, 0x80000000000000},
	{8, 0, 0}, {8, -1, math.MaxUint64}, {8, math.MaxInt64, 1<<63 - 1}, {8, math.MinInt64, 1 << 63},
}

func TestSigned(t *testing.T) {
	for _, c := range signs {
		if v, bad := Signed(c.x, c.n); v != c.v || bad != api.OK {
			t.Errorf("Signed of %x in %d bytes: %d, %d", c.x, c.n, v, int(bad))
		}
		if c.n == 8 {
			continue
		}
		above := uint64(math.MaxUint64) << (8 * c.n)
		if v, bad := Signed(c.x|above, c.n); v != c.v || bad != api.OK {
			t.Errorf("Signed of %x in %d bytes: %d, %d", c.x|above, c.n, v, int(bad))
		}
		if v, bad := Signed(c.x|1<<(8*c.n), c.n); v != c.v || bad != api.OK {
			t.Errorf("Signed of %x and a bit above in %d bytes: %d, %d", c.x, c.n, v, int(bad))
		}
	}
	for _, n := range noWidths {
		if v, bad := Signed(255, n); v != 0 || bad != api.ErrArg {
			t.Errorf("Signed in %d bytes: %d, %d", n, v, int(bad))
		}
	}
}

func TestUnsigned(t *testing.T) {
	for _, c := range signs {
		if x, bad := Unsigned(c.v, c.n); x != c.x || bad != api.OK {
			t.Errorf("Unsigned of %d in %d bytes: %x, %d", c.v, c.n, x, int(bad))
		}
	}
	for n := 1; n <= 7; n++ {
		half := int64(1) << (8*n - 1)
		for _, v := range []int64{half, half + 1, 2*half - 1, 2 * half, -half - 1, -2 * half, math.MaxInt64, math.MinInt64} {
			if x, bad := Unsigned(v, n); x != 0 || bad != api.ErrRange {
				t.Errorf("Unsigned of %d in %d bytes: %x, %d", v, n, x, int(bad))
			}
		}
	}
	for _, n := range noWidths {
		for _, v := range []int64{0, -1, math.MaxInt64, math.MinInt64} {
			if x, bad := Unsigned(v, n); x != 0 || bad != api.ErrArg {
				t.Errorf("Unsigned of %d in %d bytes: %x, %d", v, n, x, int(bad))
			}
		}
	}
}

func TestSignedIsUnsignedBack(t *testing.T) {
	for v := int64(-70000); v <= 70000; v += 7 {
		for n := 1; n <= 8; n++ {
			x, bad := Unsigned(v, n)
			half := int64(math.MaxInt64)
			if n < 8 {
				half = 1<<(8*n-1) - 1
			}
			if fits := v <= half && v >= -half-1; fits != (bad == api.OK) {
				t.Fatalf("Unsigned of %d in %d bytes: %d", v, n, int(bad))
			}
			if bad != api.OK {
				continue
			}
			if back, bad := Signed(x, n); back != v || bad != api.OK {
				t.Fatalf("Signed of %x in %d bytes: %d", x, n, back)
			}
		}
	}
}
