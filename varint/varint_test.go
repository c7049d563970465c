package varint

import (
	"math"
	"slices"
	"strings"
	"testing"

	"gazetteer/api"
	"gazetteer/little"
)

// nine is what stands ahead of a tenth byte.
const nine = "\xff\xff\xff\xff\xff\xff\xff\xff\xff"

// texts are numbers, and their bytes.
var texts = []struct {
	x    uint64
	text string
}{
	{0, "\x00"},
	{1, "\x01"},
	{127, "\x7f"},
	{128, "\x80\x01"},
	{129, "\x81\x01"},
	{255, "\xff\x01"},
	{256, "\x80\x02"},
	{300, "\xac\x02"},
	{1<<14 - 1, "\xff\x7f"},
	{1 << 14, "\x80\x80\x01"},
	{1<<21 - 1, "\xff\xff\x7f"},
	{1 << 21, "\x80\x80\x80\x01"},
	{1<<28 - 1, "\xff\xff\xff\x7f"},
	{1 << 28, "\x80\x80\x80\x80\x01"},
	{math.MaxUint32, "\xff\xff\xff\xff\x0f"},
	{1<<35 - 1, "\xff\xff\xff\xff\x7f"},
	{1 << 35, "\x80\x80\x80\x80\x80\x01"},
	{1 << 42, "\x80\x80\x80\x80\x80\x80\x01"},
	{1 << 49, "\x80\x80\x80\x80\x80\x80\x80\x01"},
	{1<<56 - 1, "\xff\xff\xff\xff\xff\xff\xff\x7f"},
	{1 << 56, "\x80\x80\x80\x80\x80\x80\x80\x80\x01"},
	{math.MaxInt64, "\xff\xff\xff\xff\xff\xff\xff\xff\x7f"},
	{1 << 63, "\x80\x80\x80\x80\x80\x80\x80\x80\x80\x01"},
	{0x8877665544332211, "\x91\xc4\xcc\xa1\xd4\xca\xd9\xbb\x88\x01"},
	{math.MaxUint64, nine + "\x01"},
}

// many tells numbers of all sizes.
func many() []uint64 {
	var l []uint64
	x := uint64(1)
	for i := range 640 {
		x = x*6364136223846793005 + 1442695040888963407
		l = append(l, x>>(i%64), uint64(1)<<(i%64), uint64(1)<<(i%64)-1)
	}
	return l
}

func TestPutAndSize(t *testing.T) {
	for _, c := range texts {
		if b := Put(nil, c.x); string(b) != c.text {
			t.Errorf("Put of %d: %q", c.x, b)
		}
		if b := Put([]byte("a\x80"), c.x); string(b) != "a\x80"+c.text {
			t.Errorf("Put of %d behind two bytes: %q", c.x, b)
		}
		if n := Size(c.x); n != len(c.text) {
			t.Errorf("Size of %d: %d", c.x, n)
		}
	}
}

func TestSizeIsPutsLength(t *testing.T) {
	for _, x := range many() {
		want := 1
		for y := x; y > 127; y /= 128 {
			want++
		}
		if n, b := Size(x), Put(nil, x); n != want || len(b) != want {
			t.Fatalf("%d: Size %d, Put %q", x, n, b)
		}
	}
}

func TestPutTellsNewList(t *testing.T) {
	for _, x := range []uint64{0, 127, 128, math.MaxUint64} {
		room := []byte("abcdefghijklmnop")
		given := room[:2]
		told := Put(given, x)
		told = told[:cap(told)]
		for i := range told {
			told[i] = '!'
		}
		if string(room) != "abcdefghijklmnop" {
			t.Errorf("Put of %d changed what it was given: %q", x, room)
		}
		told = Put(given, x)
		given[0] = '!'
		if told[0] != 'a' {
			t.Errorf("Put of %d tells what it was given", x)
		}
	}
}

func TestPutHandsOutNoBytesBehindAList(t *testing.T) {
	room := []byte("abcdefghijklmnopqrstuvwxyz")
	told := Put(room[:2], 300)
	for _, b := range told[len(told):cap(told)] {
		if b != 0 {
			t.Errorf("%q stands behind what is told", b)
		}
	}
}

func TestAll(t *testing.T) {
	if b := All(nil); len(b) != 0 {
		t.Errorf("All of none: %q", b)
	}
	if b := All([]uint64{}); len(b) != 0 {
		t.Errorf("All of an empty list: %q", b)
	}
	var l []uint64
	var want string
	for _, c := range texts {
		l = append(l, c.x)
		want += c.text
		if b := All(l[len(l)-1:]); string(b) != c.text {
			t.Errorf("All of %d: %q", c.x, b)
		}
		if b := All(l); string(b) != want {
			t.Errorf("All of %d numbers: %q", len(l), b)
		}
	}
	kept := slices.Clone(l)
	b := All(l)
	l[0] = 99
	if string(b) != want {
		t.Errorf("All tells what it was given: %q", b)
	}
	l[0] = kept[0]
	if All(l); !slices.Equal(l, kept) {
		t.Error("All changed what it was given:", l)
	}
}

func TestGet(t *testing.T) {
	for _, c := range texts {
		for _, ahead := range []string{"", "\x80", "ab\xff"} {
			for _, behind := range []string{"", "\x00", "\x80", "\xffb", nine + nine} {
				s := little.Scan{Text: ahead + c.text + behind, At: len(ahead)}
				x, next := Get(s)
				s.At += len(c.text)
				if x != c.x || next != s {
					t.Errorf("%d: %d, %#v; want %#v", c.x, x, next, s)
				}
			}
		}
	}
	for _, x := range many() {
		got, s := Get(little.Scan{Text: string(Put([]byte("ab"), x)), At: 2})
		if got != x || s.End() != api.OK {
			t.Fatalf("%d: %d, %#v", x, got, s)
		}
	}
}

// tryGet holds what Get answers beside an error against the scan with the
// error as its Bad.
func tryGet(t *testing.T, s little.Scan, want api.Errno) {
	t.Helper()
	x, next := Get(s)
	s.Bad = want
	if x != 0 || next != s {
		t.Errorf("Get: %d, %#v; want 0, %#v", x, next, s)
	}
}

func TestGetOfWrongBytes(t *testing.T) {
	naughts := strings.Repeat("\x80", 9)
	for _, c := range []struct {
		text string
		want api.Errno
	}{
		{"", api.ErrShort},
		{"\x80", api.ErrShort},
		{"\xff\x80", api.ErrShort},
		{nine[:8], api.ErrShort},
		{nine, api.ErrShort},
		{naughts, api.ErrShort},
		{nine + "\x80", api.ErrOver},
		{nine + "\xff", api.ErrOver},
		{nine + "\xff\x00", api.ErrOver},
		{nine + "\x81\x01", api.ErrOver},
		{naughts + "\x80", api.ErrOver},
		{naughts + "\x80\x00", api.ErrOver},
		{naughts + "\x80\x80\x80", api.ErrOver},
		{nine + "\x02", api.ErrOver},
		{nine + "\x03", api.ErrOver},
		{nine + "\x7f", api.ErrOver},
		{naughts + "\x02", api.ErrOver},
		{naughts + "\x40", api.ErrOver},
		{"\x80\x00", api.ErrForm},
		{"\xff\x00", api.ErrForm},
		{"\x81\x80\x00", api.ErrForm},
		{"\x80\x00\x01", api.ErrForm},
		{nine[:8] + "\x00", api.ErrForm},
		{nine + "\x00", api.ErrForm},
		{naughts + "\x00", api.ErrForm},
		{naughts + "\x00\x01", api.ErrForm},
	} {
		tryGet(t, little.Scan{Text: c.text}, c.want)
		tryGet(t, little.Scan{Text: "\x01\x80" + c.text, At: 2}, c.want)
	}
}

func TestGetOfNoPlace(t *testing.T) {
	for _, text := range []string{"", "\x01", "\x80", nine + "\x01"} {
		for _, at := range []int{-1, len(text) + 1, len(text) + 9, math.MinInt, math.MaxInt} {
			tryGet(t, little.Scan{Text: text, At: at}, api.ErrArg)
		}
		tryGet(t, little.Scan{Text: text, At: len(text)}, api.ErrShort)
	}
}

func TestGetKeepsAnError(t *testing.T) {
	for _, bad := range []api.Errno{api.ErrNil, api.ErrArg, api.ErrShort, api.ErrLost, 99, -1} {
		for _, text := range []string{"", "\x01", "\x80", "\x80\x00", nine + "\x02", nine + "\xff"} {
			for _, at := range []int{-1, 0, 1, 99} {
				tryGet(t, little.Scan{Text: text, At: at, Bad: bad}, bad)
			}
		}
	}
}

// worth tells by the words of P2.2 what Get finds at a text's beginning: the
// number and how many bytes it has, or the error.
func worth(text string) (uint64, int, api.Errno) {
	last := slices.IndexFunc([]byte(text), func(b byte) bool { return b < 128 })
	switch {
	case len(text) >= 10 && (last < 0 || last >= 10):
		return 0, 0, api.ErrOver
	case last < 0:
		return 0, 0, api.ErrShort
	case last == 9 && text[9] > 1:
		return 0, 0, api.ErrOver
	case last > 0 && text[last] == 0:
		return 0, 0, api.ErrForm
	}
	var x uint64
	for i := last; i >= 0; i-- {
		x = x*128 + uint64(text[i]%128)
	}
	return x, last + 1, api.OK
}

func TestGetOfAnyBytes(t *testing.T) {
	const some = "\x00\x01\x02\x7f\x80\x81\xff"
	ends := []string{""}
	for from, round := 0, 0; round < 4; round++ {
		upto := len(ends)
		for _, end := range ends[from:upto] {
			for i := range len(some) {
				ends = append(ends, end+some[i:i+1])
			}
		}
		from = upto
	}
	for _, end := range ends {
		for ahead := range 11 {
			text := strings.Repeat("\x85", ahead) + end
			want, n, bad := worth(text)
			x, s := Get(little.Scan{Text: text})
			if x != want || s != (little.Scan{Text: text, At: n, Bad: bad}) {
				t.Fatalf("%q: %d, %#v; want %d, %d, %d", text, x, s, want, n, int(bad))
			}
			// A number has one text.
			if bad == api.OK && string(Put(nil, x)) != text[:n] {
				t.Fatalf("%q: %d, which is laid as %q", text, x, Put(nil, x))
			}
		}
	}
}

func TestTake(t *testing.T) {
	var l []uint64
	for _, c := range texts {
		l = append(l, c.x)
	}
	l = append(l, many()...)
	text := "\x80\x80" + string(All(l))
	at := 2
	for n := range len(l) + 1 {
		got, s := Take(little.Scan{Text: text, At: 2}, n)
		if !slices.Equal(got, l[:n]) || s != (little.Scan{Text: text, At: at}) {
			t.Fatalf("Take of %d: %d, %d, %d", n, got, s.At, int(s.Bad))
		}
		if n < len(l) {
			at += Size(l[n])
		}
	}
}

func TestTakeOfNone(t *testing.T) {
	for _, s := range []little.Scan{{}, {Text: "a"}, {Text: "a", At: 1}, {Text: "\x80"}, {Text: nine + "\xff"}} {
		if l, next := Take(s, 0); len(l) != 0 || next != s {
			t.Errorf("%#v: %d, %#v", s, l, next)
		}
	}
}

func TestTakeOfMost(t *testing.T) {
	l := make([]uint64, 65536)
	for i := range l {
		l[i] = uint64(i) << (i % 48)
	}
	text := string(All(l))
	for _, n := range []int{65535, 65536} {
		got, s := Take(little.Scan{Text: text}, n)
		if !slices.Equal(got, l[:n]) || s.Bad != api.OK || s.At != len(All(l[:n])) {
			t.Errorf("Take of %d: %d numbers, %d, %d", n, len(got), s.At, int(s.Bad))
		}
	}
	if got, s := Take(little.Scan{Text: text + "\x01"}, 65537); len(got) != 0 || s.At != 0 || s.Bad != api.ErrArg {
		t.Errorf("Take of 65537: %d numbers, %d, %d", len(got), s.At, int(s.Bad))
	}
}

// tryTake holds what Take answers beside an error against the scan with the
// error as its Bad, at the place of the number at which it was found.
func tryTake(t *testing.T, s little.Scan, n, at int, want api.Errno) {
	t.Helper()
	l, next := Take(s, n)
	s.At, s.Bad = at, want
	if len(l) != 0 || next != s {
		t.Errorf("Take of %d: %d, %#v; want none, %#v", n, l, next, s)
	}
}

func TestTakeOfWrongCount(t *testing.T) {
	for _, n := range []int{-1, -2, 65537, 65538, 1 << 20, math.MinInt, math.MaxInt} {
		for _, s := range []little.Scan{{}, {Text: "\x05\x06"}, {Text: "\x05\x06", At: 2}, {Text: "\x80\x00", At: 1}} {
			tryTake(t, s, n, s.At, api.ErrArg)
		}
	}
}

func TestTakeOfNoPlace(t *testing.T) {
	for _, at := range []int{-1, 3, math.MinInt, math.MaxInt} {
		for _, n := range []int{-1, 0, 1, 2, 65536, 65537} {
			tryTake(t, little.Scan{Text: "\x05\x06", At: at}, n, at, api.ErrArg)
		}
	}
}

func TestTakeKeepsAnError(t *testing.T) {
	for _, bad := range []api.Errno{api.ErrNil, api.ErrShort, api.ErrLost, 99, -1} {
		for _, at := range []int{-1, 0, 2, 3} {
			for _, n := range []int{-1, 0, 1, 2, 3, 65536, 65537} {
				tryTake(t, little.Scan{Text: "\x05\x06", At: at, Bad: bad}, n, at, bad)
			}
		}
	}
}

func TestTakeOfWrongNumber(t *testing.T) {
	for _, c := range []struct {
		text string
		n    int
		at   int
		want api.Errno
	}{
		{"", 1, 0, api.ErrShort},
		{"", 65536, 0, api.ErrShort},
		{"\x05\x80\x01", 3, 3, api.ErrShort},
		{"\x05\x80\x01", 65536, 3, api.ErrShort},
		{"\x05\x80\x01\x80", 3, 3, api.ErrShort},
		{"\x80\x00\x05", 2, 0, api.ErrForm},
		{"\x05\x80\x00", 2, 1, api.ErrForm},
		{"\x80\x01\x80\x01\x81\x00\x07", 4, 4, api.ErrForm},
		{"\x80\x01\x05" + nine + "\x02\x80\x00", 4, 3, api.ErrOver},
		{"\x05" + nine + "\xff\x01", 2, 1, api.ErrOver},
	} {
		tryTake(t, little.Scan{Text: c.text}, c.n, c.at, c.want)
		tryTake(t, little.Scan{Text: "\xff\x80" + c.text, At: 2}, c.n, 2+c.at, c.want)
	}
	// What stands behind the numbers that are asked for is not looked at.
	if l, s := Take(little.Scan{Text: "\x05\x80\x00"}, 1); !slices.Equal(l, []uint64{5}) || s.At != 1 || s.Bad != api.OK {
		t.Error(l, s)
	}
}

func TestTakeTellsNewList(t *testing.T) {
	s := little.Scan{Text: "\x05\x80\x01\x07"}
	one, _ := Take(s, 3)
	other, _ := Take(s, 3)
	one = one[:cap(one)]
	for i := range one {
		one[i] = 99
	}
	if !slices.Equal(other, []uint64{5, 128, 7}) || s != (little.Scan{Text: "\x05\x80\x01\x07"}) {
		t.Error(other, s)
	}
}
