package dirs

import (
	"math"
	"math/big"
	"slices"
	"strings"
	"testing"

	"gazetteer/api"
	"gazetteer/entry"
	"gazetteer/little"
	"gazetteer/varint"
)

const (
	count    = uint64(6004799503160661) // how many tiles there are
	most     = uint64(1) << 40          // the greatest place behind a content
	longest  = 65536                    // bytes that a directory may have
	last     = uint64(math.MaxUint64)
	lastHalf = uint64(math.MaxUint32)
)

// laid tells numbers as bytes.
func laid(l ...uint64) string { return string(varint.All(l)) }

// text tells a directory's bytes, by the words of the chapter.
func text(l []entry.Entry) string {
	n := len(l)
	numbers := make([]uint64, 1+4*n)
	numbers[0] = uint64(n)
	for i, e := range l {
		ahead := entry.Entry{}
		if i > 0 {
			ahead = l[i-1]
		}
		numbers[1+i] = e.ID - ahead.ID
		numbers[1+n+i] = uint64(e.Run)
		numbers[1+2*n+i] = uint64(e.Length)
		if i == 0 || e.Offset != ahead.Offset+uint64(ahead.Length) {
			numbers[1+3*n+i] = e.Offset + 1
		}
	}
	return laid(numbers...)
}

// sum tells numbers together, whatever they are.
func sum(a, b uint64) *big.Int {
	n := new(big.Int).SetUint64(a)
	return n.Add(n, new(big.Int).SetUint64(b))
}

// set puts the k-th number behind the first into a directory's entries, by the
// words of the chapter.
func set(l []entry.Entry, k int, x uint64) api.Errno {
	i, ahead := k%len(l), entry.Entry{}
	if i > 0 {
		ahead = l[i-1]
	}
	behind := ahead.Offset + uint64(ahead.Length)
	switch k / len(l) {
	case 0:
		id := sum(ahead.ID, x)
		if !id.IsUint64() {
			return api.ErrOver
		}
		l[i].ID = id.Uint64()
	case 1:
		if x > lastHalf {
			return api.ErrOver
		}
		l[i].Run = uint32(x)
	case 2:
		if x > lastHalf {
			return api.ErrOver
		}
		l[i].Length = uint32(x)
	case 3:
		if i == 0 && x == 0 || i > 0 && x != 0 && x-1 == behind {
			return api.ErrForm
		}
		l[i].Offset = x - 1
		if x == 0 {
			l[i].Offset = behind
		}
	}
	return api.OK
}

// told tells Decode's answer, by the words of the chapter.
func told(s string) ([]entry.Entry, int, api.Errno) {
	if len(s) > longest {
		return nil, 0, api.ErrLong
	}
	n, scan := varint.Get(little.Scan{Text: s})
	if scan.Bad != api.OK {
		return nil, 0, scan.Bad
	}
	if n > 4096 {
		return nil, 0, api.ErrMany
	}
	l := make([]entry.Entry, n)
	for k := range 4 * len(l) {
		x, next := varint.Get(scan)
		if next.Bad != api.OK {
			return nil, scan.At, next.Bad
		}
		if bad := set(l, k, x); bad != api.OK {
			return nil, scan.At, bad
		}
		scan = next
	}
	if scan.At < len(s) {
		return nil, scan.At, api.ErrForm
	}
	if bad := entry.Row(l); bad != api.OK {
		return nil, len(s), bad
	}
	return l, len(s), api.OK
}

// short tells a text, or as much of it as an error's line has room for.
func short(s string) string { return s[:min(len(s), 200)] }

// tryDecode holds what Decode and Each answer of a text.
func tryDecode(t *testing.T, s string, want []entry.Entry, wantAt int, wantBad api.Errno) {
	t.Helper()
	l, at, bad := Decode(s)
	if !slices.Equal(l, want) || at != wantAt || bad != wantBad {
		t.Fatalf("Decode(%q): %d, %d, %d; want %d, %d, %d", short(s), l, at, int(bad), want, wantAt, int(wantBad))
	}
	n := 0
	for i, e := range Each(s) {
		if n >= len(want) || i != uint64(n) || e != want[n] {
			t.Fatalf("Each(%q): %d, %d at the turn %d; want %d", short(s), i, e, n, want)
		}
		n++
	}
	if n != len(want) {
		t.Fatalf("Each(%q) tells %d entries, want %d", short(s), n, len(want))
	}
}

// tryText holds all calls' answers of any text against the words, and that a
// directory has one text.
func tryText(t *testing.T, s string) {
	t.Helper()
	l, at, bad := told(s)
	tryDecode(t, s, l, at, bad)
	if bad != api.OK {
		return
	}
	if again, bad := Encode(l); again != s || bad != api.OK || Size(l) != len(s) {
		t.Fatalf("Encode(%d): %q, %d; Size: %d; want %q", l, short(again), int(bad), Size(l), short(s))
	}
}

// tryWrong holds Decode's error.
func tryWrong(t *testing.T, s string, at int, bad api.Errno) {
	t.Helper()
	tryDecode(t, s, nil, at, bad)
}

// tryRow holds all calls' answers of a row that may be, and is not too long.
func tryRow(t *testing.T, l []entry.Entry) {
	t.Helper()
	want := text(l)
	if s, bad := Encode(l); s != want || bad != api.OK {
		t.Fatalf("Encode(%d): %q, %d; want %q", l, short(s), int(bad), short(want))
	}
	if n := Size(l); n != len(want) {
		t.Fatalf("Size(%d): %d, want %d", l, n, len(want))
	}
	tryDecode(t, want, l, len(want), api.OK)
}

// tryRefused holds Encode's error, and what Size tells.
func tryRefused(t *testing.T, l []entry.Entry, want api.Errno, size int) {
	t.Helper()
	if s, bad := Encode(l); s != "" || bad != want {
		t.Fatalf("Encode of %d entries: %q, %d; want %d", len(l), short(s), int(bad), int(want))
	}
	if n := Size(l); n != size {
		t.Fatalf("Size of %d entries: %d, want %d", len(l), n, size)
	}
}

// some are entries of a row, with pointers, and contents that stand right
// behind the one ahead, elsewhere, and there again.
var some = []entry.Entry{
	{ID: 0, Offset: 0, Length: 10, Run: 1},
	{ID: 5, Offset: 10, Length: 200, Run: 300},
	{ID: 400, Offset: 0, Length: 10, Run: 1},
	{ID: 401, Offset: 0, Length: 10, Run: 2},
	{ID: 500, Offset: 7, Length: 1},
	{ID: 501, Offset: 8, Length: 1 << 20},
	{ID: 1 << 40, Offset: 8 + 1<<20, Length: 127, Run: 127},
	{ID: 1 << 50, Offset: most - 128, Length: 128, Run: 128},
}

// rowOf tells a row of n entries.
func rowOf(n int) []entry.Entry {
	l := make([]entry.Entry, n)
	for i := range l {
		l[i] = entry.Entry{ID: 2 * uint64(i), Offset: 3 * uint64(i), Length: 3, Run: 2}
	}
	return l
}

// sized tells a row of 4096 entries with so many bytes, from 57341 to 73725.
func sized(n int) []entry.Entry {
	l := make([]entry.Entry, 4096)
	left := n - 57341
	for i := range l {
		more := min(left, 4)
		left -= more
		l[i] = entry.Entry{ID: uint64(i) << 40, Offset: uint64(1+i%2) << 38, Length: 1 << (7 * more), Run: 1}
	}
	return l
}

func TestLimits(t *testing.T) {
	if api.MaxDir != longest || api.MaxTotal != most || api.MaxEntries != 4096 {
		t.Error("the limits of these tests are others than the program's")
	}
}

func TestChaptersExamples(t *testing.T) {
	for _, c := range []struct {
		l    []entry.Entry
		text string
	}{
		{nil, "\x00"},
		{[]entry.Entry{}, "\x00"},
		{[]entry.Entry{{ID: 1, Length: 5, Run: 1}}, "\x01\x01\x01\x05\x01"},
		{[]entry.Entry{{ID: 1, Offset: 5, Length: 5, Run: 1}}, "\x01\x01\x01\x05\x06"},
		{[]entry.Entry{{Length: 1}}, "\x01\x00\x00\x01\x01"},
		{some[:2], "\x02\x00\x05\x01\xac\x02\x0a\xc8\x01\x01\x00"},
		{some[1:4], "\x03\x05\x8b\x03\x01\xac\x02\x01\x02\xc8\x01\x0a\x0a\x0b\x01\x01"},
	} {
		if s, bad := Encode(c.l); s != c.text || bad != api.OK || Size(c.l) != len(c.text) {
			t.Errorf("Encode(%d): %q, %d; Size: %d", c.l, s, int(bad), Size(c.l))
		}
		tryDecode(t, c.text, c.l, len(c.text), api.OK)
	}
}

func TestRows(t *testing.T) {
	for from := range some {
		for to := from; to <= len(some); to++ {
			tryRow(t, some[from:to])
		}
	}
	for _, n := range []int{1, 2, 127, 128, 129, 1000, 4095, 4096} {
		tryRow(t, rowOf(n))
	}
}

// TestRowsOfEdges goes through rows of two entries whose fields are about all
// that a number's bytes and the limits part.
func TestRowsOfEdges(t *testing.T) {
	ids := []uint64{0, 1, 127, 128, 1<<14 - 1, 1 << 14, 1 << 49, count - lastHalf - 2}
	halves := []uint32{0, 1, 127, 128, 1<<28 - 1, 1 << 28, math.MaxUint32}
	offsets := []uint64{0, 1, 126, 127, 128, 1<<28 - 1, 1 << 28, 1<<35 - 2, 1<<35 - 1, most - lastHalf}
	for _, id := range ids {
		for _, run := range halves {
			for _, length := range halves[1:] {
				for _, offset := range offsets {
					e := entry.Entry{ID: id, Offset: offset, Length: length, Run: run}
					tryRow(t, []entry.Entry{e})
					tryRow(t, []entry.Entry{{ID: id, Offset: 1, Length: 127}, {ID: id + 1, Offset: offset, Length: length, Run: run}})
					to := offset + uint64(length)
					next := entry.Last(e) + 1
					for _, at := range []uint64{offset, to - 1, to, to + 1, to % (1 << 32), 0} {
						if at < most {
							tryRow(t, []entry.Entry{e, {ID: next, Offset: at, Length: 1, Run: 1}})
						}
					}
				}
			}
		}
	}
	tryRow(t, []entry.Entry{{ID: count - 1, Offset: most - 1, Length: 1, Run: 1}})
	tryRow(t, []entry.Entry{{Length: 1}, {ID: count - 1, Offset: 1, Length: 1}})
}

func TestEncodeRefusesWhatRowRefuses(t *testing.T) {
	good := entry.Entry{ID: 9, Offset: 4, Length: 5, Run: 2}
	for _, c := range []struct {
		l    []entry.Entry
		want api.Errno
	}{
		{[]entry.Entry{{}}, api.ErrArg},
		{[]entry.Entry{good, {ID: 20, Run: 1}}, api.ErrArg},
		{[]entry.Entry{{ID: count, Length: 1}}, api.ErrRange},
		{[]entry.Entry{good, {ID: 20, Offset: most, Length: 1}}, api.ErrRange},
		{[]entry.Entry{good, {ID: 20, Offset: last, Length: 1}}, api.ErrRange},
		{[]entry.Entry{{ID: last, Length: 1}}, api.ErrRange},
		{[]entry.Entry{good, {ID: 10, Length: 1}}, api.ErrOrder},
		{[]entry.Entry{good, {ID: 9, Length: 1}}, api.ErrOrder},
		{[]entry.Entry{good, {ID: 3, Length: 1}}, api.ErrOrder},
		{[]entry.Entry{good, {ID: 3, Length: 1}, {}}, api.ErrOrder},
		{[]entry.Entry{good, {}, {ID: 3, Length: 1}}, api.ErrArg},
		{rowOf(4097), api.ErrMany},
		{make([]entry.Entry, 70000), api.ErrMany},
	} {
		tryRefused(t, c.l, c.want, 0)
	}
}

func TestEncodeOfLongest(t *testing.T) {
	for _, n := range []int{57341, 57342, longest - 4, longest - 1, longest} {
		l := sized(n)
		if len(text(l)) != n {
			t.Fatalf("a row has %d bytes, want %d", len(text(l)), n)
		}
		tryRow(t, l)
	}
	for _, n := range []int{longest + 1, longest + 2, longest + 9, 73725} {
		l := sized(n)
		tryRefused(t, l, api.ErrLong, n)
		tryWrong(t, text(l), 0, api.ErrLong)
		// What Row refuses is told ahead of how long it is.
		l[4095].Length = 0
		tryRefused(t, l, api.ErrArg, 0)
		l[4094].ID--
		l[4094].Run = 0
		l[4093].ID = l[4094].ID
		tryRefused(t, l, api.ErrOrder, 0)
	}
	tryRow(t, sized(longest)[1:])
}

func TestDecodeOfWrongTexts(t *testing.T) {
	half := laid(lastHalf)
	beyond := laid(lastHalf + 1)
	for _, c := range []struct {
		text string
		at   int
		want api.Errno
	}{
		// How many entries there are.
		{"", 0, api.ErrShort},
		{"\x80", 0, api.ErrShort},
		{"\x80\x00", 0, api.ErrForm},
		{"\x81\x00\x01\x01\x05\x01", 0, api.ErrForm},
		{laid(4097), 0, api.ErrMany},
		{laid(4097) + "\x80\x00", 0, api.ErrMany},
		{laid(last), 0, api.ErrMany},
		{laid(1 << 32), 0, api.ErrMany},
		{laid(1<<63 + 1), 0, api.ErrMany},
		{strings.Repeat("\xff", 9) + "\x02", 0, api.ErrOver},
		{strings.Repeat("\x80", 10), 0, api.ErrOver},
		{laid(4096), 2, api.ErrShort},
		// Bytes that end too soon.
		{"\x01", 1, api.ErrShort},
		{"\x01\x01", 2, api.ErrShort},
		{"\x01\x01\x01", 3, api.ErrShort},
		{"\x01\x01\x01\x05", 4, api.ErrShort},
		{"\x01\x01\x01\x05\x81", 4, api.ErrShort},
		{"\x02\x01\x01\x01\x01\x05\x05\x01", 8, api.ErrShort},
		// IDs.
		{"\x01\x80\x00\x01\x05\x01", 1, api.ErrForm},
		{laid(2, last, 1), 11, api.ErrOver},
		{laid(2, last, last), 11, api.ErrOver},
		{laid(2, 1, last), 2, api.ErrOver},
		{laid(2, 1<<63, 1<<63), 11, api.ErrOver},
		{laid(3, 1<<63, 1<<63-1, 1), 20, api.ErrOver},
		{laid(2, last, 0, 1, 1, 5, 5, 1, 0), 18, api.ErrRange},
		{laid(2, 1, last-1, 1, 1, 5, 5, 1, 0), 18, api.ErrRange},
		{laid(1, last, 1, 5, 1), 14, api.ErrRange},
		// Runs and Lengths.
		{"\x01\x01" + beyond + "\x05\x01", 2, api.ErrOver},
		{"\x01\x01\x01" + beyond + "\x01", 3, api.ErrOver},
		{"\x02\x01\x01\x01" + beyond, 4, api.ErrOver},
		{"\x02\x01\x01\x01\x01\x05" + beyond, 6, api.ErrOver},
		{"\x01\x01" + laid(last), 2, api.ErrOver},
		{"\x01\x01\x01" + laid(last), 3, api.ErrOver},
		{"\x01\x01\x81\x00", 2, api.ErrForm},
		{"\x01\x01\x01\x81\x00", 3, api.ErrForm},
		{"\x01\x01" + half + half, 12, api.ErrShort},
		// Offsets.
		{"\x01\x01\x01\x05\x00", 4, api.ErrForm},
		{"\x01\x01\x01\x05\x80\x00", 4, api.ErrForm},
		{"\x02\x01\x01\x01\x01\x05\x05\x00\x00", 7, api.ErrForm},
		{"\x02\x01\x01\x01\x01\x05\x05\x01\x06", 8, api.ErrForm},
		{"\x02\x01\x01\x01\x01\x05\x05\x03\x08", 8, api.ErrForm},
		{"\x03\x01\x01\x01\x01\x01\x01\x05\x05\x05\x01\x00\x0b", 12, api.ErrForm},
		{laid(2, 1, 1, 1, 1, 5, 5, last-6, last-1), 17, api.ErrForm},
		{laid(2, 1, 1, 1, 1, 5, 5, last, 4), 17, api.ErrForm},
		{laid(2, 1, 1, 1, 1, 5, 5, last-4, last), 27, api.ErrRange},
		{laid(2, 1, 1, 1, 1, 5, 5, last-4, 1), 18, api.ErrRange},
		{laid(2, 1, 1, 1, 1, 1, 5, last, 0), 18, api.ErrRange},
		{laid(2, 1, 1, 1, 1, 0, 5, 1, 1), 8, api.ErrForm},
		{laid(2, 1, 1, 1, 1, 0, 5, 1, 0), 9, api.ErrArg},
		// Bytes that are left.
		{"\x00\x00", 1, api.ErrForm},
		{"\x00\x80", 1, api.ErrForm},
		{"\x01\x01\x01\x05\x01\x00", 5, api.ErrForm},
		{"\x01\x01\x01\x00\x01\x00", 5, api.ErrForm},
		// Entries that are no row.
		{"\x01\x01\x01\x00\x01", 5, api.ErrArg},
		{"\x01\x01\x00\x00\x01", 5, api.ErrArg},
		{"\x02\x01\x00\x01\x01\x05\x05\x01\x00", 9, api.ErrOrder},
		{"\x02\x01\x01\x02\x01\x05\x05\x01\x00", 9, api.ErrOrder},
		{laid(1, count, 1, 5, 1), 12, api.ErrRange},
		{laid(1, 1, 1, 5, most-3), 10, api.ErrRange},
		// Of two errors the first number's.
		{"\x02" + laid(last, 1) + "\x80\x00", 11, api.ErrOver},
		{"\x01\x01" + beyond + beyond + "\x00\x00", 2, api.ErrOver},
		{"\x01\x01\x01" + beyond + "\x00\x00", 3, api.ErrOver},
		{"\x01\x01\x01\x00\x00\x00", 4, api.ErrForm},
	} {
		tryWrong(t, c.text, c.at, c.want)
		if l, at, bad := told(c.text); len(l) > 0 || at != c.at || bad != c.want {
			t.Errorf("by the words %q is %d, %d", c.text, at, int(bad))
		}
	}
	tryDecode(t, "\x02\x01\x01\x01\x01\x05\x05\x01\x07", []entry.Entry{{ID: 1, Length: 5, Run: 1}, {ID: 2, Offset: 6, Length: 5, Run: 1}}, 9, api.OK)
	tryDecode(t, "\x02\x01\x01\x01\x01\x05\x05\x01\x05", []entry.Entry{{ID: 1, Length: 5, Run: 1}, {ID: 2, Offset: 4, Length: 5, Run: 1}}, 9, api.OK)
}

// textsOf tells all texts of up to n of some bytes.
func textsOf(some string, n int) []string {
	all := []string{""}
	for from := 0; n > 0; n-- {
		to := len(all)
		for _, s := range all[from:to] {
			for i := range len(some) {
				all = append(all, s+some[i:i+1])
			}
		}
		from = to
	}
	return all
}

func TestShortTexts(t *testing.T) {
	for _, s := range textsOf("\x00\x01\x02\x05\x7f\x80\xff", 6) {
		tryText(t, s)
	}
	for _, s := range textsOf("\x00\x01\x02", 7) {
		tryText(t, "\x02\x01\x01"+s)
	}
	for _, s := range textsOf("\x01\x02\x03", 6) {
		tryText(t, "\x03\x01\x01\x02\x01\x00\x01\x01\x01\x01"+s)
	}
}

// TestSpoiltTexts goes through texts of which one byte is another one, or is
// not there, or is there twice, and through their beginnings.
func TestSpoiltTexts(t *testing.T) {
	for _, l := range [][]entry.Entry{some, some[:2], some[4:7], rowOf(9), rowOf(200)[195:]} {
		s := text(l)
		for i := range len(s) {
			tryText(t, s[:i])
			tryText(t, s[:i]+s[i+1:])
			tryText(t, s[:i+1]+s[i:])
			for b := range 256 {
				tryText(t, s[:i]+string([]byte{byte(b)})+s[i+1:])
			}
		}
		for b := range 256 {
			tryText(t, s+string([]byte{byte(b)}))
		}
	}
}

// TestNumbersOfEdges goes through texts of numbers about all that the chapter
// names.
func TestNumbersOfEdges(t *testing.T) {
	edges := []uint64{0, 1, 2, 3, 5, 6, 127, 128, lastHalf - 1, lastHalf, lastHalf + 1, most, most + 1, count - 1, count, 1 << 63, last - 5, last - 1, last}
	for _, id := range edges {
		for _, run := range edges {
			for _, length := range edges {
				for _, offset := range edges {
					tryText(t, laid(1, id, run, length, offset))
				}
			}
		}
	}
	x := uint64(1)
	draw := func(n int) uint64 {
		x = x*6364136223846793005 + 1442695040888963407
		return x >> 33 % uint64(n)
	}
	for range 200000 {
		n := 1 + draw(4)
		l := []uint64{n}
		for range 4*n + draw(8)/7 {
			// Small numbers are drawn more often, so that many texts are right
			// up to a late place.
			l = append(l, edges[min(draw(len(edges)), draw(len(edges)), draw(len(edges)))])
		}
		tryText(t, laid(l...))
	}
}

func TestDecodeOfLongTexts(t *testing.T) {
	// Of a text that is too long no number is taken.
	tryWrong(t, strings.Repeat("\x00", longest), 1, api.ErrForm)
	tryWrong(t, strings.Repeat("\x00", longest+1), 0, api.ErrLong)
	tryWrong(t, strings.Repeat("\x80", longest), 0, api.ErrOver)
	tryWrong(t, strings.Repeat("\x80", longest+1), 0, api.ErrLong)
	s := text(sized(longest))
	tryWrong(t, s[:longest-1], longest-6, api.ErrShort)
	tryWrong(t, s+"\x00", 0, api.ErrLong)
	tryWrong(t, text(sized(longest-1))+"\x00", longest-1, api.ErrForm)
	tryWrong(t, text(rowOf(4097)), 0, api.ErrMany)
}

func TestEachIsLeftAndGoneThroughAgain(t *testing.T) {
	each := Each(text(some))
	for n := range len(some) + 1 {
		var l []entry.Entry
		for i, e := range each {
			if int(i) != len(l) {
				t.Errorf("the place %d, want %d", i, len(l))
			}
			if l = append(l, e); len(l) >= n {
				break
			}
		}
		if !slices.Equal(l, some[:max(n, 1)]) {
			t.Errorf("left behind %d: %d", n, l)
		}
	}
	pairs := 0
	for i, e := range each {
		for j, f := range each {
			if e != some[i] || f != some[j] || pairs != int(i)*len(some)+int(j) {
				t.Errorf("%d %d, %d %d", i, e, j, f)
			}
			pairs++
		}
	}
	if pairs != len(some)*len(some) {
		t.Errorf("%d pairs", pairs)
	}
}

// TestColumnsMayBeLeft: what goes through columns stops where it is left.
func TestColumnsMayBeLeft(t *testing.T) {
	whole := slices.Collect(numbers(some))
	for n := range whole {
		var l []uint64
		for x := range numbers(some) {
			if l = append(l, x); len(l) > n {
				break
			}
		}
		if !slices.Equal(l, whole[:n+1]) {
			t.Errorf("left behind %d: %d", n+1, l)
		}
	}
	for n := range some {
		b := begun(text(some))
		for i := range b.column(b.row.id) {
			if i == n {
				break
			}
		}
		if want := len(laid(whole[:n+2]...)); b.scan.At != want || b.scan.Bad != api.OK {
			t.Errorf("left behind %d: at %d, want %d", n, b.scan.At, want)
		}
	}
}

func TestEachIsNeverNil(t *testing.T) {
	for _, s := range []string{"", "\x00", "\x00\x00", "\x80", text(some), text(some) + "\x00", strings.Repeat("\x00", longest+1)} {
		if Each(s) == nil {
			t.Errorf("Each(%q) is nil", short(s))
		}
	}
}

// TestListsAreLeft: no call changes a list, reads what lies behind it, or
// tells one that it told ahead.
func TestListsAreLeft(t *testing.T) {
	l := slices.Clone(some)
	l[3] = entry.Entry{}
	whole := slices.Clone(l)
	tryRow(t, l[:3])
	tryRow(t, l[:0])
	tryRefused(t, l, api.ErrArg, 0)
	if !slices.Equal(l, whole) {
		t.Errorf("%d was changed to %d", whole, l)
	}
	s := text(some)
	one, _, _ := Decode(s)
	other, _, _ := Decode(s)
	each := Each(s)
	one = one[:cap(one)]
	for i := range one {
		one[i] = entry.Entry{ID: 99}
	}
	if !slices.Equal(other, some) {
		t.Errorf("what was told was changed to %d", other)
	}
	for i, e := range each {
		if e != some[i] {
			t.Errorf("Each tells %d at %d", e, i)
		}
	}
}
