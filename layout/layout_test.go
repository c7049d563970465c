package layout

import (
	"encoding/binary"
	"math"
	"math/big"
	"strings"
	"testing"
	"unsafe"

	"gazetteer/api"
	"gazetteer/header"
)

const (
	most = uint64(1) << 40 // the greatest place behind the last part
	last = uint64(math.MaxUint64)
)

func TestLimits(t *testing.T) {
	if api.MaxTotal != most || api.Head != 127 {
		t.Error("the limits of these tests are others than the program's")
	}
}

// laid is what Sections tells.
type laid struct {
	l   [4]header.Section
	n   uint64
	bad api.Errno
}

// sections tells Sections' answer, by the words of the chapter, with numbers of
// any length.
func sections(lengths [4]uint64) laid {
	var want laid
	end := big.NewInt(127)
	for i, n := range lengths {
		want.l[i] = header.Section{From: end.Uint64(), Length: n}
		end.Add(end, new(big.Int).SetUint64(n))
	}
	if end.Cmp(new(big.Int).SetUint64(most)) > 0 {
		return laid{bad: api.ErrRange}
	}
	want.n = end.Uint64()
	return want
}

// trySections holds Sections' answer.
func trySections(t *testing.T, lengths [4]uint64, want laid) {
	t.Helper()
	l, n, bad := Sections(lengths)
	if got := (laid{l, n, bad}); got != want {
		t.Errorf("Sections(%d): %d, %d, %d; want %d, %d, %d", lengths, l, n, int(bad), want.l, want.n, int(want.bad))
	}
}

// foursOf tells all lists of four of some things.
func foursOf[T any](some []T) [][4]T {
	all := [][4]T{{}}
	for i := range 4 {
		var more [][4]T
		for _, l := range all {
			for _, x := range some {
				l[i] = x
				more = append(more, l)
			}
		}
		all = more
	}
	return all
}

// P15.1: the chapter's example, and lengths at the edge, written out.
func TestSections(t *testing.T) {
	for _, x := range []struct {
		lengths [4]uint64
		want    laid
	}{
		{[4]uint64{25, 2, 0, 9}, laid{[4]header.Section{{From: 127, Length: 25}, {From: 152, Length: 2}, {From: 154}, {From: 154, Length: 9}}, 163, api.OK}},
		{[4]uint64{1, 2, 3, 4}, laid{[4]header.Section{{From: 127, Length: 1}, {From: 128, Length: 2}, {From: 130, Length: 3}, {From: 133, Length: 4}}, 137, api.OK}},
		{[4]uint64{}, laid{[4]header.Section{{From: 127}, {From: 127}, {From: 127}, {From: 127}}, 127, api.OK}},
		{[4]uint64{most - 127}, laid{[4]header.Section{{From: 127, Length: most - 127}, {From: most}, {From: most}, {From: most}}, most, api.OK}},
		{[4]uint64{3: most - 127}, laid{[4]header.Section{{From: 127}, {From: 127}, {From: 127}, {From: 127, Length: most - 127}}, most, api.OK}},
		{[4]uint64{1, 1, 1, most - 130}, laid{[4]header.Section{{From: 127, Length: 1}, {From: 128, Length: 1}, {From: 129, Length: 1}, {From: 130, Length: most - 130}}, most, api.OK}},
		{[4]uint64{1, 1, 1, most - 129}, laid{bad: api.ErrRange}},
		{[4]uint64{most - 126}, laid{bad: api.ErrRange}},
		{[4]uint64{3: most - 126}, laid{bad: api.ErrRange}},
		{[4]uint64{most - 127, 0, 0, 1}, laid{bad: api.ErrRange}},
		{[4]uint64{most / 2, most / 2, 0, 0}, laid{bad: api.ErrRange}},
		// Sums that a number does not hold.
		{[4]uint64{last, last}, laid{bad: api.ErrRange}},
		{[4]uint64{last, last, last, last}, laid{bad: api.ErrRange}},
		{[4]uint64{last - 126}, laid{bad: api.ErrRange}},
		{[4]uint64{5, last - 4, 7, 0}, laid{bad: api.ErrRange}},
		{[4]uint64{1 << 62, 1 << 62, 1 << 62, 1 << 62}, laid{bad: api.ErrRange}},
		{[4]uint64{9, 0, 1 << 63, 1 << 63}, laid{bad: api.ErrRange}},
	} {
		if want := sections(x.lengths); want != x.want {
			t.Errorf("%d: the words tell %d", x.lengths, want)
		}
		trySections(t, x.lengths, x.want)
	}
}

// P15.1: all lists of some lengths, about the edges and beyond.
func TestSectionsOfAllLengths(t *testing.T) {
	some := []uint64{
		0, 1, 2, 126, 127, 128, 70000, most / 4, most/4 - 32, most/2 - 64, most / 2, most - 256, most - 255, most - 129, most - 128, most - 127, most - 126, most,
		1 << 62, 1 << 63, last - 254, last - 127, last - 126, last - most, last,
	}
	for _, lengths := range foursOf(some) {
		trySections(t, lengths, sections(lengths))
	}
}

// full tells a header with all fields that are not sections at other numbers
// than 0, and sections as they are told.
func full(l [4]header.Section) header.Header {
	return header.Header{
		Root: l[0], Meta: l[1], Leaves: l[2], Data: l[3],
		Addressed: last, Entries: last - 1, Contents: 0x3132333435363738,
		Clustered: true, Inner: 2, Outer: 4, Kind: 5, MinZoom: 3, MaxZoom: 26,
		MinLon: -1234567890, MinLat: -812345678, MaxLon: 1122334455, MaxLat: 887654321,
		Zoom: 17, Lon: -1012345678, Lat: 765432109,
	}
}

// far are sections that no archive may have.
var far = [4]header.Section{{From: last, Length: last}, {From: 1, Length: most}, {From: most + 1}, {Length: last}}

// P15.1: With puts sections, whatever they are, into their places, and leaves
// all else, whatever it is.
func TestWith(t *testing.T) {
	some := []header.Section{{}, {From: 127, Length: 9}, {From: last, Length: 7}, {From: 1, Length: last}}
	for _, l := range foursOf(some) {
		for _, was := range [][4]header.Section{{}, {{From: 1, Length: 2}, {From: 3, Length: 4}, {From: 5, Length: 6}, {From: 7, Length: 8}}, far} {
			h := full(was)
			if got := With(h, l); got != full(l) {
				t.Fatalf("With(%+v, %d): %+v", h, l, got)
			}
			if h != full(was) {
				t.Fatalf("With(%+v, %d) changes what it is given", h, l)
			}
		}
		want := header.Header{Root: l[0], Meta: l[1], Leaves: l[2], Data: l[3]}
		if got := With(header.Header{}, l); got != want {
			t.Fatalf("With of the zero header, %d: %+v", l, got)
		}
		want.Kind, want.MinZoom, want.Lat = 99, -5, math.MinInt
		if got := With(header.Header{Kind: 99, MinZoom: -5, Lat: math.MinInt}, l); got != want {
			t.Fatalf("With of a header that may not be, %d: %+v", l, got)
		}
	}
}

// glued tells Glue's answer, by the words of the chapter.
func glued(h header.Header, parts [4]string) (string, api.Errno) {
	want := sections([4]uint64{uint64(len(parts[0])), uint64(len(parts[1])), uint64(len(parts[2])), uint64(len(parts[3]))})
	if want.bad != api.OK {
		return "", want.bad
	}
	h.Root, h.Meta, h.Leaves, h.Data = want.l[0], want.l[1], want.l[2], want.l[3]
	head, bad := header.Encode(h)
	if bad != api.OK {
		return "", bad
	}
	return head + parts[0] + parts[1] + parts[2] + parts[3], api.OK
}

// short tells a text, or as much of it as an error's line has room for.
func short(s string) string { return s[:min(len(s), 300)] }

// tryGlue holds Glue's answer, and that what was glued is cut again.
func tryGlue(t *testing.T, h header.Header, parts [4]string, want string, wantBad api.Errno) {
	t.Helper()
	s, bad := Glue(h, parts)
	if s != want || bad != wantBad {
		t.Fatalf("Glue(%+v, %.40q): %d bytes %q, %d; want %d bytes %q, %d", h, parts, len(s), short(s), int(bad), len(want), short(want), int(wantBad))
	}
	if bad == api.OK {
		tryAgain(t, h, parts, s)
	}
}

// tryAgain holds that a glued archive is cut into its parts, with a header that
// is laid in just as many bytes (P15.4).
func tryAgain(t *testing.T, h header.Header, parts [4]string, s string) {
	t.Helper()
	back, again, bad := Cut(s)
	if again != parts || bad != api.OK {
		t.Fatalf("Cut of what was glued of %.40q: %.40q, %d", parts, again, int(bad))
	}
	n := uint64(len(s))
	if bad := header.Laid(back, n); bad != api.OK || back.Data.End() != n {
		t.Fatalf("what was glued of %.40q is not laid in %d bytes: %+v, %d", parts, n, back, int(bad))
	}
	if bad := header.Laid(back, n-1); bad != api.ErrRange {
		t.Fatalf("what was glued of %.40q is laid in less than %d bytes: %+v, %d", parts, n, back, int(bad))
	}
	h.Root, h.Meta, h.Leaves, h.Data = back.Root, back.Meta, back.Leaves, back.Data
	if back != h {
		t.Fatalf("Cut of what was glued: %+v, want %+v", back, h)
	}
}

// written tells the head of an archive without numbers but its sections.
func written(numbers ...uint64) string {
	b := make([]byte, 127)
	copy(b, "PMTiles\x03")
	for i, x := range numbers {
		binary.LittleEndian.PutUint64(b[8+8*i:], x)
	}
	return string(b)
}

// P15.2: archives that are written out, and parts of many lengths.
func TestGlue(t *testing.T) {
	tryGlue(t, header.Header{}, [4]string{}, written(127, 0, 127, 0, 127, 0, 127, 0), api.OK)
	tryGlue(t, header.Header{}, [4]string{"root", "{}", "leaves", "tiles"}, written(127, 4, 131, 2, 133, 6, 139, 5)+"root{}leavestiles", api.OK)
	tryGlue(t, header.Header{Root: far[0], Data: far[3]}, [4]string{3: "x"}, written(127, 0, 127, 0, 127, 0, 127, 1)+"x", api.OK)
	some := []string{"", "a", "{}", "\x00\xff\x80", strings.Repeat("long", 200)}
	for _, parts := range foursOf(some) {
		for _, h := range []header.Header{{}, full([4]header.Section{}), full(far), {Clustered: true, Inner: 1, Outer: 1}, {Kind: 6}, {MinZoom: 1}} {
			want, bad := glued(h, parts)
			tryGlue(t, h, parts, want, bad)
		}
	}
	many := [4]string{strings.Repeat("r", 16257), strings.Repeat("m", 4096), strings.Repeat("l", 1<<20), strings.Repeat("d", 1<<24+1)}
	want, bad := glued(full(far), many)
	tryGlue(t, full(far), many, want, bad)
}

// P15.2: a header that may not be makes no archive; its own sections play no
// part.
func TestGlueErrors(t *testing.T) {
	for _, x := range []struct {
		h    header.Header
		want api.Errno
	}{
		{header.Header{Inner: 5}, api.ErrKind},
		{header.Header{Outer: 5}, api.ErrKind},
		{header.Header{Kind: 6}, api.ErrKind},
		{header.Header{Kind: 9, MinZoom: -1}, api.ErrKind},
		{header.Header{Root: far[0], Kind: 9}, api.ErrKind},
		{header.Header{MinZoom: -1}, api.ErrRange},
		{header.Header{MinZoom: 3, MaxZoom: 2}, api.ErrRange},
		{header.Header{MaxZoom: 27}, api.ErrRange},
		{header.Header{MaxZoom: 256}, api.ErrRange},
		{header.Header{Zoom: 27}, api.ErrRange},
		{header.Header{MinLon: 1}, api.ErrRange},
		{header.Header{MaxLon: 1800000001}, api.ErrRange},
		{header.Header{MinLat: -900000001}, api.ErrRange},
		{header.Header{MaxLat: math.MaxInt}, api.ErrRange},
		{header.Header{Lon: 1800000001}, api.ErrRange},
		{header.Header{Lat: math.MinInt}, api.ErrRange},
	} {
		for _, parts := range [][4]string{{}, {"root", "{}", "leaves", "tiles"}} {
			tryGlue(t, x.h, parts, "", x.want)
		}
	}
}

// endless tells a text that says it has n bytes. No byte of it may be read.
func endless(n int) string {
	text := struct {
		data *byte
		n    int
	}{new(byte), n}
	return *(*string)(unsafe.Pointer(&text))
}

// P15.2: parts that are too long together are told before a header that may not
// be, and are not read.
func TestGlueOfTooLong(t *testing.T) {
	for _, parts := range [][4]string{
		{endless(1<<40 - 126)},
		{3: endless(1<<40 - 126)},
		{"a", "b", "c", endless(1<<40 - 129)},
		{endless(1 << 39), "", endless(1 << 39), ""},
		{endless(math.MaxInt), endless(math.MaxInt), "", ""},
		{endless(math.MaxInt), endless(math.MaxInt), endless(2), endless(0)},
	} {
		for _, h := range []header.Header{{}, {Kind: 9}, {MaxZoom: 27}} {
			if s, bad := Glue(h, parts); s != "" || bad != api.ErrRange {
				t.Errorf("parts of %d, %d, %d and %d bytes: %d bytes, error %d", len(parts[0]), len(parts[1]), len(parts[2]), len(parts[3]), len(s), int(bad))
			}
		}
	}
	// Just as many as may be: the header is told.
	if s, bad := Glue(header.Header{Kind: 9}, [4]string{"a", "b", "c", endless(1<<40 - 130)}); s != "" || bad != api.ErrKind {
		t.Errorf("the longest parts: %d bytes, error %d", len(s), int(bad))
	}
}

// cut tells Cut's answer, by the words of the chapter.
func cut(s string) (header.Header, [4]string, api.Errno) {
	h, bad := header.Decode(s)
	if bad != api.OK {
		return header.Header{}, [4]string{}, bad
	}
	var parts [4]string
	for i, at := range []header.Section{h.Root, h.Meta, h.Leaves, h.Data} {
		if at.From+at.Length > uint64(len(s)) {
			return header.Header{}, [4]string{}, api.ErrRange
		}
		parts[i] = s[at.From:][:at.Length]
	}
	return h, parts, api.OK
}

// tryCut holds Cut's answer against one by the words of the chapter, and tells
// it.
func tryCut(t *testing.T, s string) ([4]string, api.Errno) {
	t.Helper()
	h, parts, bad := Cut(s)
	wantH, want, wantBad := cut(s)
	if h != wantH || parts != want || bad != wantBad {
		t.Fatalf("Cut(%q): %+v, %.40q, %d; want %+v, %.40q, %d", short(s), h, parts, int(bad), wantH, want, int(wantBad))
	}
	return parts, bad
}

// headOf tells the bytes of a header.
func headOf(t *testing.T, h header.Header) string {
	t.Helper()
	s, bad := header.Encode(h)
	if bad != api.OK {
		t.Fatalf("%+v: error %d", h, int(bad))
	}
	return s
}

// P15.3: sections that overlap, leave bytes out, or stand in another order, with
// parts that are written out.
func TestCut(t *testing.T) {
	behind := "abcdefghijklmnopqrstuvwxyz"
	for _, x := range []struct {
		l    [4]header.Section
		want [4]string
		bad  api.Errno
	}{
		{[4]header.Section{{From: 127, Length: 3}, {From: 130, Length: 2}, {From: 132, Length: 1}, {From: 133, Length: 20}}, [4]string{"abc", "de", "f", "ghijklmnopqrstuvwxyz"}, api.OK},
		{[4]header.Section{{From: 150, Length: 3}, {From: 140, Length: 4}, {From: 127, Length: 2}, {From: 129, Length: 1}}, [4]string{"xyz", "nopq", "ab", "c"}, api.OK},
		{[4]header.Section{{From: 127, Length: 26}, {From: 127, Length: 26}, {From: 127, Length: 5}, {From: 130, Length: 5}}, [4]string{behind, behind, "abcde", "defgh"}, api.OK},
		// Parts of the head itself, whose last byte is that of Lat.
		{[4]header.Section{{From: 3, Length: 4}, {From: 0, Length: 8}, {From: 126, Length: 2}, {From: 153}}, [4]string{"iles", "PMTiles\x03", "-a", ""}, api.OK},
		{[4]header.Section{}, [4]string{}, api.OK},
		{[4]header.Section{{From: 153}, {From: 152, Length: 1}, {From: 153}, {From: 127}}, [4]string{1: "z"}, api.OK},
		// A byte too far, and places that are far too far, one section each.
		{[4]header.Section{{From: 127, Length: 27}}, [4]string{}, api.ErrRange},
		{[4]header.Section{1: {From: 127, Length: 27}}, [4]string{}, api.ErrRange},
		{[4]header.Section{2: {From: 127, Length: 27}}, [4]string{}, api.ErrRange},
		{[4]header.Section{3: {From: 127, Length: 27}}, [4]string{}, api.ErrRange},
		{[4]header.Section{{From: 154}}, [4]string{}, api.ErrRange},
		{[4]header.Section{1: {From: 153, Length: 1}}, [4]string{}, api.ErrRange},
		{[4]header.Section{2: {From: most}}, [4]string{}, api.ErrRange},
		{[4]header.Section{3: {From: 0, Length: most}}, [4]string{}, api.ErrRange},
		{[4]header.Section{3: {From: 1 << 32, Length: 4}}, [4]string{}, api.ErrRange},
	} {
		s := headOf(t, full(x.l)) + behind
		h, parts, bad := Cut(s)
		wantH := full(x.l)
		if x.bad != api.OK {
			wantH = header.Header{}
		}
		if h != wantH || parts != x.want || bad != x.bad {
			t.Errorf("sections %d: %+v, %q, %d; want %+v, %q, %d", x.l, h, parts, int(bad), wantH, x.want, int(x.bad))
		}
	}
}

// P15.3: all lists of some sections, right and wrong ones, in texts of some
// lengths.
func TestCutOfAllSections(t *testing.T) {
	some := []header.Section{
		{}, {Length: 127}, {From: 3, Length: 4}, {From: 127, Length: 5}, {From: 128, Length: 9}, {From: 130}, {From: 130, Length: 10}, {From: 137},
		{From: 139, Length: 1}, {From: 140}, {From: 140, Length: 1}, {From: 1, Length: 140}, {From: 1 << 32, Length: 1}, {From: most},
	}
	for _, l := range foursOf(some) {
		s := headOf(t, full(l)) + "fourteen bytes"
		for _, n := range []int{127, 137, 139, 140, 141} {
			tryCut(t, s[:n])
		}
	}
}

// P15.3: a glued archive, shorter, and with more behind it.
func TestCutOfOtherLengths(t *testing.T) {
	parts := [4]string{"root", "{}", "leaves", "tiles"}
	for _, h := range []header.Header{{}, full(far)} {
		s, bad := Glue(h, parts)
		if bad != api.OK {
			t.Fatalf("%+v: error %d", h, int(bad))
		}
		for n := range len(s) {
			want := api.ErrRange
			if n < 127 {
				want = api.ErrShort
			}
			if _, bad := tryCut(t, s[:n]); bad != want {
				t.Errorf("%d bytes: error %d, want %d", n, int(bad), int(want))
			}
		}
		for n := range 200 {
			if got, bad := tryCut(t, s+strings.Repeat("!", n)); got != parts || bad != api.OK {
				t.Errorf("%d bytes more: %q, error %d", n, got, int(bad))
			}
		}
	}
	tryCut(t, "")
	tryCut(t, strings.Repeat("\x00", 300))
	tryCut(t, strings.Repeat("PMTiles\x03", 300))
	tryCut(t, strings.Repeat("\xff", 300))
}

// P15.3: each byte of a glued archive's head, and of what is behind, at each
// number.
func TestCutOfSpoilt(t *testing.T) {
	s, bad := Glue(full(far), [4]string{"root", "{}", "leaves", strings.Repeat("tiles", 99)})
	if bad != api.OK {
		t.Fatal(int(bad))
	}
	var seen [24]int
	for at := range 150 {
		for x := range 256 {
			b := []byte(s)
			b[at] = byte(x)
			_, bad := tryCut(t, string(b))
			seen[bad]++
		}
	}
	for _, bad := range []api.Errno{api.OK, api.ErrMagic, api.ErrVersion, api.ErrForm, api.ErrKind, api.ErrRange} {
		if seen[bad] == 0 {
			t.Errorf("error %d is not told", int(bad))
		}
	}
}

// P15.3: what Decode refuses is told before a section that is too long.
func TestCutErrors(t *testing.T) {
	s := headOf(t, full([4]header.Section{{From: 127, Length: 99}, {}, {}, {From: most}}))
	with := func(at int, by string) string { return s[:at] + by + s[at+len(by):] }
	for _, x := range []struct {
		s    string
		want api.Errno
	}{
		{"", api.ErrShort},
		{s[:126], api.ErrShort},
		{with(0, "p"), api.ErrMagic},
		{with(7, "\x02"), api.ErrVersion},
		{with(96, "\x02"), api.ErrForm},
		{with(97, "\x05"), api.ErrKind},
		{with(98, "\x05"), api.ErrKind},
		{with(99, "\x06"), api.ErrKind},
		{with(101, "\x1b"), api.ErrRange},
		// Sections that may not be are told before a kind that may not be.
		{s[:8] + strings.Repeat("\xff", 16) + s[24:99] + "\x09" + s[100:], api.ErrRange},
		{s[:8] + strings.Repeat("\xff", 16) + s[24:], api.ErrRange},
		{s, api.ErrRange},
	} {
		if h, parts, bad := Cut(x.s); h != (header.Header{}) || parts != [4]string{} || bad != x.want {
			t.Errorf("Cut(%q): %+v, %q, %d; want %d", short(x.s), h, parts, int(bad), int(x.want))
		}
		tryCut(t, x.s)
	}
}

// P15.4: headers and parts of which many are drawn by a rule.
func TestGluedIsCutAgain(t *testing.T) {
	x := uint64(1)
	draw := func(n int) int {
		x = x*6364136223846793005 + 1442695040888963407
		return int(x >> 33 % uint64(n))
	}
	for range 3000 {
		var parts [4]string
		for i := range parts {
			parts[i] = strings.Repeat(string(rune('a'+draw(26))), draw(40)) + "PMTiles\x03"[:draw(9)]
		}
		zoom := draw(27)
		h := header.Header{
			Root: header.Section{From: uint64(draw(300)), Length: uint64(draw(300))}, Data: far[draw(4)],
			Addressed: x, Clustered: draw(2) == 1, Inner: uint8(draw(5)), Kind: uint8(draw(6)),
			MinZoom: draw(zoom + 1), MaxZoom: zoom, MinLon: -draw(1800000001), MaxLat: draw(900000001), Lat: draw(900000001),
		}
		want, bad := glued(h, parts)
		if bad != api.OK {
			t.Fatalf("%+v: error %d", h, int(bad))
		}
		tryGlue(t, h, parts, want, api.OK)
	}
}

// Rule 3: what is told shares no bytes with what was handed in, nor with another
// part.
func TestNothingShared(t *testing.T) {
	given := strings.Repeat("bytes", 50)
	for i := range 4 {
		var parts [4]string
		parts[i] = given
		s, bad := Glue(header.Header{}, parts)
		if bad != api.OK || overlap(s, given) {
			t.Errorf("the part %d is handed out, error %d", i, int(bad))
		}
	}
	all := header.Section{From: 0, Length: 140}
	s := headOf(t, full([4]header.Section{all, all, {From: 130, Length: 5}, {From: 127, Length: 13}})) + "fourteen bytes"
	_, parts, bad := Cut(s)
	for i, part := range parts {
		if bad != api.OK || overlap(part, s) {
			t.Errorf("of the part %d the whole is handed out, error %d", i, int(bad))
		}
		for _, other := range parts[:i] {
			if overlap(part, other) {
				t.Errorf("the part %d is handed out twice", i)
			}
		}
	}
}

// overlap tells whether two texts, neither of which is empty, share a byte.
func overlap(a, b string) bool {
	from := func(s string) uintptr { return uintptr(unsafe.Pointer(unsafe.StringData(s))) }
	return from(a) < from(b)+uintptr(len(b)) && from(b) < from(a)+uintptr(len(a))
}
