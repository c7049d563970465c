package header

import (
	"encoding/binary"
	"fmt"
	"math"
	"strings"
	"testing"

	"gazetteer/api"
)

const (
	most = uint64(1) << 40 // the greatest place, and length
	last = uint64(math.MaxUint64)
)

// places are where the fields stand in the bytes.
const (
	atVersion   = 7
	atRoot      = 8
	atMeta      = 24
	atLeaves    = 40
	atData      = 56
	atAddressed = 72
	atEntries   = 80
	atContents  = 88
	atClustered = 96
	atInner     = 97
	atOuter     = 98
	atKind      = 99
	atMinZoom   = 100
	atMaxZoom   = 101
	atMinLon    = 102
	atMinLat    = 106
	atMaxLon    = 110
	atMaxLat    = 114
	atZoom      = 118
	atLon       = 119
	atLat       = 123
)

// headers tells headers that may be, and of which most fields have another
// number than their neighbours.
func headers() []Header {
	unlike := Header{
		Root: Section{127, 1000}, Meta: Section{2000, 300}, Leaves: Section{4000, 70000}, Data: Section{100000, 0x0123456789},
		Addressed: 0x1112131415161718, Entries: 0x2122232425262728, Contents: 0x3132333435363738,
		Clustered: true, Inner: 2, Outer: 4, Kind: 5, MinZoom: 3, MaxZoom: 26,
		MinLon: -1234567890, MinLat: -812345678, MaxLon: 1122334455, MaxLat: 887654321,
		Zoom: 17, Lon: -1012345678, Lat: 765432109,
	}
	close := unlike
	close.Meta, close.Leaves, close.Data = Section{1127, 300}, Section{1427, 7}, Section{1434, 5}
	close.Clustered, close.Inner, close.Outer, close.Kind = false, 1, 0, 3
	none := Header{Root: Section{127, 0}, Meta: Section{127, 0}, Leaves: Section{127, 0}, Data: Section{127, 0}}
	full := Header{
		Root: Section{most, 0}, Meta: Section{0, most}, Leaves: Section{1, most - 1}, Data: Section{most - 1, 1},
		Addressed: last, Entries: last - 1, Contents: last - 2,
		Clustered: true, Inner: 4, Outer: 3, Kind: 5, MinZoom: 26, MaxZoom: 26,
		MinLon: 1800000000, MinLat: 900000000, MaxLon: 1800000000, MaxLat: 900000000,
		Zoom: 26, Lon: 1800000000, Lat: 900000000,
	}
	least := Header{MinLon: -1800000000, MinLat: -900000000, MaxLon: -1800000000, MaxLat: -900000000, Lon: -1800000000, Lat: -900000000}
	small := Header{
		Root: Section{1, 2}, Meta: Section{3, 4}, Leaves: Section{5, 6}, Data: Section{7, 8},
		Addressed: 9, Entries: 10, Contents: 11, Inner: 1, Outer: 2, Kind: 3, MinZoom: 4, MaxZoom: 5,
		MinLon: -4, MinLat: -3, MaxLon: -2, MaxLat: -1, Zoom: 6, Lon: 1, Lat: -5,
	}
	return []Header{{}, unlike, close, none, full, least, small}
}

// bytesOf tells a header's bytes by the words of the chapter.
func bytesOf(h Header) string {
	b := make([]byte, 127)
	copy(b, "PMTiles")
	b[atVersion] = 3
	for at, s := range map[int]Section{atRoot: h.Root, atMeta: h.Meta, atLeaves: h.Leaves, atData: h.Data} {
		binary.LittleEndian.PutUint64(b[at:], s.From)
		binary.LittleEndian.PutUint64(b[at+8:], s.Length)
	}
	for at, x := range map[int]uint64{atAddressed: h.Addressed, atEntries: h.Entries, atContents: h.Contents} {
		binary.LittleEndian.PutUint64(b[at:], x)
	}
	if h.Clustered {
		b[atClustered] = 1
	}
	b[atInner], b[atOuter], b[atKind] = h.Inner, h.Outer, h.Kind
	b[atMinZoom], b[atMaxZoom], b[atZoom] = byte(h.MinZoom), byte(h.MaxZoom), byte(h.Zoom)
	for at, v := range map[int]int{atMinLon: h.MinLon, atMinLat: h.MinLat, atMaxLon: h.MaxLon, atMaxLat: h.MaxLat, atLon: h.Lon, atLat: h.Lat} {
		binary.LittleEndian.PutUint32(b[at:], uint32(int32(v)))
	}
	return string(b)
}

// told tells what 127 bytes tell by the words of the chapter, whether it may
// be or not.
func told(s string) Header {
	b := []byte(s)
	section := func(at int) Section {
		return Section{binary.LittleEndian.Uint64(b[at:]), binary.LittleEndian.Uint64(b[at+8:])}
	}
	degrees := func(at int) int { return int(int32(binary.LittleEndian.Uint32(b[at:]))) }
	return Header{
		Root: section(atRoot), Meta: section(atMeta), Leaves: section(atLeaves), Data: section(atData),
		Addressed: binary.LittleEndian.Uint64(b[atAddressed:]),
		Entries:   binary.LittleEndian.Uint64(b[atEntries:]),
		Contents:  binary.LittleEndian.Uint64(b[atContents:]),
		Clustered: b[atClustered] == 1, Inner: b[atInner], Outer: b[atOuter], Kind: b[atKind],
		MinZoom: int(b[atMinZoom]), MaxZoom: int(b[atMaxZoom]),
		MinLon: degrees(atMinLon), MinLat: degrees(atMinLat), MaxLon: degrees(atMaxLon), MaxLat: degrees(atMaxLat),
		Zoom: int(b[atZoom]), Lon: degrees(atLon), Lat: degrees(atLat),
	}
}

// checked tells Check's answer by the words of the chapter.
func checked(h Header) api.Errno {
	for _, s := range []Section{h.Root, h.Meta, h.Leaves, h.Data} {
		if s.From > most || s.Length > most || s.From+s.Length > most {
			return api.ErrRange
		}
	}
	if h.Inner > 4 || h.Outer > 4 || h.Kind > 5 {
		return api.ErrKind
	}
	if h.MinZoom < 0 || h.MinZoom > h.MaxZoom || h.MaxZoom > 26 || h.Zoom < 0 || h.Zoom > 26 {
		return api.ErrRange
	}
	if h.MinLon < -1800000000 || h.MinLon > h.MaxLon || h.MaxLon > 1800000000 {
		return api.ErrRange
	}
	if h.MinLat < -900000000 || h.MinLat > h.MaxLat || h.MaxLat > 900000000 {
		return api.ErrRange
	}
	if h.Lon < -1800000000 || h.Lon > 1800000000 || h.Lat < -900000000 || h.Lat > 900000000 {
		return api.ErrRange
	}
	return api.OK
}

// try holds what the calls answer of a header against Check's answer that is
// wanted of it.
func try(t *testing.T, what string, h Header, want api.Errno) {
	t.Helper()
	if bad := Check(h); bad != want {
		t.Errorf("%s: Check: %d, want %d", what, int(bad), int(want))
	}
	text := ""
	if want == api.OK {
		text = bytesOf(h)
	}
	if s, bad := Encode(h); s != text || bad != want {
		t.Errorf("%s: Encode: %q, %d, want %q, %d", what, s, int(bad), text, int(want))
	}
	if bad := Laid(h, last); want != api.OK && bad != want {
		t.Errorf("%s: Laid: %d, want %d", what, int(bad), int(want))
	}
}

// tryBytes holds what Decode answers against what is wanted.
func tryBytes(t *testing.T, what, s string, want api.Errno) {
	t.Helper()
	var h Header
	if want == api.OK {
		h = told(s)
	}
	if x, bad := Decode(s); x != h || bad != want {
		t.Errorf("%s: Decode: %+v, %d, want %+v, %d", what, x, int(bad), h, int(want))
	}
}

// with tells a text with other bytes from a place on.
func with(s string, at int, by string) string { return s[:at] + by + s[at+len(by):] }

// long and word are numbers of 8 and of 4 bytes.
func long(x uint64) string { return string(binary.LittleEndian.AppendUint64(nil, x)) }
func word(v int32) string  { return string(binary.LittleEndian.AppendUint32(nil, uint32(v))) }

// part is one of a header's sections, and where it stands in the bytes.
type part struct {
	name string
	at   int
	of   func(h *Header) *Section
}

func parts() []part {
	return []part{
		{"Root", atRoot, func(h *Header) *Section { return &h.Root }},
		{"Meta", atMeta, func(h *Header) *Section { return &h.Meta }},
		{"Leaves", atLeaves, func(h *Header) *Section { return &h.Leaves }},
		{"Data", atData, func(h *Header) *Section { return &h.Data }},
	}
}

func TestHeadersMayBe(t *testing.T) {
	for i, h := range headers() {
		try(t, fmt.Sprint("header ", i), h, api.OK)
	}
}

func TestEncodeOfZero(t *testing.T) {
	if s, bad := Encode(Header{}); s != "PMTiles\x03"+strings.Repeat("\x00", 119) || bad != api.OK {
		t.Errorf("%q, %d", s, int(bad))
	}
}

// TestEachFieldStandsAtItsPlace changes a field of the zero header at a time,
// and looks for the bytes that become others.
func TestEachFieldStandsAtItsPlace(t *testing.T) {
	zero := "PMTiles\x03" + strings.Repeat("\x00", 119)
	degrees := word(-20)
	for _, c := range []struct {
		name string
		h    Header
		at   int
		by   string
	}{
		{"Root.From", Header{Root: Section{From: 0x0807060504}}, 8, "\x04\x05\x06\x07\x08\x00\x00\x00"},
		{"Root.Length", Header{Root: Section{Length: 0x0807060504}}, 16, "\x04\x05\x06\x07\x08\x00\x00\x00"},
		{"Meta.From", Header{Meta: Section{From: 0x0807060504}}, 24, "\x04\x05\x06\x07\x08\x00\x00\x00"},
		{"Meta.Length", Header{Meta: Section{Length: 0x0807060504}}, 32, "\x04\x05\x06\x07\x08\x00\x00\x00"},
		{"Leaves.From", Header{Leaves: Section{From: 0x0807060504}}, 40, "\x04\x05\x06\x07\x08\x00\x00\x00"},
		{"Leaves.Length", Header{Leaves: Section{Length: 0x0807060504}}, 48, "\x04\x05\x06\x07\x08\x00\x00\x00"},
		{"Data.From", Header{Data: Section{From: 0x0807060504}}, 56, "\x04\x05\x06\x07\x08\x00\x00\x00"},
		{"Data.Length", Header{Data: Section{Length: 0x0807060504}}, 64, "\x04\x05\x06\x07\x08\x00\x00\x00"},
		{"Addressed", Header{Addressed: 0x8877665544332211}, 72, "\x11\x22\x33\x44\x55\x66\x77\x88"},
		{"Entries", Header{Entries: 0x8877665544332211}, 80, "\x11\x22\x33\x44\x55\x66\x77\x88"},
		{"Contents", Header{Contents: 0x8877665544332211}, 88, "\x11\x22\x33\x44\x55\x66\x77\x88"},
		{"Clustered", Header{Clustered: true}, 96, "\x01"},
		{"Inner", Header{Inner: 4}, 97, "\x04"},
		{"Outer", Header{Outer: 4}, 98, "\x04"},
		{"Kind", Header{Kind: 5}, 99, "\x05"},
		{"MinZoom and MaxZoom", Header{MinZoom: 7, MaxZoom: 9}, 100, "\x07\x09"},
		{"MaxZoom", Header{MaxZoom: 26}, 101, "\x1a"},
		{"MinLon", Header{MinLon: -20}, 102, degrees},
		{"MinLat", Header{MinLat: -20}, 106, degrees},
		{"MaxLon", Header{MaxLon: 0x04030201}, 110, "\x01\x02\x03\x04"},
		{"MaxLat", Header{MaxLat: 0x04030201}, 114, "\x01\x02\x03\x04"},
		{"Zoom", Header{Zoom: 26}, 118, "\x1a"},
		{"Lon", Header{Lon: -20}, 119, degrees},
		{"Lat", Header{Lat: -20}, 123, degrees},
	} {
		want := with(zero, c.at, c.by)
		if s, bad := Encode(c.h); s != want || bad != api.OK {
			t.Errorf("Encode of %s: %q, %d, want %q", c.name, s, int(bad), want)
		}
		if h, bad := Decode(want); h != c.h || bad != api.OK {
			t.Errorf("Decode of %s: %+v, %d, want %+v", c.name, h, int(bad), c.h)
		}
	}
}

func TestDecodeTellsWhatEncodeWasGiven(t *testing.T) {
	tails := []string{"", "\x00", "x", "PMTiles\x03", strings.Repeat("\xff", 127), strings.Repeat("ab", 70000)}
	for i, h := range headers() {
		s, bad := Encode(h)
		if len(s) != 127 || bad != api.OK {
			t.Errorf("Encode of header %d: %d bytes, %d", i, len(s), int(bad))
			continue
		}
		for _, tail := range tails {
			if x, bad := Decode(s + tail); x != h || bad != api.OK {
				t.Errorf("Decode of header %d and %d bytes: %+v, %d", i, len(tail), x, int(bad))
			}
		}
	}
}

// TestDecodeOfEachByte puts each number into each byte: what Decode takes is
// laid again as the same bytes.
func TestDecodeOfEachByte(t *testing.T) {
	for i, h := range headers() {
		whole := bytesOf(h)
		for at := range 127 {
			for x := range 256 {
				s := with(whole, at, string([]byte{byte(x)}))
				want := checked(told(s))
				switch {
				case s[:7] != "PMTiles":
					want = api.ErrMagic
				case s[7] != 3:
					want = api.ErrVersion
				case s[96] > 1:
					want = api.ErrForm
				}
				tryBytes(t, fmt.Sprintf("header %d with %d at %d", i, x, at), s, want)
				if want != api.OK {
					continue
				}
				if again, bad := Encode(told(s)); again != s || bad != api.OK {
					t.Errorf("header %d with %d at %d: Encode: %q, %d", i, x, at, again, int(bad))
				}
			}
		}
	}
}

func TestCheckOfSections(t *testing.T) {
	for _, c := range []struct {
		s    Section
		want api.Errno
	}{
		{Section{most, 0}, api.OK},
		{Section{most + 1, 0}, api.ErrRange},
		{Section{0, most}, api.OK},
		{Section{0, most + 1}, api.ErrRange},
		{Section{1, most - 1}, api.OK},
		{Section{1, most}, api.ErrRange},
		{Section{most - 1, 1}, api.OK},
		{Section{most, 1}, api.ErrRange},
		{Section{most / 2, most / 2}, api.OK},
		{Section{most / 2, most/2 + 1}, api.ErrRange},
		{Section{most/2 + 1, most / 2}, api.ErrRange},
		{Section{most, most}, api.ErrRange},
		{Section{last, 0}, api.ErrRange},
		{Section{0, last}, api.ErrRange},
		{Section{last, 1}, api.ErrRange},
		{Section{1, last}, api.ErrRange},
		{Section{last, 2}, api.ErrRange},
		{Section{2, last}, api.ErrRange},
		{Section{most, last - most + 1}, api.ErrRange},
		{Section{last - most + 1, most}, api.ErrRange},
		{Section{1 << 63, 1 << 63}, api.ErrRange},
		{Section{last, last}, api.ErrRange},
	} {
		for _, p := range parts() {
			var h Header
			*p.of(&h) = c.s
			what := fmt.Sprint(p.name, " ", c.s)
			try(t, what, h, c.want)
			tryBytes(t, what, with(bytesOf(Header{}), p.at, long(c.s.From)+long(c.s.Length)), c.want)
		}
	}
}

func TestCountsMayBeAny(t *testing.T) {
	for _, x := range []uint64{0, 1, most, most + 1, 1 << 63, last} {
		h := Header{Addressed: x, Entries: x, Contents: x}
		try(t, fmt.Sprint("counts ", x), h, api.OK)
		tryBytes(t, fmt.Sprint("counts ", x), bytesOf(h), api.OK)
	}
}

func TestCheckOfKinds(t *testing.T) {
	for x := range 256 {
		b := uint8(x)
		for _, c := range []struct {
			name string
			h    Header
			most int
		}{
			{"Inner", Header{Inner: b}, 4},
			{"Outer", Header{Outer: b}, 4},
			{"Kind", Header{Kind: b}, 5},
		} {
			want := api.OK
			if x > c.most {
				want = api.ErrKind
			}
			try(t, fmt.Sprint(c.name, " ", x), c.h, want)
			tryBytes(t, fmt.Sprint(c.name, " ", x), bytesOf(c.h), want)
		}
	}
}

func TestCheckOfZooms(t *testing.T) {
	zooms := []int{math.MinInt, -256, -1, 0, 1, 13, 25, 26, 27, 127, 128, 255, 256, 282, 1 << 32, math.MaxInt}
	for _, least := range zooms {
		for _, greatest := range zooms {
			want := api.OK
			if least < 0 || least > greatest || greatest > 26 {
				want = api.ErrRange
			}
			try(t, fmt.Sprint("zooms ", least, " to ", greatest), Header{MinZoom: least, MaxZoom: greatest}, want)
		}
	}
	for _, z := range zooms {
		want := api.OK
		if z < 0 || z > 26 {
			want = api.ErrRange
		}
		try(t, fmt.Sprint("Zoom ", z), Header{Zoom: z}, want)
	}
	for _, z := range []int{0, 5, 6, 7, 26} {
		try(t, fmt.Sprint("Zoom beside the zooms: ", z), Header{MinZoom: 6, MaxZoom: 6, Zoom: z}, api.OK)
	}
	for least := range 256 {
		for _, greatest := range []int{least - 1, least, least + 1, 26} {
			if greatest < 0 || greatest > 255 {
				continue
			}
			want := api.OK
			if least > greatest || greatest > 26 {
				want = api.ErrRange
			}
			s := with(bytesOf(Header{}), 100, string([]byte{byte(least), byte(greatest)}))
			tryBytes(t, fmt.Sprint("zooms ", least, " to ", greatest), s, want)
		}
	}
}

// around tells numbers at, beside and far from the bounds -most and most, and
// such as have the lowest bytes of numbers within.
func around(most int) []int {
	return []int{
		math.MinInt, -1 << 32, -1<<32 - most, -1 << 31, -most - 1, -most, -most + 1, -1, 0, 1,
		most - 1, most, most + 1, 1<<31 - 1, 1 << 31, 1<<32 - most, 1 << 32, 1<<32 + most, math.MaxInt,
	}
}

func TestCheckOfDegrees(t *testing.T) {
	for _, c := range []struct {
		name      string
		most      int
		box       func(least, greatest int) Header
		at        func(x int) Header
		low, high int
		middle    int
	}{
		{
			"Lon", 1800000000,
			func(a, b int) Header { return Header{MinLon: a, MaxLon: b} }, func(x int) Header { return Header{Lon: x} },
			102, 110, 119,
		},
		{
			"Lat", 900000000,
			func(a, b int) Header { return Header{MinLat: a, MaxLat: b} }, func(x int) Header { return Header{Lat: x} },
			106, 114, 123,
		},
	} {
		for _, a := range around(c.most) {
			for _, b := range around(c.most) {
				want := api.OK
				if a < -c.most || a > b || b > c.most {
					want = api.ErrRange
				}
				what := fmt.Sprint(c.name, " from ", a, " to ", b)
				try(t, what, c.box(a, b), want)
				if int(int32(a)) == a && int(int32(b)) == b {
					s := with(with(bytesOf(Header{}), c.low, word(int32(a))), c.high, word(int32(b)))
					tryBytes(t, what, s, want)
				}
			}
			want := api.OK
			if a < -c.most || a > c.most {
				want = api.ErrRange
			}
			what := fmt.Sprint(c.name, " ", a)
			try(t, what, c.at(a), want)
			if int(int32(a)) == a {
				tryBytes(t, what, with(bytesOf(Header{}), c.middle, word(int32(a))), want)
			}
		}
	}
}

func TestDegreesBesideTheBox(t *testing.T) {
	for _, x := range []int{-900000000, -8, 0, 8, 900000000} {
		h := Header{MinLon: -7, MaxLon: 7, MinLat: -7, MaxLat: 7, Lon: x, Lat: -x}
		try(t, fmt.Sprint("the middle ", x), h, api.OK)
	}
}

func TestEnd(t *testing.T) {
	for _, c := range []struct {
		s    Section
		want uint64
	}{
		{Section{}, 0},
		{Section{127, 25}, 152},
		{Section{127, 0}, 127},
		{Section{0, 25}, 25},
		{Section{most, most}, 2 * most},
		{Section{last, 0}, last},
		{Section{0, last}, last},
		{Section{last, 1}, 0},
		{Section{1, last}, 0},
		{Section{last, 2}, 1},
		{Section{last, last}, last - 1},
		{Section{1 << 63, 1 << 63}, 0},
	} {
		if x := c.s.End(); x != c.want {
			t.Errorf("End of %v: %d, want %d", c.s, x, c.want)
		}
	}
}

// fault is what spoils a header, or its bytes, and the error that it brings.
type fault struct {
	name  string
	spoil func(h *Header)
	want  api.Errno
}

// faults tells what Check refuses, in the order of its errors.
func faults() []fault {
	return []fault{
		{"Root's From", func(h *Header) { h.Root.From = most + 1 }, api.ErrRange},
		{"Meta's Length", func(h *Header) { h.Meta.Length = most + 1 }, api.ErrRange},
		{"Leaves' sum", func(h *Header) { h.Leaves.Length = most }, api.ErrRange},
		{"Data's sum", func(h *Header) { h.Data.Length = last }, api.ErrRange},
		{"Inner", func(h *Header) { h.Inner = 5 }, api.ErrKind},
		{"Outer", func(h *Header) { h.Outer = 5 }, api.ErrKind},
		{"Kind", func(h *Header) { h.Kind = 6 }, api.ErrKind},
		{"MinZoom", func(h *Header) { h.MinZoom = h.MaxZoom + 1 }, api.ErrRange},
		{"MaxZoom", func(h *Header) { h.MaxZoom = 27 }, api.ErrRange},
		{"Zoom", func(h *Header) { h.Zoom = 27 }, api.ErrRange},
		{"MinLon", func(h *Header) { h.MinLon = -1800000001 }, api.ErrRange},
		{"MinLat", func(h *Header) { h.MinLat = -900000001 }, api.ErrRange},
		{"MaxLon", func(h *Header) { h.MaxLon = 1800000001 }, api.ErrRange},
		{"MaxLat", func(h *Header) { h.MaxLat = 900000001 }, api.ErrRange},
		{"Lon", func(h *Header) { h.Lon = 1800000001 }, api.ErrRange},
		{"Lat", func(h *Header) { h.Lat = 900000001 }, api.ErrRange},
	}
}

func TestCheckTellsTheFirst(t *testing.T) {
	plain := headers()[1]
	for i, first := range faults() {
		for _, second := range faults()[i:] {
			h := plain
			second.spoil(&h)
			first.spoil(&h)
			what := first.name + ", then " + second.name
			try(t, what, h, first.want)
			tryBytes(t, what, bytesOf(h), first.want)
		}
	}
}

// spoilt is what spoils bytes, and the error that it brings.
type spoilt struct {
	name  string
	spoil func(s string) string
	want  api.Errno
}

// spoils tells what Decode refuses, in the order of its errors.
func spoils() []spoilt {
	put := func(at int, by string) func(string) string {
		return func(s string) string { return with(s, at, by) }
	}
	return []spoilt{
		{"126 bytes", func(s string) string { return s[:126] }, api.ErrShort},
		{"the first byte", put(0, "p"), api.ErrMagic},
		{"the last letter", put(6, "S"), api.ErrMagic},
		{"version 2", put(7, "\x02"), api.ErrVersion},
		{"version 4", put(7, "\x04"), api.ErrVersion},
		{"version 0", put(7, "\x00"), api.ErrVersion},
		{"version 255", put(7, "\xff"), api.ErrVersion},
		{"Clustered 2", put(96, "\x02"), api.ErrForm},
		{"Clustered 255", put(96, "\xff"), api.ErrForm},
		{"Root's From", put(8, long(last)), api.ErrRange},
		{"Data's Length", put(64, long(last)), api.ErrRange},
		{"Inner", put(97, "\x05"), api.ErrKind},
		{"Kind", put(99, "\xff"), api.ErrKind},
		{"MinZoom", put(100, "\x1b"), api.ErrRange},
		{"Zoom", put(118, "\xff"), api.ErrRange},
		{"MinLon", put(102, word(1800000000)), api.ErrRange},
		{"Lat", put(123, word(-900000001)), api.ErrRange},
	}
}

func TestDecodeTellsTheFirst(t *testing.T) {
	whole := bytesOf(headers()[1])
	for i, first := range spoils() {
		for _, second := range spoils()[i:] {
			if first.want == api.ErrShort && second.want == api.ErrShort {
				tryBytes(t, first.name, first.spoil(whole), first.want)
				continue
			}
			s := first.spoil(second.spoil(whole))
			tryBytes(t, first.name+", then "+second.name, s, first.want)
			if first.want != api.ErrShort {
				tryBytes(t, first.name+", then "+second.name+", and more", s+"more", first.want)
			}
		}
	}
}

func TestDecodeOfEachLength(t *testing.T) {
	for i, h := range headers() {
		s := bytesOf(h) + "ab"
		for n := range 127 {
			tryBytes(t, fmt.Sprint(n, " bytes of header ", i), s[:n], api.ErrShort)
		}
		for n := 127; n <= len(s); n++ {
			tryBytes(t, fmt.Sprint(n, " bytes of header ", i), s[:n], api.OK)
		}
	}
	for n := range 127 {
		tryBytes(t, fmt.Sprint(n, " other bytes"), strings.Repeat("\xff", n), api.ErrShort)
	}
	for _, n := range []int{127, 128, 1000} {
		tryBytes(t, fmt.Sprint(n, " other bytes"), strings.Repeat("\xff", n), api.ErrMagic)
		tryBytes(t, fmt.Sprint("PMTiles behind a byte, and ", n), "\x00PMTiles\x03"+strings.Repeat("\x00", n), api.ErrMagic)
	}
}

// tryLaid holds what Laid answers against what is wanted.
func tryLaid(t *testing.T, what string, h Header, n uint64, want api.Errno) {
	t.Helper()
	if bad := Laid(h, n); bad != want {
		t.Errorf("%s, in %d bytes: Laid: %d, want %d", what, n, int(bad), int(want))
	}
}

func TestLaidOfLength(t *testing.T) {
	plain, close, none := headers()[1], headers()[2], headers()[3]
	far := Header{Root: Section{127, 0}, Meta: Section{127, 1}, Leaves: Section{128, 0}, Data: Section{200, most - 200}}
	for name, h := range map[string]Header{"with room between": plain, "close": close, "none": none, "far": far} {
		end := h.Data.From + h.Data.Length
		for _, n := range []uint64{end, end + 1, most + 1, last} {
			tryLaid(t, name, h, n, api.OK)
		}
		for _, n := range []uint64{0, 1, 126, h.Data.From - 1, end - 1} {
			tryLaid(t, name, h, n, api.ErrRange)
		}
	}
}

func TestLaidOfOrder(t *testing.T) {
	for _, length := range []uint64{0, 1, 10} {
		for _, room := range []uint64{0, 1, 100} {
			at := uint64(127) + room
			var h Header
			for _, p := range parts() {
				*p.of(&h) = Section{at, length}
				at += length + room
			}
			what := fmt.Sprint("lengths ", length, ", room ", room)
			tryLaid(t, what, h, last, api.OK)
			tryLaid(t, what, h, h.Data.End(), api.OK)
			end := uint64(127)
			for _, p := range parts() {
				moved := h
				s := p.of(&moved)
				s.From = end
				tryLaid(t, what+", "+p.name+" at the End ahead", moved, last, api.OK)
				s.From = end - 1
				tryLaid(t, what+", "+p.name+" one below", moved, last, api.ErrOrder)
				s.From = 0
				tryLaid(t, what+", "+p.name+" at 0", moved, last, api.ErrOrder)
				end = p.of(&h).End()
			}
		}
	}
	tryLaid(t, "the zero header", Header{}, last, api.ErrOrder)
	tryLaid(t, "the zero header", Header{}, 0, api.ErrOrder)
}

// TestLaidAsksTheSectionAhead has sections that are ahead of one that is not
// the next one.
func TestLaidAsksTheSectionAhead(t *testing.T) {
	h := headers()[2]
	h.Root, h.Data = h.Data, h.Root
	tryLaid(t, "Root and Data the other way round", h, last, api.ErrOrder)
	h = headers()[2]
	h.Meta, h.Leaves = h.Leaves, h.Meta
	tryLaid(t, "Meta and Leaves the other way round", h, last, api.ErrOrder)
	h = headers()[2]
	h.Leaves = Section{127, 0}
	tryLaid(t, "Leaves empty, and ahead", h, last, api.ErrOrder)
	h = headers()[2]
	h.Root.Length += 1000
	tryLaid(t, "Root over all", h, last, api.ErrOrder)
}

func TestLaidTellsTheFirst(t *testing.T) {
	unlaid := headers()[1]
	unlaid.Root.From = 126
	plain := headers()[1]
	for _, f := range faults() {
		h := plain
		f.spoil(&h)
		tryLaid(t, f.name, h, last, f.want)
		tryLaid(t, f.name+", and no room", h, 0, f.want)
		h = unlaid
		f.spoil(&h)
		tryLaid(t, f.name+", and no order", h, last, f.want)
		tryLaid(t, f.name+", and neither", h, 0, f.want)
	}
	for _, n := range []uint64{0, 126, unlaid.Data.End() - 1} {
		tryLaid(t, "neither order nor room", unlaid, n, api.ErrOrder)
	}
	late := headers()[2]
	late.Data.From--
	tryLaid(t, "Data too soon, and no room", late, 0, api.ErrOrder)
	tryLaid(t, "Data too soon, and no room", late, late.Data.End()-1, api.ErrOrder)
}
