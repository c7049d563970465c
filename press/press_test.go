package press

import (
	"encoding/binary"
	"fmt"
	"maps"
	"math"
	"slices"
	"strconv"
	"strings"
	"testing"
	"unsafe"

	"gazetteer/api"
	"gazetteer/chart"
	"gazetteer/dirs"
	"gazetteer/entry"
	"gazetteer/header"
	"gazetteer/layout"
	"gazetteer/leaves"
	"gazetteer/merge"
)

const (
	count = 6004799503160661 // how many tiles there are
	least = 512              // the least budget
	most  = 16257            // the greatest one
)

// most bytes of a content, and of notes.
const (
	mostTile = 65536
	mostMeta = 4096
)

func TestLimits(t *testing.T) {
	if api.MinBudget != least || api.MaxBudget != most || api.First != 127+most || api.MaxMeta != mostMeta || api.MaxTile != mostTile {
		t.Error("the limits of these tests are others than the program's")
	}
}

// model is a chart: the bytes of each tile.
type model map[uint64]string

// String tells what an error's line says of the model.
func (m model) String() string {
	return short(fmt.Sprintf("%d tiles %.20v", len(m), map[uint64]string(m)))
}

// chart makes the model's chart.
func (m model) chart(t *testing.T) chart.Chart {
	t.Helper()
	var l []chart.Item
	for id, s := range m {
		l = append(l, chart.Item{ID: id, Text: s})
	}
	c, bad := chart.Of(l)
	if bad != api.OK {
		t.Fatalf("a chart of %d tiles: error %d", len(l), int(bad))
	}
	return c
}

// rows tells the entries, and all contents, each once, by the words of layer 13.
func (m model) rows() ([]entry.Entry, string) {
	places := map[string]uint64{}
	var data strings.Builder
	var l []entry.Entry
	for _, id := range slices.Sorted(maps.Keys(m)) {
		s := m[id]
		if _, is := places[s]; !is {
			places[s] = uint64(data.Len())
			data.WriteString(s)
		}
		if ahead, is := m[id-1]; is && ahead == s {
			l[len(l)-1].Run++
		} else {
			l = append(l, entry.Entry{ID: id, Offset: places[s], Length: uint32(len(s)), Run: 1})
		}
	}
	return l, data.String()
}

// contents tells how many unlike contents there are.
func (m model) contents() int {
	unlike := map[string]bool{}
	for _, s := range m {
		unlike[s] = true
	}
	return len(unlike)
}

// zooms tells the zooms of the first and the last tile; 0 and 0 of none.
func (m model) zooms() (int, int) {
	if len(m) == 0 {
		return 0, 0
	}
	ids := slices.Sorted(maps.Keys(m))
	return zoom(ids[0]), zoom(ids[len(ids)-1])
}

// zoom tells an identifier's zoom.
func zoom(id uint64) int {
	z := 0
	for n := uint64(1); id >= n; n *= 4 {
		id -= n
		z++
	}
	return z
}

// bytesOf tells the bytes of a directory, by the words of layer 8.
func bytesOf(l []entry.Entry) string {
	b := binary.AppendUvarint(nil, uint64(len(l)))
	var id uint64
	for _, e := range l {
		b = binary.AppendUvarint(b, e.ID-id)
		id = e.ID
	}
	for _, e := range l {
		b = binary.AppendUvarint(b, uint64(e.Run))
	}
	for _, e := range l {
		b = binary.AppendUvarint(b, uint64(e.Length))
	}
	for i, e := range l {
		if i > 0 && e.Offset == l[i-1].Offset+uint64(l[i-1].Length) {
			b = append(b, 0)
		} else {
			b = binary.AppendUvarint(b, e.Offset+1)
		}
	}
	return string(b)
}

// split tells the bytes of a row's root and those of its leaves, by the words of
// layer 14. (No leaf of a chart is too long.)
func split(l []entry.Entry, budget int) (string, string) {
	if root := bytesOf(l); len(root) <= budget {
		return root, ""
	}
	for size := 1; ; size *= 2 {
		var pointers []entry.Entry
		var under strings.Builder
		for piece := range slices.Chunk(l, size) {
			s := bytesOf(piece)
			pointers = append(pointers, entry.Entry{ID: piece[0].ID, Offset: uint64(under.Len()), Length: uint32(len(s))})
			under.WriteString(s)
		}
		if root := bytesOf(pointers); len(root) <= budget {
			return root, under.String()
		}
	}
}

// head tells Head's answer, by the words of the chapter.
func (m model) head(kind uint8) header.Header {
	l, _ := m.rows()
	first, last := m.zooms()
	return header.Header{
		Addressed: uint64(len(m)), Entries: uint64(len(l)), Contents: uint64(m.contents()),
		Clustered: true, Inner: 1, Outer: 1, Kind: kind, MinZoom: first, MaxZoom: last,
		MinLon: -1800000000, MinLat: -850511287, MaxLon: 1800000000, MaxLat: 850511287,
		Zoom: first, Lon: 0, Lat: 0,
	}
}

// archive tells Press' answer of a plan that may be, by the words of the chapter
// and those of layers 6 and 15.
func (m model) archive(p Plan) string {
	l, data := m.rows()
	root, under := split(l, p.Budget)
	parts := []string{root, p.Note, under, data}
	b := []byte("PMTiles\x03")
	end := uint64(127)
	for _, part := range parts {
		b = binary.LittleEndian.AppendUint64(b, end)
		b = binary.LittleEndian.AppendUint64(b, uint64(len(part)))
		end += uint64(len(part))
	}
	for _, n := range []int{len(m), len(l), m.contents()} {
		b = binary.LittleEndian.AppendUint64(b, uint64(n))
	}
	first, last := m.zooms()
	b = append(b, 1, 1, 1, p.Kind, byte(first), byte(last))
	for _, degrees := range []int32{-1800000000, -850511287, 1800000000, 850511287} {
		b = binary.LittleEndian.AppendUint32(b, uint32(degrees))
	}
	b = append(b, byte(first), 0, 0, 0, 0, 0, 0, 0, 0)
	return string(b) + strings.Join(parts, "")
}

// short tells a text, or as much of it as an error's line has room for.
func short(s string) string { return s[:min(len(s), 300)] }

// tryPress holds Press and Head against the chapter's words, and the archive
// against what P18.4 says of it.
func tryPress(t *testing.T, m model, p Plan) {
	t.Helper()
	c := m.chart(t)
	if got, want := Head(c, p.Kind), m.head(p.Kind); got != want {
		t.Fatalf("Head of %v, %d: %+v, want %+v", m, p.Kind, got, want)
	}
	s, bad := Press(c, p)
	if want := m.archive(p); s != want || bad != api.OK {
		t.Fatalf("Press(%v, %.99v): %d bytes %q, error %d; want %d bytes %q", m, p, len(s), short(s), int(bad), len(want), short(want))
	}
	if bad := Check(p); bad != api.OK {
		t.Fatalf("Check(%.99v): %d", p, int(bad))
	}
	tryForm(t, s, p)
	tryAgain(t, c, s, p)
}

// tryForm holds where the parts of an archive stand, and that each content
// stands once.
func tryForm(t *testing.T, s string, p Plan) {
	t.Helper()
	h, parts, bad := layout.Cut(s)
	n := uint64(len(s))
	if bad != api.OK || header.Laid(h, n) != api.OK || h.Data.End() != n || h.Root.From != 127 || s != s[:127]+strings.Join(parts[:], "") {
		t.Fatalf("an archive of %d bytes: error %d, %+v", n, int(bad), h)
	}
	if len(parts[0]) > p.Budget || h.Root.End() > 16384 || parts[1] != p.Note {
		t.Fatalf("a root of %d bytes, with a budget of %d; notes %q, of %q", len(parts[0]), p.Budget, parts[1], p.Note)
	}
	l, bad := joined(parts)
	if bad != api.OK {
		t.Fatalf("the directories of an archive of %d bytes: error %d", n, int(bad))
	}
	places := map[string]uint64{}
	sum := 0
	for _, e := range l {
		content := parts[3][e.Offset:][:e.Length]
		at, is := places[content]
		if is && at != e.Offset {
			t.Fatalf("%.20q stands at %d and at %d", content, at, e.Offset)
		}
		if !is {
			sum += len(content)
		}
		places[content] = e.Offset
	}
	if sum != len(parts[3]) || uint64(len(places)) != h.Contents {
		t.Fatalf("%d contents of %d bytes, in %d bytes; the header tells of %d", len(places), sum, len(parts[3]), h.Contents)
	}
}

// joined tells all entries of an archive's parts.
func joined(parts [4]string) ([]entry.Entry, api.Errno) {
	root, _, bad := dirs.Decode(parts[0])
	if bad != api.OK {
		return nil, bad
	}
	return leaves.Join(root, parts[2])
}

// tryAgain holds that the chart comes back of its archive (Theorem 4).
func tryAgain(t *testing.T, c chart.Chart, s string, p Plan) {
	t.Helper()
	_, parts, _ := layout.Cut(s)
	l, _ := joined(parts)
	again, bad := merge.Back(l, parts[3])
	if bad != api.OK || !chart.Same(c, again) || !merge.Least(l) {
		t.Fatalf("of an archive of %d bytes %d tiles come back, error %d; want %d", len(s), again.Len(), int(bad), c.Len())
	}
}

// tryError holds that a plan makes no archive, of any chart.
func tryError(t *testing.T, p Plan, want api.Errno) {
	t.Helper()
	if bad := Check(p); bad != want {
		t.Fatalf("Check(%d, %d, %.99q): error %d, want %d", p.Budget, p.Kind, p.Note, int(bad), int(want))
	}
	for _, m := range []model{{}, {0: "x"}, {4: "sea", 5: "sea", 9: "land"}} {
		s, bad := Press(m.chart(t), p)
		if bad != want || (s == "") != (want != api.OK) {
			t.Fatalf("Press of %d tiles by (%d, %d, %.99q): %d bytes, error %d, want %d", len(m), p.Budget, p.Kind, p.Note, len(s), int(bad), int(want))
		}
	}
}

// P18.1: all budgets about and between the limits, and some far off.
func TestCheckBudget(t *testing.T) {
	for budget := -3; budget <= most+600; budget++ {
		want := api.OK
		if budget < 512 || budget > 16257 {
			want = api.ErrBudget
		}
		if bad := Check(Plan{Budget: budget, Note: "{}"}); bad != want {
			t.Fatalf("a budget of %d: error %d, want %d", budget, int(bad), int(want))
		}
	}
	for _, budget := range []int{math.MinInt, -512, -1, 0, 1, 127, 511, 16258, 16384, 65536, 512 + 1<<16, 512 + 1<<32, math.MaxInt} {
		tryError(t, Plan{Budget: budget, Note: "{}"}, api.ErrBudget)
	}
	for _, budget := range []int{512, 513, 16256, 16257} {
		tryError(t, Plan{Budget: budget, Note: "{}"}, api.OK)
	}
}

// P18.1: all kinds.
func TestCheckKind(t *testing.T) {
	for kind := range 256 {
		want := api.OK
		if kind > 5 {
			want = api.ErrKind
		}
		tryError(t, Plan{Budget: 600, Kind: uint8(kind), Note: "{}"}, want)
	}
}

// note is notes, and what is wrong with them.
type note struct {
	s    string
	want api.Errno
}

// someNotes are right and wrong ones.
func someNotes() []note {
	return []note{
		{"{}", api.OK},
		{" \t\r\n{ }\n", api.OK},
		{`{"name":"x"}`, api.OK},
		{`{ "b" : [ 1, {"c":null} ], "a" : -5, "\u0061a" : "\u20ac" }`, api.OK},
		{`{"name":{}}`, api.OK},
		{"{" + strings.Repeat(" ", mostMeta-2) + "}", api.OK},
		{`{"a":"` + strings.Repeat("x", mostMeta-8) + `"}`, api.OK},
		{`{"a":` + strings.Repeat("[", 3) + strings.Repeat("]", 3) + "}", api.OK},
		// What Take refuses.
		{"", api.ErrShort},
		{" ", api.ErrShort},
		{"{", api.ErrShort},
		{`{"a"`, api.ErrShort},
		{`{"a":1`, api.ErrShort},
		{"tru", api.ErrShort},
		{"{}x", api.ErrForm},
		{"{},", api.ErrForm},
		{"{}{}", api.ErrForm},
		{"{a:1}", api.ErrForm},
		{`{"a":01}`, api.ErrForm},
		{"{\"a\":\"\xff\"}", api.ErrForm},
		{"\x00{}", api.ErrForm},
		{`{"a":9007199254740992}`, api.ErrOver},
		{"9007199254740992", api.ErrOver},
		{`{"a":` + strings.Repeat("[", 4) + strings.Repeat("]", 4) + "}", api.ErrDeep},
		{"[[[[[", api.ErrDeep},
		{`{"a":[` + strings.Repeat("1,", 64) + "1]}", api.ErrMany},
		{"[" + strings.Repeat("1,", 64) + "1]", api.ErrMany},
		{`{"a":1,"a":2}`, api.ErrTwice},
		{`{"a":1,"\u0061":2}`, api.ErrTwice},
		{"{" + strings.Repeat(" ", mostMeta-1) + "}", api.ErrLong},
		{strings.Repeat("x", mostMeta+1), api.ErrLong},
		{strings.Repeat("1", mostMeta+1), api.ErrLong},
		{strings.Repeat("{}", mostMeta), api.ErrLong},
		// What it takes, but no object.
		{"1", api.ErrForm},
		{"0", api.ErrForm},
		{" null ", api.ErrForm},
		{"true", api.ErrForm},
		{"false", api.ErrForm},
		{`""`, api.ErrForm},
		{`"{}"`, api.ErrForm},
		{"[]", api.ErrForm},
		{"[{}]", api.ErrForm},
		{`[{"name":"x"}]`, api.ErrForm},
		{"[" + strings.Repeat(" ", mostMeta-2) + "]", api.ErrForm},
	}
}

// P18.1, P18.3: notes, right and wrong, with each budget and kind, right and
// wrong: the budget is told ahead of the kind, and the kind ahead of the notes.
func TestCheckOrder(t *testing.T) {
	for _, x := range someNotes() {
		for _, budget := range []int{math.MinInt, 0, 511, 512, 9999, 16257, 16258, math.MaxInt} {
			for _, kind := range []uint8{0, 1, 5, 6, 255} {
				want := x.want
				if kind > 5 {
					want = api.ErrKind
				}
				if budget < 512 || budget > 16257 {
					want = api.ErrBudget
				}
				tryError(t, Plan{Budget: budget, Kind: kind, Note: x.s}, want)
			}
		}
	}
	tryError(t, Plan{}, api.ErrBudget)
}

// P18.3: notes stand in the archive just as they are, blanks and all.
func TestPressNotes(t *testing.T) {
	for _, x := range someNotes() {
		if x.want != api.OK {
			continue
		}
		for _, m := range []model{{}, {0: "x"}, {1: "{}", 5: "land", 6: "land"}} {
			tryPress(t, m, Plan{Budget: 512, Kind: 2, Note: x.s})
		}
	}
}

// P18.3: the chapter's example, which is the first of the whole, written out,
// and an archive of no tile.
func TestPressExample(t *testing.T) {
	const degrees = "\x00\x2e\xb6\x94" + "\x49\x3a\x4e\xcd" + "\x00\xd2\x49\x6b" + "\xb7\xc5\xb1\x32"
	for _, x := range []struct {
		m    model
		want string
	}{
		{model{0: "x"}, "PMTiles\x03" +
			"\x7f\x00\x00\x00\x00\x00\x00\x00" + "\x05\x00\x00\x00\x00\x00\x00\x00" +
			"\x84\x00\x00\x00\x00\x00\x00\x00" + "\x02\x00\x00\x00\x00\x00\x00\x00" +
			"\x86\x00\x00\x00\x00\x00\x00\x00" + "\x00\x00\x00\x00\x00\x00\x00\x00" +
			"\x86\x00\x00\x00\x00\x00\x00\x00" + "\x01\x00\x00\x00\x00\x00\x00\x00" +
			"\x01\x00\x00\x00\x00\x00\x00\x00" + "\x01\x00\x00\x00\x00\x00\x00\x00" + "\x01\x00\x00\x00\x00\x00\x00\x00" +
			"\x01\x01\x01\x03\x00\x00" + degrees + "\x00" + "\x00\x00\x00\x00" + "\x00\x00\x00\x00" +
			"\x01\x00\x01\x01\x01" + "{}" + "x"},
		{model{}, "PMTiles\x03" +
			"\x7f\x00\x00\x00\x00\x00\x00\x00" + "\x01\x00\x00\x00\x00\x00\x00\x00" +
			"\x80\x00\x00\x00\x00\x00\x00\x00" + "\x02\x00\x00\x00\x00\x00\x00\x00" +
			"\x82\x00\x00\x00\x00\x00\x00\x00" + "\x00\x00\x00\x00\x00\x00\x00\x00" +
			"\x82\x00\x00\x00\x00\x00\x00\x00" + "\x00\x00\x00\x00\x00\x00\x00\x00" +
			"\x00\x00\x00\x00\x00\x00\x00\x00" + "\x00\x00\x00\x00\x00\x00\x00\x00" + "\x00\x00\x00\x00\x00\x00\x00\x00" +
			"\x01\x01\x01\x03\x00\x00" + degrees + "\x00" + "\x00\x00\x00\x00" + "\x00\x00\x00\x00" +
			"\x00" + "{}"},
	} {
		for _, budget := range []int{512, 16257} {
			s, bad := Press(x.m.chart(t), Plan{Budget: budget, Kind: 3, Note: "{}"})
			if s != x.want || bad != api.OK {
				t.Errorf("Press(%v): %d bytes %q, error %d; want %d bytes %q", x.m, len(s), s, int(bad), len(x.want), x.want)
			}
			tryPress(t, x.m, Plan{Budget: budget, Kind: 3, Note: "{}"})
		}
	}
	if s, _ := Press(model{0: "x"}.chart(t), Plan{Budget: 512, Note: "{}"}); len(s) != 135 {
		t.Errorf("%d bytes, want 135", len(s))
	}
	// The zero chart has no tile.
	if s, bad := Press(chart.Chart{}, Plan{Budget: 512, Note: "{}"}); s != (model{}).archive(Plan{Budget: 512, Note: "{}"}) || bad != api.OK {
		t.Errorf("the zero chart: %q, error %d", s, int(bad))
	}
}

// P18.2: Head tells each kind as it is, also one that may not be.
func TestHeadKinds(t *testing.T) {
	for kind := range 256 {
		for _, m := range []model{{}, {3: "x", 4: "x", 9: "y"}} {
			if got, want := Head(m.chart(t), uint8(kind)), m.head(uint8(kind)); got != want {
				t.Errorf("Head of %v, %d: %+v, want %+v", m, kind, got, want)
			}
		}
	}
	if got, want := Head(chart.Chart{}, 7), (model{}).head(7); got != want {
		t.Errorf("Head of the zero chart: %+v, want %+v", got, want)
	}
}

// P18.2: Head of a chart, written out.
func TestHead(t *testing.T) {
	m := model{1: "sea", 2: "sea", 4: "land", 5: "sea", 85: "ice", 86: "ice", 87: "sea"}
	want := header.Header{
		Addressed: 7, Entries: 5, Contents: 3, Clustered: true, Inner: 1, Outer: 1, Kind: 4, MinZoom: 1, MaxZoom: 4,
		MinLon: -1800000000, MinLat: -850511287, MaxLon: 1800000000, MaxLat: 850511287, Zoom: 1,
	}
	if got := Head(m.chart(t), 4); got != want {
		t.Errorf("%+v, want %+v", got, want)
	}
}

// P18.2, P18.3: the first and the last tile of each zoom, alone, and with those
// of each other zoom.
func TestZooms(t *testing.T) {
	var ends []uint64
	for from, n := uint64(0), uint64(1); from < count; from, n = from+n, n*4 {
		ends = append(ends, from, from+n-1)
	}
	if len(ends) != 54 || ends[53] != count-1 {
		t.Fatal(ends)
	}
	for i, a := range ends {
		for j, b := range ends[i:] {
			tryPress(t, model{a: "first", b: "last"}, Plan{Budget: 512 + i, Kind: uint8(j % 6), Note: "{}"})
			tryPress(t, model{a: "same", b: "same"}, Plan{Budget: 512 + j, Kind: uint8(i % 6), Note: "{}"})
		}
	}
}

// P18.2, P18.3, P18.4: all charts of six tiles in a row, each of which is not
// there or has one of three contents.
func TestPressSmallCharts(t *testing.T) {
	texts := []string{"", "a", "ab", "ba"}
	for i := range 4 * 4 * 4 * 4 * 4 * 4 {
		m := model{}
		for id, left := uint64(0), i; left > 0; id, left = id+1, left/4 {
			if s := texts[left%4]; s != "" {
				m[id] = s
			}
		}
		tryPress(t, m, Plan{Budget: 512 + i, Kind: uint8(i % 6), Note: `{"i":` + strconv.Itoa(i) + "}"})
	}
}

// fullCharts tells charts of so many tiles: with one content, with two in turn,
// in runs, and with unlike ones, near and far apart.
func fullCharts(n int) []model {
	contents := []func(i int) string{
		func(i int) string { return "one" },
		func(i int) string { return strconv.Itoa(i % 2) },
		func(i int) string { return "run " + strconv.Itoa(i/7%5) },
		func(i int) string { return "tile " + strconv.Itoa(i) },
	}
	places := []func(i uint64) uint64{
		func(i uint64) uint64 { return i },
		func(i uint64) uint64 { return 2*i + 1 },
		func(i uint64) uint64 { return count - 1 - i*i },
		func(i uint64) uint64 { return i << 41 },
	}
	var all []model
	for _, content := range contents {
		for _, place := range places {
			m := model{}
			for i := range n {
				m[place(uint64(i))] = content(i)
			}
			all = append(all, m)
		}
	}
	return all
}

// P18.3, P18.4: charts of up to as many tiles as there may be, with roots that
// hold all entries, and with leaves of many sizes.
func TestPressFullCharts(t *testing.T) {
	for _, n := range []int{100, 400, 1500, 2047, 2048} {
		for _, m := range fullCharts(n) {
			for _, budget := range []int{512, 513, 700, 1024, 4096, 8000, 16256, 16257} {
				tryPress(t, m, Plan{Budget: budget, Kind: 1, Note: `{"name":"full"}`})
			}
		}
	}
}

// sized tells a chart of n tiles, whose row has so many bytes as a directory.
func sized(t *testing.T, n, size int) model {
	t.Helper()
	left := size - len(binary.AppendUvarint(nil, uint64(n))) - 4*n
	m := model{}
	var id uint64
	for range n {
		more := min(left, 5)
		left -= more
		// The step has one byte, and so many more; no tile stands beside another.
		id += 2 << (7 * more)
		m[id] = "x"
	}
	if l, _ := m.rows(); left != 0 || len(bytesOf(l)) != size || dirs.Size(l) != size || len(l) != n {
		t.Fatalf("%d entries of %d bytes, want %d of %d", len(l), dirs.Size(l), n, size)
	}
	return m
}

// P18.3, P18.4: a row stands in the root, if it is just as long as the budget,
// and in leaves, if it is one byte longer.
func TestPressAtBudget(t *testing.T) {
	for _, x := range []struct{ n, size int }{
		{64, 511}, {127, 511}, {127, 512}, {100, 512}, {127, 513}, {64, 513}, {128, 514}, {300, 2000}, {1000, 8999},
		{2048, 8194}, {2048, 16255}, {2048, 16256}, {2048, 16257}, {1900, 16257}, {2048, 16258}, {1900, 16258}, {2047, 16259}, {2048, 18434},
	} {
		m := sized(t, x.n, x.size)
		for budget := x.size - 2; budget <= x.size+2; budget++ {
			p := Plan{Budget: budget, Kind: 5, Note: "{}"}
			if budget < least || budget > most {
				if s, bad := Press(m.chart(t), p); s != "" || bad != api.ErrBudget {
					t.Errorf("%d entries, a budget of %d: %d bytes, error %d", x.n, budget, len(s), int(bad))
				}
				continue
			}
			tryPress(t, m, p)
			s, _ := Press(m.chart(t), p)
			h, _, _ := layout.Cut(s)
			if isWhole := h.Leaves.Length == 0; isWhole != (x.size <= budget) {
				t.Errorf("%d entries of %d bytes, a budget of %d: %d bytes of leaves", x.n, x.size, budget, h.Leaves.Length)
			}
			if x.size == most && budget == most && h.Root.End() != 16384 {
				t.Errorf("the root ends at %d", h.Root.End())
			}
		}
	}
}

// P18.3: each budget, up to those with which a chart needs no leaves.
func TestPressEachBudget(t *testing.T) {
	m := model{}
	for i := range uint64(300) {
		m[i*i*3] = "tile " + strconv.FormatUint(i%90, 10)
	}
	l, _ := m.rows()
	size := len(bytesOf(l))
	if size < 1000 || size > 2000 {
		t.Fatalf("a row of %d bytes", size)
	}
	for budget := least; budget <= size+50; budget++ {
		tryPress(t, m, Plan{Budget: budget, Note: "{}"})
	}
}

// P18.3, P18.4: contents of as many bytes as there may be, unlike ones and one
// twice, with bytes of all sorts.
func TestPressLongContents(t *testing.T) {
	long := strings.Repeat("\x00\xff\x80tile", mostTile/7+1)[:mostTile-4]
	m := model{}
	for i := range 300 {
		m[uint64(i*i)] = long + strconv.Itoa(1000+i)
	}
	m[7], m[8], m[1<<50] = m[0], m[4], "PMTiles"
	tryPress(t, m, Plan{Budget: 512, Kind: 2, Note: "{}"})
	tryPress(t, m, Plan{Budget: 16257, Kind: 2, Note: "{}"})
}

// P18.4: a chart and a plan have one archive, however the chart was made, and
// whatever was pressed ahead; the chart is as it was behind that.
func TestPressOneChart(t *testing.T) {
	items := []chart.Item{{ID: 4, Text: "land"}, {ID: 2, Text: "sea"}, {ID: 3, Text: "sea"}, {ID: 9, Text: "land"}}
	a, _ := chart.Of(items)
	b, _ := chart.Chart{}.Put(3, "ice")
	for _, it := range slices.Backward(items) {
		b, _ = b.Put(it.ID, it.Text)
	}
	b, _ = b.Put(1, "gone")
	b = b.Del(1)
	p := Plan{Budget: 512, Kind: 1, Note: "{}"}
	want, _ := Press(a, p)
	for _, c := range []chart.Chart{b, a, b} {
		if s, bad := Press(c, p); s != want || bad != api.OK || Head(c, 1) != Head(a, 1) {
			t.Errorf("%q, error %d; want %q", s, int(bad), want)
		}
		Press(chart.Chart{}, p)
		Press(c, Plan{})
	}
	if !chart.Same(a, b) || a.Len() != 4 {
		t.Error(a.Items(), b.Items())
	}
	more, _ := a.Put(5, "sea")
	for _, other := range []func() (string, api.Errno){
		func() (string, api.Errno) { return Press(more, p) },
		func() (string, api.Errno) { return Press(a, Plan{Budget: 512, Kind: 2, Note: "{}"}) },
		func() (string, api.Errno) { return Press(a, Plan{Budget: 512, Kind: 1, Note: "{} "}) },
	} {
		if s, bad := other(); s == want || bad != api.OK {
			t.Errorf("another chart or plan: %q, error %d", s, int(bad))
		}
	}
}

// Rule 3: an archive is new memory.
func TestNothingShared(t *testing.T) {
	c := model{1: "a", 2: "b", 3: "a"}.chart(t)
	p := Plan{Budget: 512, Note: "{}"}
	s, _ := Press(c, p)
	other, _ := Press(c, p)
	if s != other || unsafe.StringData(s) == unsafe.StringData(other) {
		t.Error("two archives are the same memory")
	}
}
