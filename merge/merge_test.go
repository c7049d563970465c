package merge

import (
	"maps"
	"math"
	"slices"
	"strconv"
	"strings"
	"testing"
	"unsafe"

	"gazetteer/api"
	"gazetteer/chart"
	"gazetteer/entry"
)

// count is how many tiles there are: no identifier is as great.
const count = 6004799503160661

// alike are two contents of one length and one sum (FNV-1a), which are not the
// same.
const (
	alike      = "8yn0iYCKYHlIj4-BwPqk"
	alikeOther = "GReLUrM4wMqfg9yzV3KQ"
)

// most is the longest content, long one byte longer.
var (
	most = strings.Repeat("x", 65536)
	long = strings.Repeat("x", 65537)
)

// model is a chart: the bytes of each tile.
type model map[uint64]string

// chart makes the model's chart.
func (m model) chart(t *testing.T) chart.Chart {
	t.Helper()
	var l []chart.Item
	for id, s := range m {
		l = append(l, chart.Item{ID: id, Text: s})
	}
	c, bad := chart.Of(l)
	if bad != api.OK {
		t.Fatalf("a chart of %d tiles: error %d", len(l), int(bad))
	}
	return c
}

// contents tells the unlike contents, in the order in which they come, and where
// each stands.
func (m model) contents() ([]string, map[string]uint64) {
	var l []string
	places := map[string]uint64{}
	end := uint64(0)
	for _, id := range slices.Sorted(maps.Keys(m)) {
		if _, is := places[m[id]]; !is {
			places[m[id]] = end
			end += uint64(len(m[id]))
			l = append(l, m[id])
		}
	}
	return l, places
}

// rows tells what Rows answers, by the words of the chapter: from each tile with
// which an entry begins the run is counted on.
func (m model) rows() ([]entry.Entry, string) {
	texts, places := m.contents()
	var l []entry.Entry
	for _, id := range slices.Sorted(maps.Keys(m)) {
		s := m[id]
		if ahead, is := m[id-1]; is && ahead == s {
			continue
		}
		run := uint32(1)
		for m[id+uint64(run)] == s {
			run++
		}
		l = append(l, entry.Entry{ID: id, Offset: places[s], Length: uint32(len(s)), Run: run})
	}
	return l, strings.Join(texts, "")
}

// tryRows holds Rows, and what comes back of it, against the chapter's words.
func tryRows(t *testing.T, m model) {
	t.Helper()
	c := m.chart(t)
	want, text := m.rows()
	l, s := Rows(c)
	if !slices.Equal(l, want) || s != text {
		t.Fatalf("Rows(%.99v): %.99v %.40q, want %.99v %.40q", m, l, s, want, text)
	}
	if bad := entry.Row(l); bad != api.OK || !Least(l) {
		t.Fatalf("Rows(%.99v): %.99v: Row %d, Least %v", m, l, int(bad), Least(l))
	}
	if d, bad := Back(l, s); bad != api.OK || !chart.Same(c, d) {
		t.Fatalf("Back(%.99v, %.40q): error %d, %.99v", l, s, int(bad), d.Items())
	}
	once(t, m, l, s)
}

// once holds that no content stands twice in the text, and nothing else there.
func once(t *testing.T, m model, l []entry.Entry, s string) {
	t.Helper()
	places := map[string]uint64{}
	n := 0
	for _, e := range l {
		content := s[e.Offset:][:e.Length]
		if at, is := places[content]; is && at != e.Offset {
			t.Fatalf("Rows(%.99v): %.20q stands at %d and at %d", m, content, at, e.Offset)
		} else if !is {
			n += len(content)
		}
		places[content] = e.Offset
	}
	if n != len(s) {
		t.Fatalf("Rows(%.99v): contents of %d bytes in a text of %d", m, n, len(s))
	}
}

// backed tells what Back answers, by the words of the chapter.
func backed(l []entry.Entry, data string) (model, api.Errno) {
	if bad := entry.Row(l); bad != api.OK {
		return nil, bad
	}
	m := model{}
	var told uint64
	for _, e := range l {
		told += uint64(e.Run)
		switch {
		case e.Run == 0:
			return nil, api.ErrKind
		case uint64(len(data)) < e.Offset || uint64(len(data))-e.Offset < uint64(e.Length):
			return nil, api.ErrRange
		case told > 2048:
			return nil, api.ErrMany
		case e.Length > 65536:
			return nil, api.ErrLong
		}
		for i := range e.Run {
			m[e.ID+uint64(i)] = data[e.Offset:][:e.Length]
		}
	}
	return m, api.OK
}

// tryBack holds Back against what is wanted of it.
func tryBack(t *testing.T, l []entry.Entry, data string, want model, wantBad api.Errno) {
	t.Helper()
	c, bad := Back(l, data)
	if bad != wantBad {
		t.Fatalf("Back(%.99v, %d bytes): error %d, want %d", l, len(data), int(bad), int(wantBad))
	}
	if !chart.Same(c, want.chart(t)) {
		t.Fatalf("Back(%.99v, %d bytes): %d tiles, %.99v", l, len(data), c.Len(), c.Items())
	}
}

// least tells what Least answers, by the words of the chapter.
func least(l []entry.Entry) bool {
	if entry.Row(l) != api.OK {
		return false
	}
	for i, e := range l {
		if e.Run == 0 {
			return false
		}
		if i == 0 {
			continue
		}
		ahead := l[i-1]
		if e.ID-ahead.ID == uint64(ahead.Run) && e.Offset == ahead.Offset && e.Length == ahead.Length {
			return false
		}
	}
	return true
}

// listsOf tells all lists of up to n of some entries.
func listsOf(some []entry.Entry, n int) [][]entry.Entry {
	all := [][]entry.Entry{nil}
	for from := 0; n > 0; n-- {
		to := len(all)
		for _, l := range all[from:to] {
			for _, e := range some {
				all = append(all, append(slices.Clone(l), e))
			}
		}
		from = to
	}
	return all
}

// rowOf tells n entries of one tile and one byte each, with room between them.
func rowOf(n int) []entry.Entry {
	l := make([]entry.Entry, n)
	for i := range l {
		l[i] = entry.Entry{ID: 2 * uint64(i), Length: 1, Run: 1}
	}
	return l
}

// P13.1, P13.2: the chapter's example.
func TestExample(t *testing.T) {
	c := model{5: "sea", 6: "sea", 8: "sea"}.chart(t)
	l, s := Rows(c)
	if !slices.Equal(l, []entry.Entry{{ID: 5, Length: 3, Run: 2}, {ID: 8, Length: 3, Run: 1}}) || s != "sea" {
		t.Errorf("%v %q", l, s)
	}
	if d, bad := Back(l, s); bad != api.OK || !chart.Same(c, d) {
		t.Errorf("error %d, %v", int(bad), d.Items())
	}
}

// P13.1, P13.3, P13.4: all charts of six tiles in a row, each of which is not
// there or has one of four contents; two have one length, one stands as a piece
// of two others in the text.
func TestRowsOfSmallCharts(t *testing.T) {
	texts := []string{"", "a", "b", "ab", "ba"}
	for i := range 5 * 5 * 5 * 5 * 5 * 5 {
		m := model{}
		for id := range uint64(6) {
			if s := texts[i%5]; s != "" {
				m[id] = s
			}
			i /= 5
		}
		tryRows(t, m)
	}
}

// P13.1: runs go on over the end of a zoom, and up to the last tile of all.
func TestRowsAtEdges(t *testing.T) {
	for _, from := range []uint64{0, 1, 3, 4, 5, 20, 21, 84, 1 << 32, 1<<32 - 2, 1 << 51, count - 5, count - 4} {
		for n := range uint64(5) {
			for gap := range uint64(6) {
				m := model{}
				for i := range n {
					if i != gap {
						m[from+i] = "content"
					}
				}
				tryRows(t, m)
			}
		}
	}
	tryRows(t, model{0: "x", count - 1: "x"})
	tryRows(t, model{0: "x", 1 << 32: "x", 1<<32 + 1: "x", 1<<52 + 1: "x"})
}

// P13.1: contents are told apart by all their bytes, any of them, and by how
// many there are.
func TestRowsOfContents(t *testing.T) {
	for _, l := range [][]string{
		{alike, alikeOther, alike, alikeOther, alikeOther},
		{"\x00", "\x00\x00", "\x00\x00", "\x00", "\xff"},
		{most, most[1:], most, most, most[1:], most[2:] + "yz"},
		{"ab", "b", "a", "b", "abb", "ab", "ab"},
		{"é", "e", "é", "\xc3", "\xa9", "é"},
	} {
		m := model{}
		for i, s := range l {
			m[7+uint64(i)] = s
		}
		tryRows(t, m)
	}
}

// P13.1, P13.4: charts of as many tiles as there may be, with one content, with
// two, one behind the other and in turn, in runs, and with unlike ones.
func TestRowsOfFullCharts(t *testing.T) {
	for _, content := range []func(i int) string{
		func(i int) string { return "one" },
		func(i int) string { return "first or second"[:5+i/1024] },
		func(i int) string { return strconv.Itoa(i % 2) },
		func(i int) string { return "run " + strconv.Itoa(i/7%5) },
		func(i int) string { return "tile " + strconv.Itoa(i) },
	} {
		for _, n := range []int{2047, 2048} {
			row, apart := model{}, model{}
			for i := range n {
				row[100+uint64(i)] = content(i)
				apart[2*uint64(i)] = content(i)
			}
			tryRows(t, row)
			tryRows(t, apart)
		}
	}
	l, s := Rows(model{}.chart(t))
	if len(l) != 0 || s != "" {
		t.Errorf("of none: %v %q", l, s)
	}
}

// P13.1, P13.4: unlike contents of the most bytes.
func TestRowsOfLongContents(t *testing.T) {
	m := model{}
	for i := range 150 {
		m[uint64(i+i/60)] = most[:65533] + strconv.Itoa(100+i/2%60)
	}
	tryRows(t, m)
}

// P13.1, P13.2: as many tiles as there may be, of as many bytes.
func TestMostBytes(t *testing.T) {
	l := []entry.Entry{{ID: count - 2048, Length: 65536, Run: 2048}}
	c, bad := Back(l, most)
	if bad != api.OK || c.Len() != 2048 || c.Bytes() != 2048*65536 {
		t.Fatalf("error %d, %d tiles, %d bytes", int(bad), c.Len(), c.Bytes())
	}
	if again, s := Rows(c); !slices.Equal(again, l) || s != most {
		t.Errorf("%v, %d bytes", again, len(s))
	}
}

// P13.1: a chart tells the same entries however it was made, and is as it was
// behind that.
func TestRowsOfOneChart(t *testing.T) {
	items := []chart.Item{{ID: 4, Text: "land"}, {ID: 2, Text: "sea"}, {ID: 3, Text: "sea"}, {ID: 9, Text: "land"}}
	a, _ := chart.Of(items)
	b, _ := chart.Chart{}.Put(3, "ice")
	for _, it := range slices.Backward(items) {
		b, _ = b.Put(it.ID, it.Text)
	}
	b, _ = b.Put(1, "gone")
	b = b.Del(1)
	want := []entry.Entry{{ID: 2, Length: 3, Run: 2}, {ID: 4, Offset: 3, Length: 4, Run: 1}, {ID: 9, Offset: 3, Length: 4, Run: 1}}
	for _, c := range []chart.Chart{a, b, a} {
		if l, s := Rows(c); !slices.Equal(l, want) || s != "sealand" {
			t.Errorf("%v %q", l, s)
		}
	}
	if !chart.Same(a, b) || a.Len() != 4 {
		t.Error(a.Items(), b.Items())
	}
}

// P13.2: Back of all lists of up to three of some entries, right and wrong, with
// texts of some lengths: each error stands ahead of, and behind, each other one.
func TestBackOfShortLists(t *testing.T) {
	some := []entry.Entry{
		{ID: 0, Length: 1, Run: 1}, {ID: 1, Offset: 1, Length: 2, Run: 1}, {ID: 1, Length: 3, Run: 2}, {ID: 3, Length: 3, Run: 2},
		{ID: 5, Offset: 2, Length: 1, Run: 2047}, {ID: 2100, Length: 1, Run: 2048}, {ID: 5000, Offset: 3, Length: 1, Run: 2049},
		{ID: 9000, Length: 65536, Run: 1}, {ID: 9001, Length: 65537, Run: 1}, {ID: 9002, Offset: 1, Length: 65537, Run: 2048},
		{ID: 20000, Length: 65537, Run: math.MaxUint32}, {ID: 1, Length: 1}, {ID: 19999, Offset: 1 << 39, Length: 70000},
		{ID: 4999, Offset: 1<<40 - 1, Length: 1, Run: 1}, {ID: 7}, {ID: count, Length: 1, Run: 1},
	}
	texts := []string{"", "xyz", "abcd", "x" + most, most + "yz"}
	for _, l := range listsOf(some, 3) {
		for _, data := range texts {
			m, bad := backed(l, data)
			tryBack(t, l, data, m, bad)
		}
	}
}

// P13.2: of one entry that is wrong in several ways, the error that the chapter
// names first; entry.Row's, of any entry, ahead of all.
func TestBackErrors(t *testing.T) {
	ok := entry.Entry{ID: 1, Length: 1, Run: 1}
	for _, x := range []struct {
		l    []entry.Entry
		data string
		want api.Errno
	}{
		{nil, "", api.OK},
		{nil, "x", api.OK},
		{[]entry.Entry{{}}, "x", api.ErrArg},
		{[]entry.Entry{ok, ok}, "x", api.ErrOrder},
		{[]entry.Entry{ok}, "", api.ErrRange},
		{[]entry.Entry{{ID: 1, Length: 1}, {ID: 9, Run: 1}}, "", api.ErrArg},
		{[]entry.Entry{{ID: 5, Length: 1}, {ID: 5, Length: 1}}, "", api.ErrOrder},
		{[]entry.Entry{{ID: 1, Length: 1}, {ID: count, Length: 1, Run: 1}}, "", api.ErrRange},
		{[]entry.Entry{{ID: 1, Offset: 9, Length: 1, Run: 1}, {ID: 1, Length: 1, Run: 1}}, "x", api.ErrOrder},
		{[]entry.Entry{{ID: 1, Length: 1, Run: 2049}, {ID: 9999}}, "x", api.ErrArg},
		{[]entry.Entry{{ID: 1, Length: 65537, Run: 1}, {ID: 1, Length: 1, Run: 1}}, long, api.ErrOrder},
		{[]entry.Entry{{ID: 1, Length: 1}}, "x", api.ErrKind},
		{[]entry.Entry{{ID: 1, Offset: 9, Length: 1}}, "x", api.ErrKind},
		{[]entry.Entry{{ID: 1, Length: 65537}}, long, api.ErrKind},
		{[]entry.Entry{{ID: 1, Length: 65537, Run: 2049}}, most, api.ErrRange},
		{[]entry.Entry{{ID: 1, Length: 2, Run: 2049}}, "x", api.ErrRange},
		{[]entry.Entry{{ID: 1, Length: 65537, Run: 1}}, most, api.ErrRange},
		{[]entry.Entry{{ID: 1, Length: 65537, Run: 2049}}, long, api.ErrMany},
		{[]entry.Entry{{ID: 1, Length: 1, Run: math.MaxUint32}}, "x", api.ErrMany},
		{[]entry.Entry{{ID: 1, Length: 65537, Run: 2048}}, long, api.ErrLong},
		{[]entry.Entry{{ID: 1, Length: math.MaxUint32, Run: 1}}, long, api.ErrRange},
		{[]entry.Entry{ok, {ID: 2, Length: 1}, {ID: 3, Length: 2, Run: 1}}, "x", api.ErrKind},
		{[]entry.Entry{ok, {ID: 2, Length: 2, Run: 1}, {ID: 3, Length: 1}}, "x", api.ErrRange},
		{[]entry.Entry{ok, {ID: 2, Length: 1, Run: 2048}, {ID: 3000, Length: 1}}, "x", api.ErrMany},
		{[]entry.Entry{ok, {ID: 2, Length: 65537, Run: 2047}, {ID: 3000, Length: 1, Run: 1}}, long, api.ErrLong},
		{[]entry.Entry{ok, {ID: 2, Length: 65536, Run: 1}, {ID: 3000, Length: 1, Run: 2047}}, long, api.ErrMany},
	} {
		tryBack(t, x.l, x.data, nil, x.want)
	}
}

// P13.2: where a content may end in the text, at most.
func TestBackAtEndOfText(t *testing.T) {
	for n := range 9 {
		data := "tilebyte"[:n]
		for offset := range uint64(11) {
			for length := uint32(1); length < 11; length++ {
				l := []entry.Entry{{ID: 4, Offset: offset, Length: length, Run: 2}}
				if offset+uint64(length) > uint64(n) {
					tryBack(t, l, data, nil, api.ErrRange)
				} else {
					s := data[offset:][:length]
					tryBack(t, l, data, model{4: s, 5: s}, api.OK)
				}
			}
		}
	}
	for _, e := range []entry.Entry{{Offset: 1<<40 - 1, Length: 1, Run: 1}, {Offset: 1 << 32, Length: 1, Run: 1}, {Offset: 1<<40 - math.MaxUint32, Length: math.MaxUint32, Run: 1}, {Offset: math.MaxUint32, Length: 1, Run: 1}} {
		tryBack(t, []entry.Entry{e}, "xyz", nil, api.ErrRange)
	}
}

// P13.2: contents may stand in any order, overlap, and leave bytes over, and
// entries need not be the least ones.
func TestBackOfAnyPlaces(t *testing.T) {
	l := []entry.Entry{{ID: 1, Offset: 4, Length: 3, Run: 2}, {ID: 3, Offset: 2, Length: 4, Run: 1}, {ID: 4, Offset: 2, Length: 4, Run: 1}, {ID: 9, Offset: 3, Length: 1, Run: 1}, {ID: count - 1, Offset: 4, Length: 3, Run: 1}}
	tryBack(t, l, "..abcde..", model{1: "cde", 2: "cde", 3: "abcd", 4: "abcd", 9: "b", count - 1: "cde"}, api.OK)
}

// P13.2: as many tiles as there may be, in as many entries; of the 2049th what
// is named ahead of ErrMany, and of one that is wrong further ahead its own.
func TestBackOfMany(t *testing.T) {
	for _, n := range []int{2048, 2049, 4096, 4097} {
		m, bad := backed(rowOf(n), "x")
		if n == 2048 && bad != api.OK || n > 2048 && bad != api.ErrMany {
			t.Fatalf("%d entries: error %d is wanted", n, int(bad))
		}
		tryBack(t, rowOf(n), "x", m, bad)
	}
	for at, wants := range map[int][3]api.Errno{0: {api.ErrKind, api.ErrRange, api.ErrLong}, 2047: {api.ErrKind, api.ErrRange, api.ErrLong}, 2048: {api.ErrKind, api.ErrRange, api.ErrMany}, 2049: {api.ErrMany, api.ErrMany, api.ErrMany}, 4095: {api.ErrMany, api.ErrMany, api.ErrMany}} {
		for i, e := range []entry.Entry{{Length: 1}, {Offset: 65537, Length: 1, Run: 1}, {Length: 65537, Run: 1}} {
			l := rowOf(4096)
			e.ID = l[at].ID
			l[at] = e
			tryBack(t, l, long, nil, wants[i])
		}
	}
	// Of a list that is too long for a row, no entry is asked.
	tryBack(t, make([]entry.Entry, 4097), "x", nil, api.ErrMany)
	l := rowOf(4097)
	l[0].Run = 0
	tryBack(t, l, "", nil, api.ErrMany)
	for a := range uint32(5) {
		l := []entry.Entry{{ID: 1, Length: 1, Run: 2040 + a}, {ID: 5000, Length: 1, Run: 3}, {ID: 6000, Length: 1, Run: 3}}
		m, bad := backed(l, "x")
		tryBack(t, l, "x", m, bad)
	}
}

// P13.3: Least of all lists of up to three of some entries, right and wrong.
func TestLeastOfShortLists(t *testing.T) {
	some := []entry.Entry{
		{ID: 0, Offset: 4, Length: 5, Run: 1}, {ID: 1, Offset: 4, Length: 5, Run: 1}, {ID: 1, Offset: 4, Length: 5, Run: 2},
		{ID: 2, Offset: 4, Length: 5, Run: 3}, {ID: 3, Offset: 4, Length: 5, Run: 1}, {ID: 2, Offset: 4, Length: 6, Run: 1},
		{ID: 3, Offset: 5, Length: 5, Run: 2}, {ID: 5, Offset: 4, Length: 5, Run: 1}, {ID: 5, Offset: 4, Length: 5}, {ID: 2, Offset: 4, Length: 5},
		{ID: 5, Offset: 5, Length: 4, Run: 9}, {ID: 6, Run: 1}, {ID: 7, Offset: 1 << 40, Length: 1, Run: 1}, {ID: count - 1, Length: 5, Run: 1},
		{ID: count - 2, Length: 5, Run: 1}, {ID: count, Length: 1, Run: 1}, {ID: math.MaxUint64, Length: 5, Run: 1},
	}
	for _, l := range listsOf(some, 3) {
		if got, want := Least(l), least(l); got != want {
			t.Fatalf("Least(%v): %v", l, got)
		}
	}
}

// P13.3: what two entries might be one by, one thing after the other.
func TestLeast(t *testing.T) {
	e := func(id, offset uint64, length, run uint32) entry.Entry {
		return entry.Entry{ID: id, Offset: offset, Length: length, Run: run}
	}
	for _, x := range []struct {
		l    []entry.Entry
		want bool
	}{
		{nil, true},
		{[]entry.Entry{}, true},
		{[]entry.Entry{e(0, 0, 1, 1)}, true},
		{[]entry.Entry{e(0, 0, 1, 0)}, false},
		{[]entry.Entry{e(0, 0, 0, 1)}, false},
		{[]entry.Entry{e(count-1, 1<<40-1, 1, 1)}, true},
		{[]entry.Entry{e(5, 7, 3, 2), e(7, 7, 3, 1)}, false},
		{[]entry.Entry{e(5, 7, 3, 2), e(8, 7, 3, 1)}, true},
		{[]entry.Entry{e(5, 7, 3, 2), e(6, 7, 3, 1)}, false},
		{[]entry.Entry{e(5, 7, 3, 2), e(6, 9, 3, 1)}, false},
		{[]entry.Entry{e(5, 7, 3, 2), e(7, 8, 3, 1)}, true},
		{[]entry.Entry{e(5, 7, 3, 2), e(7, 7, 4, 1)}, true},
		{[]entry.Entry{e(5, 7, 3, 2), e(7, 10, 3, 1), e(8, 7, 3, 1)}, true},
		{[]entry.Entry{e(5, 7, 3, 2), e(7, 10, 3, 1), e(8, 10, 3, 4)}, false},
		{[]entry.Entry{e(5, 7, 3, 2), e(7, 10, 3, 1), e(9, 10, 3, 0)}, false},
		{[]entry.Entry{e(1, 7, 3, math.MaxUint32), e(1<<32, 7, 3, 1)}, false},
		{[]entry.Entry{e(1, 7, 3, math.MaxUint32), e(1<<32+1, 7, 3, 1)}, true},
		{[]entry.Entry{e(count-2, 0, 1, 1), e(count-1, 0, 1, 1)}, false},
	} {
		if Least(x.l) != x.want {
			t.Errorf("Least(%v): not %v", x.l, x.want)
		}
	}
}

// P13.3: rows as long as there may be, with one pair that might be one, or one
// pointer, at any place; a longer one is none.
func TestLeastOfLongRows(t *testing.T) {
	for _, n := range []int{2048, 4096} {
		l := rowOf(n)
		if !Least(l) {
			t.Errorf("%d entries: not the least", n)
		}
		for _, at := range []int{1, 2, n / 2, n - 1} {
			l[at].ID--
			if Least(l) {
				t.Errorf("%d entries: the %dth goes on", n, at)
			}
			l[at].ID++
			l[at].Run = 0
			if Least(l) {
				t.Errorf("%d entries: the %dth is a pointer", n, at)
			}
			l[at].Run = 1
		}
	}
	if Least(rowOf(4097)) || Least(make([]entry.Entry, 4097)) {
		t.Error("4097 entries are taken")
	}
}

// Rule 3: entries and texts that are told, and their spare room, are nobody
// else's; what is handed in is not changed, and what lies behind it is left
// alone.
func TestNothingShared(t *testing.T) {
	c := model{1: "a", 2: "b", 3: "a", 5: "a"}.chart(t)
	l, s := Rows(c)
	other, otherText := Rows(c)
	want := slices.Clone(other)
	room := append(l, entry.Entry{ID: 9})
	for _, list := range [][]entry.Entry{room, l} {
		for i := range list {
			list[i] = entry.Entry{}
		}
	}
	if !slices.Equal(other, want) || s != "ab" || unsafe.StringData(s) == unsafe.StringData(otherText) {
		t.Error(other, s)
	}
	given := append(slices.Clone(want), entry.Entry{})
	d, bad := Back(given[:len(want)], s)
	if bad != api.OK || !chart.Same(c, d) || !Least(given[:len(want)]) {
		t.Errorf("error %d, %v", int(bad), d.Items())
	}
	if !slices.Equal(given, append(slices.Clone(want), entry.Entry{})) {
		t.Error("what was handed in is changed:", given)
	}
	clear(given)
	if !chart.Same(c, d) {
		t.Error("what was handed in is kept:", d.Items())
	}
}

// Rule 3: the text of contents is not kept, nor is a chart's.
func TestNotKept(t *testing.T) {
	data := strings.Repeat("tile", 9)
	c, bad := Back([]entry.Entry{{ID: 3, Length: 36, Run: 1}}, data)
	if got, _ := c.Get(3); bad != api.OK || got != data || unsafe.StringData(got) == unsafe.StringData(data) {
		t.Errorf("error %d; %q is kept", int(bad), data)
	}
	got, _ := c.Get(3)
	if _, s := Rows(c); s != data || unsafe.StringData(got) == unsafe.StringData(s) {
		t.Errorf("%q is handed out", s)
	}
}
