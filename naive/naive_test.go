package naive

import (
	"encoding/binary"
	"fmt"
	"maps"
	"math"
	"math/rand"
	"slices"
	"strconv"
	"strings"
	"testing"
	"unsafe"

	"gazetteer/api"
	"gazetteer/audit"
	"gazetteer/chart"
	"gazetteer/dirs"
	"gazetteer/entry"
	"gazetteer/header"
	"gazetteer/press"
)

const (
	count = uint64(6004799503160661) // how many tiles there are
	most  = uint64(1) << 40          // the greatest place of an archive
)

func TestLimits(t *testing.T) {
	if api.Head != 127 || api.MaxEntries != 4096 || api.MaxTiles != 2048 || api.MaxTile != 65536 || api.MaxDir != 65536 || api.MaxTotal != most {
		t.Error("the limits of these tests are others than the program's")
	}
}

// model is a chart: the bytes of each tile.
type model map[uint64]string

// chart makes the model's chart.
func (m model) chart(t *testing.T) chart.Chart {
	t.Helper()
	var l []chart.Item
	for id, s := range m {
		l = append(l, chart.Item{ID: id, Text: s})
	}
	c, bad := chart.Of(l)
	if bad != api.OK {
		t.Fatalf("a chart of %d tiles: error %d", len(l), int(bad))
	}
	return c
}

// told is what Rows answers.
type told struct {
	l    []entry.Entry
	data string
	bad  api.Errno
}

// number tells the number that stands at a place of s.
func number(s string, at int) uint64 { return binary.LittleEndian.Uint64([]byte(s[at:][:8])) }

// rows tells Rows' answer, by the words of layers 15, 8, 14 and this one.
func rows(s string) told {
	if _, bad := header.Decode(s); bad != api.OK {
		return told{bad: bad}
	}
	var parts [4]string
	for i, at := range []int{8, 24, 40, 56} {
		from, length := number(s, at), number(s, at+8)
		if from > uint64(len(s)) || uint64(len(s))-from < length {
			return told{bad: api.ErrRange}
		}
		parts[i] = s[from:][:length]
	}
	root, _, bad := dirs.Decode(parts[0])
	if bad != api.OK {
		return told{bad: bad}
	}
	l, bad := joined(root, parts[2])
	if bad != api.OK {
		return told{bad: bad}
	}
	return told{l: l, data: parts[3]}
}

// joined tells all entries of a root and its leaves, by the words of layer 14.
func joined(root []entry.Entry, text string) ([]entry.Entry, api.Errno) {
	var l []entry.Entry
	for _, e := range root {
		if e.Run > 0 {
			l = append(l, e)
			continue
		}
		if uint64(len(text)) < e.Offset || uint64(len(text))-e.Offset < uint64(e.Length) {
			return nil, api.ErrRange
		}
		under, _, bad := dirs.Decode(text[e.Offset:][:e.Length])
		if bad != api.OK {
			return nil, bad
		}
		for _, e := range under {
			if e.Run == 0 {
				return nil, api.ErrDeep
			}
		}
		if len(under) == 0 || under[0].ID != e.ID {
			return nil, api.ErrOrder
		}
		l = append(l, under...)
	}
	return l, entry.Row(l)
}

// found is what Tile answers.
type found struct {
	s   string
	is  bool
	bad api.Errno
}

// tile tells Tile's answer of what Rows is to tell.
func (x told) tile(id uint64) found {
	if x.bad != api.OK {
		return found{bad: x.bad}
	}
	for _, e := range x.l {
		if id < e.ID || id-e.ID >= uint64(e.Run) {
			continue
		}
		if s, is := x.content(e); is {
			return found{s: s, is: true}
		}
		return found{bad: api.ErrRange}
	}
	return found{}
}

// content tells an entry's bytes, and whether they are all there.
func (x told) content(e entry.Entry) (string, bool) {
	if uint64(len(x.data)) < e.Offset || uint64(len(x.data))-e.Offset < uint64(e.Length) {
		return "", false
	}
	return x.data[e.Offset:][:e.Length], true
}

// chart tells Read's answer of what Rows is to tell, by the words of layer 13.
func (x told) chart() (model, api.Errno) {
	if x.bad != api.OK {
		return nil, x.bad
	}
	m := model{}
	sum := uint64(0)
	for _, e := range x.l {
		sum += uint64(e.Run)
		s, is := x.content(e)
		switch {
		case !is:
			return nil, api.ErrRange
		case sum > 2048:
			return nil, api.ErrMany
		case e.Length > 65536:
			return nil, api.ErrLong
		}
		for i := range uint64(e.Run) {
			m[e.ID+i] = s
		}
	}
	return m, api.OK
}

// ids tells the identifiers about the edges of what Rows is to tell, and those at
// the end of all tiles and beyond.
func (x told) ids() []uint64 {
	l := []uint64{0, count - 1, count, math.MaxUint64}
	if x.bad != api.OK {
		return l
	}
	for i, e := range x.l {
		if i > 3 && i < len(x.l)-3 && i%500 != 0 {
			continue
		}
		end := e.ID + uint64(e.Run)
		l = append(l, e.ID-1, e.ID, e.ID+uint64(e.Run)/2, end-1, end)
	}
	return l
}

// short tells a text, or as much of it as an error's line has room for.
func short(s string) string { return s[:min(len(s), 400)] }

// try holds all three calls of an archive against what Rows is to tell.
func (x told) try(t *testing.T, s string) {
	t.Helper()
	l, data, bad := Rows(s)
	if !slices.Equal(l, x.l) || data != x.data || bad != x.bad {
		t.Fatalf("Rows(%d bytes %q): %d entries %s, %d bytes %.40q, error %d; want %d entries %s, %d bytes %.40q, error %d",
			len(s), short(s), len(l), short(fmt.Sprint(l)), len(data), data, int(bad), len(x.l), short(fmt.Sprint(x.l)), len(x.data), x.data, int(x.bad))
	}
	for _, id := range x.ids() {
		x.tryTile(t, s, id)
	}
	want, wantBad := x.chart()
	tryRead(t, s, want, wantBad)
}

// tryTile holds Tile's answer.
func (x told) tryTile(t *testing.T, s string, id uint64) {
	t.Helper()
	text, is, bad := Tile(s, id)
	if got, want := (found{text, is, bad}), x.tile(id); got != want {
		t.Fatalf("Tile(%d bytes %q, %d): %d bytes %.40q, %v, error %d; want %d bytes %.40q, %v, error %d",
			len(s), short(s), id, len(got.s), got.s, got.is, int(got.bad), len(want.s), want.s, want.is, int(want.bad))
	}
}

// tryRead holds Read's answer.
func tryRead(t *testing.T, s string, want model, wantBad api.Errno) {
	t.Helper()
	c, bad := Read(s)
	if bad != wantBad || c.Len() != len(want) {
		t.Fatalf("Read(%d bytes %q): %d tiles, error %d; want %d tiles, error %d", len(s), short(s), c.Len(), int(bad), len(want), int(wantBad))
	}
	for id, content := range c.Each() {
		if is, has := want[id]; !has || is != content {
			t.Fatalf("Read(%d bytes %q): tile %d has %.40q, want %.40q, %v", len(s), short(s), id, content, is, has)
		}
	}
}

// tryWords holds all three calls against the chapter's words.
func tryWords(t *testing.T, s string) {
	t.Helper()
	rows(s).try(t, s)
}

// tile tells an entry of tiles.
func tile(id uint64, run uint32, offset uint64, length uint32) entry.Entry {
	return entry.Entry{ID: id, Run: run, Offset: offset, Length: length}
}

// pointer tells an entry that points to a leaf.
func pointer(id uint64, offset, length int) entry.Entry {
	return entry.Entry{ID: id, Offset: uint64(offset), Length: uint32(length)}
}

// dir tells the bytes of entries, whether they may be a directory's or not, by
// the words of layer 8.
func dir(l ...entry.Entry) string {
	b := binary.AppendUvarint(nil, uint64(len(l)))
	id := uint64(0)
	for _, e := range l {
		b = binary.AppendUvarint(b, e.ID-id)
		id = e.ID
	}
	for _, e := range l {
		b = binary.AppendUvarint(b, uint64(e.Run))
	}
	for _, e := range l {
		b = binary.AppendUvarint(b, uint64(e.Length))
	}
	for i, e := range l {
		if i > 0 && e.Offset == l[i-1].Offset+uint64(l[i-1].Length) {
			b = append(b, 0)
		} else {
			b = binary.AppendUvarint(b, e.Offset+1)
		}
	}
	return string(b)
}

// head tells the bytes of a header without numbers but its sections: the places
// and lengths of the root, the notes, the leaves and the contents.
func head(numbers ...uint64) string {
	b := make([]byte, 127)
	copy(b, "PMTiles\x03")
	for i, x := range numbers {
		binary.LittleEndian.PutUint64(b[8+8*i:], x)
	}
	return string(b)
}

// file tells an archive of four parts, one right behind the other.
func file(root, note, leaves, data string) string {
	var numbers []uint64
	end := uint64(127)
	for _, part := range []string{root, note, leaves, data} {
		numbers = append(numbers, end, uint64(len(part)))
		end += uint64(len(part))
	}
	return head(numbers...) + root + note + leaves + data
}

// deepFile tells an archive of two leaves, and two entries in its root.
func deepFile() (string, []entry.Entry) {
	l := []entry.Entry{tile(1, 1, 0, 2), tile(2, 3, 2, 3), tile(7, 1, 0, 2), tile(21, 2, 2, 3), tile(30, 1, 5, 1), tile(31, 50, 0, 2)}
	a, b := dir(l[1:3]...), dir(l[4:]...)
	root := dir(l[0], pointer(2, 0, len(a)), l[3], pointer(30, len(a), len(b)))
	return file(root, "{}", a+b, "aabbbc"), l
}

// someFiles tells archives of which each call but Read has something to tell.
func someFiles() []string {
	deep, _ := deepFile()
	leaf := dir(tile(5, 1, 0, 1), tile(6, 2, 1, 2))
	return []string{
		file("\x00", "", "", ""),
		file(dir(tile(0, 1, 0, 1)), "{}", "", "x"),
		file(dir(tile(1, 2, 0, 3), tile(7, 1, 3, 4), tile(8, 1, 0, 3)), "?", "", "sealand"),
		file(dir(pointer(5, 0, len(leaf))), "", leaf, "xyz"),
		file(dir(tile(1, 1, 0, 9), tile(2, 1, 0, 3)), "", "", "sea"),
		deep,
	}
}

// P20.3: the chapter's example, with charts of some kinds.
func TestExample(t *testing.T) {
	for _, m := range []model{{}, {0: "x"}, {4: "sea", 5: "sea", 9: "land"}, {0: "\x00", count - 1: "\xff"}} {
		c := m.chart(t)
		s, _ := press.Press(c, press.Plan{Budget: 512, Note: "{}"})
		if d, bad := Read(s); bad != api.OK || !chart.Same(c, d) {
			t.Errorf("%v: %v, error %d", m, d.Items(), int(bad))
		}
	}
}

// P20.1, P20.2, P20.3: an archive that is written out.
func TestWrittenOut(t *testing.T) {
	s := "PMTiles\x03" +
		"\x7f\x00\x00\x00\x00\x00\x00\x00" + "\x0a\x00\x00\x00\x00\x00\x00\x00" + // the root
		"\x89\x00\x00\x00\x00\x00\x00\x00" + "\x02\x00\x00\x00\x00\x00\x00\x00" + // the notes
		"\x8b\x00\x00\x00\x00\x00\x00\x00" + "\x09\x00\x00\x00\x00\x00\x00\x00" + // the leaves
		"\x94\x00\x00\x00\x00\x00\x00\x00" + "\x07\x00\x00\x00\x00\x00\x00\x00" + // the contents
		strings.Repeat("\x00", 127-72) +
		"\x02\x01\x04\x02\x00\x03\x09\x01\x01" + "?" + "{}" + "\x02\x05\x03\x01\x02\x04\x03\x04\x01" + "sealand"
	// Behind its nine bytes the root has one too many.
	if l, data, bad := Rows(s); len(l) != 0 || data != "" || bad != api.ErrForm {
		t.Errorf("%v %q error %d, want error %d", l, data, int(bad), int(api.ErrForm))
	}
	s = s[:16] + "\x09" + s[17:]
	want := told{l: []entry.Entry{tile(1, 2, 0, 3), tile(5, 1, 3, 4), tile(8, 2, 0, 3)}, data: "sealand"}
	want.try(t, s)
	for id, content := range []string{1: "sea", 2: "sea", 5: "land", 8: "sea", 9: "sea", 11: ""} {
		if text, is, bad := Tile(s, uint64(id)); text != content || is != (content != "") || bad != api.OK {
			t.Errorf("tile %d: %q %v error %d, want %q", id, text, is, int(bad), content)
		}
	}
	tryRead(t, s, model{1: "sea", 2: "sea", 5: "land", 8: "sea", 9: "sea"}, api.OK)
}

// P20.1: entries of the root and of leaves, in order, none of them a pointer.
func TestRows(t *testing.T) {
	deep, l := deepFile()
	told{l: l, data: "aabbbc"}.try(t, deep)
	told{}.try(t, file("\x00", "", "", ""))
	told{data: "left over"}.try(t, file("\x00", "{}", "leaves", "left over"))
	// Entries that might be one, contents that stand twice, and such that lie far
	// beyond the contents, are told as they are.
	l = []entry.Entry{tile(1, 1, 0, 1), tile(2, 1, 0, 1), tile(3, math.MaxUint32, most-9, 9), tile(count-1, 1, 1, math.MaxUint32)}
	told{l: l, data: "xx"}.try(t, file(dir(l...), "", "", "xx"))
	told{l: l, data: "xx"}.try(t, file(dir(l[0], pointer(2, 1, len(dir(l[1:]...)))), "", "?"+dir(l[1:]...), "xx"))
	// What notes say plays no part, nor what the header says but of its sections.
	s := []byte(file(dir(l...), "[", "", "xx"))
	for i := 72; i < 99; i++ {
		s[i] = 1
	}
	told{l: l, data: "xx"}.try(t, string(s))
}

// P20.1: sections in any order, with gaps, over each other, and behind the end.
func TestSections(t *testing.T) {
	l := []entry.Entry{tile(4, 1, 7, 3), tile(5, 1, 0, 7)}
	leaf := dir(l...)
	root := dir(pointer(4, 0, len(leaf)))
	n, k := uint64(len(root)), uint64(len(leaf))
	for _, x := range []struct {
		numbers []uint64
		body    string
		data    string
	}{
		{[]uint64{127, n, 0, 0, 127 + n, k, 127 + n + k, 10}, root + leaf + "contentsea", "contentsea"},
		{[]uint64{137 + k, n, 3, 4, 137, k, 127, 10}, "contentsea" + leaf + root, "contentsea"},
		{[]uint64{129, n, 127, 0, 131 + n, k, 132 + n + k, 10}, "??" + root + "??" + leaf + "?contentsea?", "contentsea"},
		{[]uint64{127, n, 127 + n + k, 0, 127 + n, k, 0, 127}, root + leaf, head(127, n, 127+n+k, 0, 127+n, k, 0, 127)},
		{[]uint64{127, n, 0, 127 + n + k, 127 + n, k, 127, n + k}, root + leaf, root + leaf},
	} {
		s := head(x.numbers...) + x.body
		told{l: l, data: x.data}.try(t, s)
		told{l: l, data: x.data}.try(t, s+"beyond")
	}
	// The root is the leaf that its pointer leads to.
	deep := dir(pointer(4, 0, 6))
	told{bad: api.ErrDeep}.try(t, head(127, 5, 127, 0, 127, 5, 132, 0)+dir(pointer(4, 0, 5)))
	told{bad: api.ErrRange}.try(t, head(127, 5, 127, 0, 127, 5, 132, 0)+deep)
	// An empty section may stand at the end, but not behind it.
	for i := range 4 {
		numbers := []uint64{127, 1, 127, 1, 127, 1, 127, 1}
		for from := uint64(120); from < 140; from++ {
			numbers[2*i], numbers[2*i+1] = from, 0
			s := head(numbers...) + strings.Repeat("\x00", 3)
			switch {
			case from > 130:
				told{bad: api.ErrRange}.try(t, s)
			case i == 0:
				told{bad: api.ErrShort}.try(t, s)
			default:
				told{data: "\x00"[:numbers[7]]}.try(t, s)
			}
		}
	}
}

// heads tells spoilt headers of a file, and the error of each.
func heads(s string) map[string]api.Errno {
	m := map[string]api.Errno{s[:126]: api.ErrShort, "": api.ErrShort}
	for _, x := range []struct {
		at   int
		c    byte
		want api.Errno
	}{
		{0, 'p', api.ErrMagic}, {7, 2, api.ErrVersion}, {96, 2, api.ErrForm}, {97, 5, api.ErrKind}, {99, 6, api.ErrKind}, {101, 27, api.ErrRange}, {118, 27, api.ErrRange},
		// Sections that are too long, or stand beyond the end.
		{15, 1, api.ErrRange}, {11, 1, api.ErrRange}, {19, 1, api.ErrRange}, {27, 1, api.ErrRange}, {35, 1, api.ErrRange}, {43, 1, api.ErrRange}, {51, 1, api.ErrRange}, {59, 1, api.ErrRange}, {67, 1, api.ErrRange},
	} {
		b := []byte(s)
		b[x.at] = x.c
		m[string(b)] = x.want
	}
	return m
}

// wrong is a part of an archive, and its error.
type wrong struct {
	s    string
	want api.Errno
}

// wrongDirs tells texts that are no directory.
func wrongDirs() []wrong {
	return []wrong{
		{"", api.ErrShort},
		{"\x01", api.ErrShort},
		{"\x80", api.ErrShort},
		{"\x00\x00", api.ErrForm},
		{"\x80\x00", api.ErrForm},
		{"\x01\x01\x01\x01\x00", api.ErrForm},
		{dir(make([]entry.Entry, 4097)...), api.ErrMany},
		{"\x01\x01\x80\x80\x80\x80\x10\x01\x01", api.ErrOver},
		{dir(tile(1, 1, 0, 0)), api.ErrArg},
		{dir(tile(count, 1, 0, 1)), api.ErrRange},
		{dir(tile(1, 1, most, 1)), api.ErrRange},
		{dir(tile(1, 2, 0, 1), tile(2, 1, 9, 1)), api.ErrOrder},
		{strings.Repeat("\x00", 65537), api.ErrLong},
	}
}

// P20.1, P20.2, P20.3: of several errors that of the header is told first, then
// that of the root, then those of the leaves; what is wrong with the contents is
// behind all of them.
func TestErrors(t *testing.T) {
	ok := tile(1, 1, 9, 9)
	for _, x := range wrongDirs() {
		if _, _, bad := dirs.Decode(x.s); bad != x.want {
			t.Fatalf("%.40q: error %d, want %d", x.s, int(bad), int(x.want))
		}
		// A root that is wrong, with leaves that are.
		s := file(x.s, "[", "\x01", "")
		told{bad: x.want}.try(t, s)
		for spoilt, want := range heads(s) {
			told{bad: want}.try(t, spoilt)
		}
		// A leaf that is wrong, behind one that is right, or ahead of a wrong one.
		n := len(x.s)
		for at, leaf := range []string{x.s, "\x00" + x.s} {
			if n > 0 {
				told{bad: x.want}.try(t, file(dir(pointer(4, at, n)), "{}", leaf, "x"))
				told{bad: x.want}.try(t, file(dir(ok, pointer(4, at, n), pointer(5, 99, 1)), "{}", leaf, "x"))
			}
		}
		// What no pointer leads to is not asked.
		told{l: []entry.Entry{ok}, data: "x"}.try(t, file(dir(ok), x.s, x.s, "x"))
	}
}

// P20.1: errors of Join, of one pointer, and of several.
func TestErrorsOfLeaves(t *testing.T) {
	ok := tile(1, 1, 9, 9)
	leaf := dir(tile(4, 2, 0, 1), tile(7, 1, 1, 1))
	deep := dir(tile(4, 1, 0, 1), pointer(7, 0, 1))
	text := leaf + deep + "\x00"
	n, k := len(leaf), len(deep)
	for _, x := range []struct {
		root []entry.Entry
		want api.Errno
	}{
		{[]entry.Entry{pointer(4, 0, n+k+2)}, api.ErrRange},
		{[]entry.Entry{pointer(4, n+k+1, 1)}, api.ErrRange},
		{[]entry.Entry{pointer(4, 1<<40-1, 1)}, api.ErrRange},
		{[]entry.Entry{pointer(4, 0, math.MaxUint32)}, api.ErrRange},
		{[]entry.Entry{pointer(4, 0, n-1)}, api.ErrShort},
		{[]entry.Entry{pointer(4, 0, n+1)}, api.ErrForm},
		{[]entry.Entry{pointer(4, n, k)}, api.ErrDeep},
		{[]entry.Entry{pointer(3, n, k)}, api.ErrDeep},
		{[]entry.Entry{pointer(3, 0, n)}, api.ErrOrder},
		{[]entry.Entry{pointer(5, 0, n)}, api.ErrOrder},
		{[]entry.Entry{pointer(0, n+k, 1)}, api.ErrOrder},
		{[]entry.Entry{ok, pointer(4, 0, n), pointer(6, n, k)}, api.ErrDeep},
		{[]entry.Entry{pointer(3, 0, n), pointer(6, n, k)}, api.ErrOrder},
		{[]entry.Entry{pointer(4, 0, n), tile(7, 1, 0, 1)}, api.ErrOrder},
		{[]entry.Entry{tile(1, 4, 0, 1), pointer(5, 0, n)}, api.ErrOrder},
		{[]entry.Entry{pointer(4, 0, n), tile(7, 1, 0, 1), pointer(8, 0, n-1)}, api.ErrShort},
	} {
		s := file(dir(x.root...), "", text, "x")
		told{bad: x.want}.try(t, s)
		for spoilt, want := range heads(s) {
			told{bad: want}.try(t, spoilt)
		}
	}
}

// P20.1, P20.2, P20.3: archives that are cut off at any place, and longer ones.
func TestCutOff(t *testing.T) {
	for _, s := range someFiles() {
		for n := range len(s) {
			want := api.ErrRange
			if n < 127 {
				want = api.ErrShort
			}
			told{bad: want}.try(t, s[:n])
		}
		for _, more := range []string{"", "\x00", "x", s} {
			tryWords(t, s+more)
		}
	}
}

// P20.1, P20.2, P20.3: archives with each byte at each place.
func TestSpoilt(t *testing.T) {
	for _, s := range someFiles() {
		for at := range len(s) {
			spoilt := []byte(s)
			for c := range 256 {
				spoilt[at] = byte(c)
				tryWords(t, string(spoilt))
			}
		}
	}
}

// P20.1, P20.2, P20.3: archives with up to five drawn bytes behind the header,
// or in its sections' numbers.
func TestSpoiltTwice(t *testing.T) {
	drawn := rand.New(rand.NewSource(20))
	files := someFiles()
	for range 60000 {
		spoilt := []byte(files[drawn.Intn(len(files))])
		for range 1 + drawn.Intn(5) {
			at := 127 + drawn.Intn(len(spoilt)-127)
			if drawn.Intn(4) == 0 {
				at = 8 + 8*drawn.Intn(8)
			}
			c := byte(drawn.Intn(12))
			if drawn.Intn(2) == 0 {
				c = spoilt[at] + c - 6
			}
			spoilt[at] = c
		}
		tryWords(t, string(spoilt))
	}
}

// listsOf tells all lists of up to n of some entries.
func listsOf(some []entry.Entry, n int) [][]entry.Entry {
	all := [][]entry.Entry{nil}
	for from := 0; n > 0; n-- {
		to := len(all)
		for _, l := range all[from:to] {
			for _, e := range some {
				all = append(all, append(slices.Clone(l), e))
			}
		}
		from = to
	}
	return all
}

// P20.1, P20.2, P20.3: all roots of up to three of some entries and pointers,
// right and wrong, over leaves of many kinds, with contents of some lengths.
func TestShortRoots(t *testing.T) {
	some := []entry.Entry{
		tile(0, 1, 0, 1), tile(1, 2, 0, 3), tile(3, 1, 1, 2), tile(4, 3, 0, 1), tile(6, 1, 3, 1), tile(9, 2048, 0, 1), tile(9, 2049, 0, 2), tile(2057, 1, 0, 4),
		tile(2058, 1, most-1, 1), tile(2060, math.MaxUint32, 0, 1), tile(2061, 1, 0, 0), tile(count, 1, 0, 1), tile(count-1, 1, 2, 2),
	}
	var text string
	put := func(id uint64, s string) {
		some = append(some, pointer(id, len(text), len(s)))
		text += s
	}
	put(2, dir(tile(2, 1, 2, 2)))
	put(5, dir(tile(5, 2, 0, 1), tile(8, 1, 0, 4)))
	put(7, dir(tile(7, 1, 0, 5), tile(2056, 2, 1, 1)))
	put(8, dir(tile(8, 1, 0, 1), pointer(9, 0, 1)))
	put(9, dir(tile(10, 1, 0, 1)))
	put(10, "\x00")
	put(11, "\x01\x0b\x01\x01")
	some = append(some, pointer(12, len(text), 1), pointer(2, 1, 4))
	for _, l := range listsOf(some, 3) {
		root := dir(l...)
		for _, data := range []string{"", "xyz", "wxyz"} {
			tryWords(t, file(root, "", text, data))
		}
	}
}

// P20.2: of an entry whose content is not all there ErrRange is told, of all
// others their own content, whatever stands ahead.
func TestTileAtEndOfContents(t *testing.T) {
	for n := range 9 {
		data := "tilebyte"[:n]
		for offset := range uint64(11) {
			for length := uint32(1); length < 11; length++ {
				l := []entry.Entry{tile(2, 2, most-1, 1), tile(4, 2, offset, length), tile(6, 1, 0, math.MaxUint32), tile(7, 1, 0, 1)}
				s := file(dir(l...), "", "", data)
				told{l: l, data: data}.try(t, s)
				want := found{bad: api.ErrRange}
				if int(offset)+int(length) <= n {
					want = found{s: data[offset:][:length], is: true}
				}
				for id := uint64(4); id < 6; id++ {
					if text, is, bad := Tile(s, id); (found{text, is, bad}) != want {
						t.Fatalf("tile %d at %d, %d in %q: %q, %v, error %d", id, offset, length, data, text, is, int(bad))
					}
				}
			}
		}
	}
}

// P20.2: all identifiers from nought to behind an archive's last one.
func TestTileOfEachID(t *testing.T) {
	for _, s := range someFiles() {
		for id := range uint64(99) {
			rows(s).tryTile(t, s, id)
		}
	}
	// The content of each entry is another one.
	for _, at := range []uint64{0, 1, 20, 1 << 32, count - 4096} {
		var l []entry.Entry
		for i := range uint64(1024) {
			l = append(l, tile(at+4*i, uint32(1+i%4), 2*i, 2))
		}
		x := told{l: l, data: strings.Repeat("some of many contents.", 100)}
		s := file(dir(l...), "", "", x.data)
		for id := at; id < at+4096; id += 1 + id%7 {
			x.tryTile(t, s, id)
		}
		x.tryTile(t, s, at-1)
	}
}

// P20.2: what is too long for a chart, and of too many tiles, is told as a tile
// all the same, up to the last one of all.
func TestTileOfGreatEntries(t *testing.T) {
	data := strings.Repeat("0123456789", 7000)
	for _, e := range []entry.Entry{tile(0, 1, 0, 65536), tile(0, 1, 0, 65537), tile(9, 1, 1, 69999), tile(5, math.MaxUint32, 3, 1), tile(count-math.MaxUint32, math.MaxUint32, 69999, 1), tile(count-1, 1, 0, 70000)} {
		s := file(dir(e), "", "", data)
		told{l: []entry.Entry{e}, data: data}.try(t, s)
		for _, id := range []uint64{e.ID, e.ID + uint64(e.Run) - 1} {
			if text, is, bad := Tile(s, id); text != data[e.Offset:][:e.Length] || !is || bad != api.OK {
				t.Errorf("%v, tile %d: %d bytes, %v, error %d", e, id, len(text), is, int(bad))
			}
		}
	}
}

// P20.3: of the entries the first error is told; behind those of Rows.
func TestErrorsOfRead(t *testing.T) {
	data := strings.Repeat("x", 65537)
	ok := tile(1, 1, 0, 1)
	for _, x := range []struct {
		l    []entry.Entry
		want api.Errno
	}{
		{[]entry.Entry{ok, tile(2, 2047, 0, 65536)}, api.OK},
		{[]entry.Entry{ok, tile(2, 2048, 0, 1)}, api.ErrMany},
		{[]entry.Entry{ok, tile(2, 2047, 0, 1), tile(3000, 1, 0, 65538)}, api.ErrRange},
		{[]entry.Entry{ok, tile(2, 2047, 0, 1), tile(3000, 1, 0, 65537)}, api.ErrMany},
		{[]entry.Entry{ok, tile(2, math.MaxUint32, 0, 65537)}, api.ErrMany},
		{[]entry.Entry{ok, tile(2, 2047, 0, 65537)}, api.ErrLong},
		{[]entry.Entry{ok, tile(2, 2047, 1, 65537)}, api.ErrRange},
		{[]entry.Entry{ok, tile(2, 1, 1, 65536), tile(3, 1, 65537, 1)}, api.ErrRange},
		{[]entry.Entry{tile(1, 1, 65537, 1), tile(2, 9999, 0, 65537)}, api.ErrRange},
		{[]entry.Entry{tile(1, 1, 0, 65537), tile(2, 9999, 0, 65538)}, api.ErrLong},
		{[]entry.Entry{tile(1, 2049, 0, 1), tile(9999, 1, most-1, 1)}, api.ErrMany},
	} {
		leaf := dir(x.l[1:]...)
		for _, s := range []string{
			file(dir(x.l...), "", "", data),
			file(dir(x.l[0], pointer(x.l[1].ID, 0, len(leaf))), "", leaf, data),
		} {
			if c, bad := Read(s); bad != x.want || (c.Len() == 0) != (x.want != api.OK) {
				t.Errorf("%v: %d tiles, error %d, want %d", x.l, c.Len(), int(bad), int(x.want))
			}
			told{l: x.l, data: data}.try(t, s)
			for spoilt, want := range heads(s) {
				told{bad: want}.try(t, spoilt)
			}
		}
		// A leaf that is wrong is told ahead of them.
		told{bad: api.ErrShort}.try(t, file(dir(append(x.l, pointer(count-1, 0, 1))...), "", "\x01", data))
	}
}

// P20.1, P20.3: as many entries as there may be, of the root and of leaves; of
// more ErrMany is told.
func TestMany(t *testing.T) {
	var l []entry.Entry
	for i := range uint64(4200) {
		l = append(l, tile(3*i, 1, i%7, 1))
	}
	for _, n := range []int{2048, 2049, 4095, 4096, 4097, 4200} {
		for _, size := range []int{1, 50, 1000, 4096} {
			var root []entry.Entry
			var leaves strings.Builder
			for piece := range slices.Chunk(l[:n], size) {
				s := dir(piece...)
				root = append(root, pointer(piece[0].ID, leaves.Len(), len(s)))
				leaves.WriteString(s)
			}
			want := told{l: l[:n], data: "content"}
			if n > 4096 {
				want = told{bad: api.ErrMany}
			}
			want.try(t, file(dir(root...), "{}", leaves.String(), "content"))
			want.try(t, file(dir(l[:n]...), "{}", leaves.String(), "content"))
		}
	}
}

// sized tells 4096 entries, whose directory has so many bytes.
func sized(t *testing.T, size int) []entry.Entry {
	t.Helper()
	var l []entry.Entry
	for i := range uint64(4096) {
		l = append(l, tile(i<<36, 1<<28, i%2<<28, 1<<28))
	}
	over := len(dir(l...)) - size
	for i := range l {
		// A run has five bytes, and one less by each seven binary digits.
		less := min(over, 4)
		l[i].Run >>= 7 * less
		over -= less
	}
	if n := len(dir(l...)); n != size {
		t.Fatalf("a directory of %d bytes, want %d", n, size)
	}
	return l
}

// P20.1: directories of up to 65536 bytes; behind such a one no byte may stand.
func TestLongDirectories(t *testing.T) {
	for _, n := range []int{65535, 65536, 65537} {
		l := sized(t, n)
		s := dir(l...)
		want, more := told{l: l, data: "x"}, told{bad: api.ErrForm}
		if n == 65536 {
			more.bad = api.ErrLong
		}
		if n > 65536 {
			want, more = told{bad: api.ErrLong}, told{bad: api.ErrLong}
		}
		want.try(t, file(s, "", "", "x"))
		want.try(t, file(dir(pointer(0, 1, n)), "", "?"+s, "x"))
		more.try(t, file(s+"\x00", "", "", "x"))
		more.try(t, file(dir(pointer(0, 1, n+1)), "", "?"+s+"\x00", "x"))
	}
}

// tryPressed holds that a chart comes back of its archive, with just its tiles,
// and that no rule is broken (Theorem 4).
func tryPressed(t *testing.T, m model, p press.Plan) {
	t.Helper()
	c := m.chart(t)
	s, bad := press.Press(c, p)
	if bad != api.OK || !audit.Good(s, p.Budget) {
		t.Fatalf("%d tiles, budget %d: error %d, rules %d", len(m), p.Budget, int(bad), audit.Check(s, p.Budget))
	}
	if d, bad := Read(s); bad != api.OK || !chart.Same(c, d) {
		t.Fatalf("%d tiles, budget %d: %d come back, error %d", len(m), p.Budget, d.Len(), int(bad))
	}
	x := rows(s)
	x.try(t, s)
	ids := slices.Sorted(maps.Keys(m))
	step := 1 + len(ids)/10
	for i := 0; i < len(ids); i += step {
		for _, id := range []uint64{ids[i] - 1, ids[i], ids[i] + 1} {
			text, is, bad := Tile(s, id)
			if want, has := m[id]; text != want || is != has || bad != api.OK {
				t.Fatalf("%d tiles, budget %d, tile %d: %.40q, %v, error %d; want %.40q, %v", len(m), p.Budget, id, text, is, int(bad), want, has)
			}
		}
	}
}

// P20.1, P20.2, P20.3: all charts of five tiles in a row, each of which is not
// there or has one of three contents.
func TestPressedSmallCharts(t *testing.T) {
	texts := []string{"", "a", "ab", "ba"}
	for i := range 4 * 4 * 4 * 4 * 4 {
		m := model{}
		for id, left := uint64(3), i; left > 0; id, left = id+1, left/4 {
			if s := texts[left%4]; s != "" {
				m[id] = s
			}
		}
		tryPressed(t, m, press.Plan{Budget: 512 + i, Kind: uint8(i % 6), Note: fmt.Sprintf(`{"i":%d}`, i)})
	}
}

// P20.1, P20.2, P20.3: charts of up to as many tiles as there may be, with roots
// that hold all entries, and with leaves of many sizes.
func TestPressedFullCharts(t *testing.T) {
	contents := []func(i int) string{
		func(i int) string { return "one" },
		func(i int) string { return strconv.Itoa(i % 2) },
		func(i int) string { return "run " + strconv.Itoa(i/7%5) },
		func(i int) string { return "tile " + strconv.Itoa(i) },
	}
	places := []func(i uint64) uint64{
		func(i uint64) uint64 { return i },
		func(i uint64) uint64 { return 2*i + 1 },
		func(i uint64) uint64 { return count - 1 - i*i },
		func(i uint64) uint64 { return i << 41 },
	}
	for _, n := range []int{130, 400, 2048} {
		for _, content := range contents {
			for _, place := range places {
				m := model{}
				for i := range n {
					m[place(uint64(i))] = content(i)
				}
				for _, budget := range []int{512, 4096, 16257} {
					tryPressed(t, m, press.Plan{Budget: budget, Kind: 1, Note: `{"name":"full"}`})
				}
			}
		}
	}
}

// P20.2, P20.3: contents of as many bytes as there may be.
func TestPressedLongContents(t *testing.T) {
	long := strings.Repeat("\x00\xff\x80tile", 65536)[:65532]
	m := model{}
	for i := range 60 {
		m[uint64(i*i)] = long + strconv.Itoa(1000+i)
	}
	m[7], m[8], m[1<<50] = m[0], m[4], "PMTiles"
	tryPressed(t, m, press.Plan{Budget: 512, Kind: 2, Note: "{}"})
}

// P20.1, P20.2: an answer is new memory, and its spare room, too; it hangs on
// the bytes alone, whatever was told ahead.
func TestNothingShared(t *testing.T) {
	for _, s := range someFiles() {
		want := rows(s)
		l, data, _ := Rows(s)
		other, otherData, _ := Rows(s)
		for i := range l[:cap(l)] {
			l[:cap(l)][i] = tile(77, 7, 7, 7)
		}
		if !slices.Equal(other, want.l) {
			t.Errorf("what was told is changed: %v, want %v", other, want.l)
		}
		if len(data) > 0 && (within(data, s) || within(data, otherData)) {
			t.Errorf("the contents %q are somebody else's memory", data)
		}
		for _, e := range want.l {
			text, is, _ := Tile(s, e.ID)
			again, _, _ := Tile(s, e.ID)
			if is && (within(text, s) || within(text, data) || len(text) > 1 && within(text, again)) {
				t.Errorf("the tile %d's bytes %q are somebody else's memory", e.ID, text)
			}
		}
		Rows("")
		Tile(s[:len(s)-1], 5)
		Read(s)
		want.try(t, s)
	}
}

// within tells whether a text begins in another one's memory.
func within(s, other string) bool {
	at, from := uintptr(unsafe.Pointer(unsafe.StringData(s))), uintptr(unsafe.Pointer(unsafe.StringData(other)))
	return at >= from && at < from+uintptr(len(other))
}
