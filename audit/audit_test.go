package audit

import (
	"encoding/binary"
	"math"
	"math/rand"
	"slices"
	"strings"
	"testing"

	"gazetteer/api"
	"gazetteer/chart"
	"gazetteer/dirs"
	"gazetteer/entry"
	"gazetteer/header"
	"gazetteer/notes"
	"gazetteer/press"
)

const (
	count = uint64(6004799503160661) // how many tiles there are
	most  = uint64(1) << 40          // the greatest place of an archive
)

// section tells the bytes of the section whose From stands at a place of s, as
// far as s reaches.
func section(s string, at int) string {
	from, length := number(s, at), number(s, at+8)
	if from >= uint64(len(s)) {
		return ""
	}
	return s[from:][:min(length, uint64(len(s))-from)]
}

// number tells the number that stands at a place of s.
func number(s string, at int) uint64 { return binary.LittleEndian.Uint64([]byte(s[at:][:8])) }

// last tells an entry's last identifier.
func last(e entry.Entry) uint64 { return e.ID + max(1, uint64(e.Run)) - 1 }

// zoom tells an identifier's zoom.
func zoom(id uint64) byte {
	z := byte(0)
	for n := uint64(1); id >= n; n *= 4 {
		id -= n
		z++
	}
	return z
}

// isDirectory tells the entries of a text, and whether it is a directory's.
func isDirectory(s string) ([]entry.Entry, bool) {
	l, _, bad := dirs.Decode(s)
	return l, bad == api.OK
}

// rules tells Check's answer, by the words of the chapter.
func rules(s string, budget int) []uint8 {
	h, bad := header.Decode(s)
	if bad != api.OK {
		return []uint8{Head}
	}
	var l []uint8
	add := func(rule uint8, is bool) {
		if is {
			l = append(l, rule)
		}
	}
	end := func(at int) uint64 { return number(s, at) + number(s, at+8) }
	v, _, bad := notes.Take(section(s, 24))
	_, isObject := v.([]notes.Pair)
	add(Laid, header.Laid(h, uint64(len(s))) != api.OK)
	add(Tight, number(s, 8) != 127 || number(s, 24) != end(8) || number(s, 40) != end(24) || number(s, 56) != end(40) || uint64(len(s)) != end(56))
	add(Codec, s[96:99] != "\x01\x01\x01")
	add(Notes, bad != api.OK || !isObject)
	add(Budget, budget < 0 || number(s, 16) > uint64(budget))
	root, is := isDirectory(section(s, 8))
	if !is {
		return append(l, Root)
	}
	entries, isLeaf, isDeep := joined(root, section(s, 40))
	add(Leaf, isLeaf)
	add(Deep, isDeep)
	if isLeaf || isDeep {
		return l
	}
	return append(l, entryRules(s, entries)...)
}

// joined tells the entries of a root and its leaves, and whether Leaf and Deep
// are broken, by the words of the chapter.
func joined(root []entry.Entry, leaves string) (l []entry.Entry, isLeaf, isDeep bool) {
	for _, e := range root {
		if e.Run > 0 {
			l = append(l, e)
			continue
		}
		if uint64(len(leaves)) < e.Offset || uint64(len(leaves))-e.Offset < uint64(e.Length) {
			isLeaf = true
			continue
		}
		under, is := isDirectory(leaves[e.Offset:][:e.Length])
		if !is || len(under) == 0 || under[0].ID != e.ID {
			isLeaf = true
			continue
		}
		for _, e := range under {
			isDeep = isDeep || e.Run == 0
		}
		l = append(l, under...)
	}
	return l, isLeaf, isDeep
}

// entryRules tells the rules behind Deep that s breaks, with such entries.
func entryRules(s string, entries []entry.Entry) []uint8 {
	data := section(s, 56)
	pairs := map[[2]uint64]bool{}
	sum := uint64(0)
	var isRows, isData, isRuns bool
	for i, e := range entries {
		sum += uint64(e.Run)
		pairs[[2]uint64{e.Offset, uint64(e.Length)}] = true
		isData = isData || e.Offset+uint64(e.Length) > uint64(len(data))
		if i == 0 {
			continue
		}
		ahead := entries[i-1]
		isRows = isRows || e.ID <= last(ahead)
		isRuns = isRuns || e.ID == last(ahead)+1 && e.Offset == ahead.Offset && e.Length == ahead.Length
	}
	var l []uint8
	for _, x := range []struct {
		rule uint8
		is   bool
	}{
		{Rows, isRows}, {Data, isData}, {Runs, isRuns}, {Once, !isData && !fillOnce(pairs, data)},
		{Counts, number(s, 72) != sum || number(s, 80) != uint64(len(entries)) || number(s, 88) != uint64(len(pairs))},
		{Zooms, s[100] != leastZoom(entries) || s[101] != greatestZoom(entries)},
	} {
		if x.is {
			l = append(l, x.rule)
		}
	}
	return l
}

// fillOnce tells whether just one place has each byte of the data, and no two
// places have the same bytes.
func fillOnce(pairs map[[2]uint64]bool, data string) bool {
	had := make([]int, len(data))
	contents := map[string]bool{}
	for p := range pairs {
		for i := range p[1] {
			had[p[0]+i]++
			if had[p[0]+i] > 1 {
				return false
			}
		}
		contents[data[p[0]:][:p[1]]] = true
	}
	return !slices.Contains(had, 0) && len(contents) == len(pairs)
}

// leastZoom tells the zoom that MinZoom is to be.
func leastZoom(l []entry.Entry) byte {
	if len(l) == 0 {
		return 0
	}
	return zoom(l[0].ID)
}

// greatestZoom tells the zoom that MaxZoom is to be.
func greatestZoom(l []entry.Entry) byte {
	if len(l) == 0 {
		return 0
	}
	return zoom(last(l[len(l)-1]))
}

// short tells a text, or as much of it as an error's line has room for.
func short(s string) string { return s[:min(len(s), 400)] }

// tryWords holds Check and Good against the words, and tells the rules.
func tryWords(t *testing.T, s string, budget int) []uint8 {
	t.Helper()
	want := rules(s, budget)
	got := Check(s, budget)
	if !slices.Equal(got, want) || Good(s, budget) != (len(want) == 0) {
		t.Fatalf("Check(%d bytes %q, %d): %d, Good %v; want %d", len(s), short(s), budget, got, Good(s, budget), want)
	}
	return want
}

// try holds Check and Good against rules that are written out.
func try(t *testing.T, s string, budget int, want ...uint8) {
	t.Helper()
	if l := tryWords(t, s, budget); !slices.Equal(l, want) {
		t.Fatalf("%d bytes %q, budget %d: the rules %d, want %d", len(s), short(s), budget, l, want)
	}
}

// file is what an archive is made of. The sections of its header are told by the
// parts.
type file struct {
	h            header.Header
	root         string
	note, leaves string
	data         string
}

// dir tells the bytes of entries.
func dir(l ...entry.Entry) string {
	s, bad := dirs.Encode(l)
	if bad != api.OK {
		panic(bad)
	}
	return s
}

// head tells a header that breaks no rule with such entries, but that it has no
// sections.
func head(l ...entry.Entry) header.Header {
	pairs := map[[2]uint64]bool{}
	h := header.Header{Clustered: true, Inner: 1, Outer: 1, Entries: uint64(len(l)), MinZoom: int(leastZoom(l)), MaxZoom: int(greatestZoom(l))}
	for _, e := range l {
		h.Addressed += uint64(e.Run)
		pairs[[2]uint64{e.Offset, uint64(e.Length)}] = true
	}
	h.Contents = uint64(len(pairs))
	return h
}

// flat tells a file of a root without pointers.
func flat(data string, l ...entry.Entry) file {
	return file{h: head(l...), root: dir(l...), note: "{}", data: data}
}

// laid tells a file's header, with its sections one right behind the other.
func (f file) laid() header.Header {
	h := f.h
	end := uint64(127)
	for _, x := range []struct {
		part *header.Section
		s    string
	}{{&h.Root, f.root}, {&h.Meta, f.note}, {&h.Leaves, f.leaves}, {&h.Data, f.data}} {
		*x.part = header.Section{From: end, Length: uint64(len(x.s))}
		end += uint64(len(x.s))
	}
	return h
}

// body tells what stands behind a file's header.
func (f file) body() string { return f.root + f.note + f.leaves + f.data }

// text tells a file's bytes.
func (f file) text() string { return raw(f.laid(), f.body()) }

// raw tells a header's bytes, and what stands behind them.
func raw(h header.Header, body string) string {
	s, bad := header.Encode(h)
	if bad != api.OK {
		panic(bad)
	}
	return s + body
}

// tile tells an entry of tiles.
func tile(id uint64, run uint32, offset uint64, length uint32) entry.Entry {
	return entry.Entry{ID: id, Run: run, Offset: offset, Length: length}
}

// pointer tells an entry that points to a leaf.
func pointer(id, offset uint64, leaf string) entry.Entry {
	return entry.Entry{ID: id, Offset: offset, Length: uint32(len(leaf))}
}

// deepFile tells a file of two leaves, and two entries in its root.
func deepFile() file {
	a, b := []entry.Entry{tile(2, 3, 2, 3), tile(7, 1, 0, 2)}, []entry.Entry{tile(30, 1, 5, 1), tile(31, 50, 0, 2)}
	f := flat("aabbbc", slices.Concat([]entry.Entry{tile(1, 1, 0, 2)}, a, []entry.Entry{tile(21, 2, 2, 3)}, b)...)
	f.leaves = dir(a...) + dir(b...)
	f.root = dir(tile(1, 1, 0, 2), pointer(2, 0, dir(a...)), tile(21, 2, 2, 3), pointer(30, uint64(len(dir(a...))), dir(b...)))
	return f
}

// goodFiles tells files that break no rule.
func goodFiles() []file {
	return []file{
		flat(""),
		flat("x", tile(0, 1, 0, 1)),
		flat("sealand", tile(1, 2, 0, 3), tile(7, 1, 3, 4)),
		flat("sea", tile(4, 1, 0, 3), tile(6, 1, 0, 3)),
		flat("sealand", tile(4, 1, 3, 4), tile(5, 900, 0, 3), tile(905, 1, 3, 4)),
		{h: head(), root: dir(), note: ` { "a" : [ null ] } `},
		deepFile(),
	}
}

// P19.1: the rules' numbers.
func TestRules(t *testing.T) {
	for i, rule := range []uint8{Head, Laid, Tight, Codec, Notes, Budget, Root, Leaf, Deep, Rows, Data, Runs, Once, Counts, Zooms} {
		if int(rule) != i+1 {
			t.Errorf("rule %d has the number %d", i+1, rule)
		}
	}
}

// P19.1: of good files none is told, with any budget that is not too small.
func TestGood(t *testing.T) {
	for _, f := range goodFiles() {
		n := len(f.root)
		for _, budget := range []int{n, n + 1, 512, 16257, 1 << 40, math.MaxInt} {
			try(t, f.text(), budget)
		}
		for kind := range uint8(6) {
			f.h.Kind, f.h.Zoom, f.h.MinLon, f.h.Lat = kind, 26, -5, 900000000
			try(t, f.text(), n)
		}
	}
}

// P19.1: Head, behind which nothing else is told.
func TestHead(t *testing.T) {
	try(t, "", 512, Head)
	try(t, "", -1, Head)
	for _, f := range goodFiles() {
		s := f.text()
		for n := range 127 {
			try(t, s[:n], -1, Head)
		}
		for _, x := range []struct {
			at int
			c  byte
		}{{0, 'p'}, {6, 'S'}, {7, 2}, {7, 4}, {13, 2}, {21, 2}, {62, 9}, {71, 1}, {96, 2}, {97, 5}, {98, 255}, {99, 6}, {101, 27}, {118, 27}, {105, 0x7f}} {
			spoilt := []byte(s)
			spoilt[x.at] = x.c
			try(t, string(spoilt), 512, Head)
			try(t, string(spoilt)+"x", -1, Head)
		}
	}
}

// P19.1: Laid and Tight: gaps, overlaps, and sections beyond the end.
func TestLaidAndTight(t *testing.T) {
	f := deepFile()
	root, note, leaves, data := f.root, f.note, f.leaves, f.data
	at := func(x uint64, s string) header.Section { return header.Section{From: x, Length: uint64(len(s))} }
	for i, parts := range [][4]string{{"?", "", "", ""}, {"", "?", "", ""}, {"", "", "?", ""}, {"", "", "", "?"}} {
		h := f.laid()
		gap := [4]uint64{}
		for j := i; j < 4; j++ {
			gap[j] = 1
		}
		h.Root.From += gap[0]
		h.Meta.From += gap[1]
		h.Leaves.From += gap[2]
		h.Data.From += gap[3]
		try(t, raw(h, parts[0]+root+parts[1]+note+parts[2]+leaves+parts[3]+data), 512, Tight)
	}
	s := f.text()
	try(t, s+"\x00", 512, Tight)
	try(t, s+s, 512, Tight)
	try(t, s[:len(s)-1], 512, Laid, Tight, Data)
	// Parts in another order.
	h := f.laid()
	end := h.Root.End()
	h.Data, h.Leaves = at(end, data), at(end+uint64(len(data)), leaves)
	h.Meta = at(h.Leaves.End(), note)
	try(t, raw(h, root+data+leaves+note), 512, Laid, Tight)
	// Empty sections that stand anywhere.
	f = flat("x", tile(0, 1, 0, 1))
	for _, from := range []uint64{0, 126, 127, 131, 133, 135, 136, 1 << 20, most} {
		h := f.laid()
		h.Leaves.From = from
		try(t, raw(h, f.body()), 512, Laid, Tight)
	}
	f = flat("")
	for _, from := range []uint64{131, 255, 1 << 31, 1 << 32, most} {
		h := f.laid()
		h.Data.From = from
		try(t, raw(h, f.body()), 512, Laid, Tight)
		try(t, raw(h, f.body()+strings.Repeat("?", int(min(from, 999))-130)), 512, overOf(from > 999)...)
	}
	// The root within the header.
	h = f.laid()
	h.Root.From = 126
	try(t, raw(h, f.body()), 512, Laid, Tight)
	h = f.laid()
	h.Root, h.Meta = at(0, "PMTiles"), h.Root
	try(t, raw(h, f.body()), 512, Laid, Tight, Notes, Root)
}

// overOf tells what a gap breaks, if a section stands beyond the end, or else.
func overOf(isBeyond bool) []uint8 {
	if isBeyond {
		return []uint8{Laid, Tight}
	}
	return []uint8{Tight}
}

// P19.1: Codec.
func TestCodec(t *testing.T) {
	for _, f := range goodFiles() {
		for coding := range uint8(5) {
			var want []uint8
			if coding != 1 {
				want = []uint8{Codec}
			}
			g := f
			g.h.Inner = coding
			try(t, g.text(), 512, want...)
			g = f
			g.h.Outer = coding
			try(t, g.text(), 512, want...)
			g.h.Inner = 2
			try(t, g.text(), 512, Codec)
		}
		f.h.Clustered = false
		try(t, f.text(), 512, Codec)
	}
}

// P19.1: Notes: JSON that is wrong, and such of no object.
func TestNotes(t *testing.T) {
	for _, f := range goodFiles() {
		for _, note := range []string{"{}", " {\n}\t", `{"a":{"b":[]}}`, "{" + strings.Repeat(" ", 4094) + "}"} {
			f.note = note
			try(t, f.text(), 512)
		}
		for _, note := range []string{
			"", " ", "{", "{}x", "{a}", `{"a":1,"a":2}`, `{"a":-0}`, "{\"\xff\":1}", "{}{}", `{"a":9007199254740992}`, "{" + strings.Repeat(" ", 4095) + "}",
			"null", "[]", "[{}]", `"{}"`, "0", "true",
		} {
			f.note = note
			try(t, f.text(), 512, Notes)
		}
	}
	// Notes in a section that goes on beyond the end, or ends just there.
	f := flat("x", tile(0, 1, 0, 1))
	h := f.laid()
	h.Meta = header.Section{From: 133, Length: 4}
	for i, want := range [][]uint8{{Laid, Tight, Notes}, {Laid, Tight, Notes}, {Laid, Tight}, {Laid, Tight}, {Laid, Tight, Notes}} {
		h.Data.From = 132
		try(t, raw(h, f.root+"x"+"{} x"[:i]), 512, want...)
	}
}

// P19.1: Budget: it is the section's length that counts, not its text's.
func TestBudget(t *testing.T) {
	for _, f := range goodFiles() {
		s := f.text()
		n := len(f.root)
		for budget := -3; budget < n; budget++ {
			try(t, s, budget, Budget)
		}
		for _, budget := range []int{math.MinInt, math.MinInt32, -1 << 40} {
			try(t, s, budget, Budget)
		}
	}
	// The root stands last; behind it, as far as its section goes, there is nothing.
	f := deepFile()
	h := f.laid()
	h.Root.From = uint64(len(f.text()))
	for _, more := range []uint64{0, 1, 100, 1 << 33, most - 1000} {
		h.Root.Length = uint64(len(f.root)) + more
		s := raw(h, f.body()+f.root)
		try(t, s, int(h.Root.Length), Laid, Tight)
		try(t, s, int(h.Root.Length)-1, Laid, Tight, Budget)
		try(t, s, math.MaxInt, Laid, Tight)
	}
	// An empty root is not above a budget of 0, but above one below.
	f = file{h: head(), note: "{}"}
	try(t, f.text(), 0, Root)
	try(t, f.text(), -1, Budget, Root)
}

// P19.1: Root, behind which nothing is asked, while all ahead of it is.
func TestRoot(t *testing.T) {
	f := flat("sealand", tile(1, 2, 0, 3), tile(7, 1, 3, 4))
	f.h.Addressed, f.h.MaxZoom, f.data = 99, 9, "sealan"
	try(t, f.text(), 512, Data, Counts, Zooms)
	good := f.root
	for _, root := range []string{"", "\x80", "\x01", good[:len(good)-1], good + "\x00", "\x00\x00", "\x01\x01\x01\x00\x01", "\x01\x01\x01\x05\x00", "\x02\x05\x00\x01\x01\x01\x01\x01\x03", strings.Repeat("\x00", 65537)} {
		f.root = root
		try(t, f.text(), 1<<20, Root)
		f.note = "[]"
		try(t, f.text()+"?", -5, Tight, Notes, Budget, Root)
		f.note = "{}"
	}
	// Pointers that would break Leaf, in a root that is refused.
	f.root = dir(tile(1, 0, 9, 9)) + "\x00"
	try(t, f.text(), 512, Root)
}

// P19.1: Leaf and Deep, behind which nothing is asked.
func TestLeafAndDeep(t *testing.T) {
	const id = 20
	leaf := dir(tile(id, 1, 0, 3), tile(id+1, 1, 3, 4))
	deep := dir(tile(id, 1, 0, 3), tile(id+1, 0, 3, 4))
	deeper := dir(tile(id, 0, 0, 3))
	good := head(tile(id, 1, 0, 3), tile(id+1, 1, 3, 4))
	worse := good
	worse.Addressed, worse.Entries, worse.MaxZoom = 0, 0, 26
	for _, x := range []struct {
		leaves string
		e      entry.Entry
		want   []uint8
	}{
		{leaf, pointer(id, 0, leaf), nil},
		{"?" + leaf + "?", pointer(id, 1, leaf), nil},
		{leaf, pointer(id-1, 0, leaf), []uint8{Leaf}},
		{leaf, pointer(id+1, 0, leaf), []uint8{Leaf}},
		{leaf, pointer(id, 1, leaf), []uint8{Leaf}},
		{leaf, pointer(id, 0, leaf+"?"), []uint8{Leaf}},
		{leaf + "?", pointer(id, 0, leaf+"?"), []uint8{Leaf}},
		{leaf, pointer(id, 0, leaf[1:]), []uint8{Leaf}},
		{leaf[:len(leaf)-1], pointer(id, 0, leaf), []uint8{Leaf}},
		{"", pointer(id, 0, leaf), []uint8{Leaf}},
		{leaf, entry.Entry{ID: id, Offset: most - 1, Length: 1}, []uint8{Leaf}},
		{leaf, entry.Entry{ID: id, Offset: 1, Length: math.MaxUint32}, []uint8{Leaf}},
		{leaf, entry.Entry{ID: id, Offset: uint64(len(leaf)), Length: 1}, []uint8{Leaf}},
		{"\x00", pointer(id, 0, "\x00"), []uint8{Leaf}},
		{strings.Repeat("\x00", 70000), entry.Entry{ID: id, Length: 70000}, []uint8{Leaf}},
		{deep, pointer(id, 0, deep), []uint8{Deep}},
		{deeper, pointer(id, 0, deeper), []uint8{Deep}},
		{deep, pointer(id+1, 0, deep), []uint8{Leaf}},
		{deep + "?", pointer(id, 0, deep+"?"), []uint8{Leaf}},
	} {
		f := file{h: good, root: dir(x.e), note: "{}", leaves: x.leaves, data: "sealand"}
		try(t, f.text(), 512, x.want...)
		f.h = worse
		want := x.want
		if want == nil {
			want = []uint8{Counts, Zooms}
		}
		try(t, f.text(), 512, want...)
		// Another pointer ahead breaks Deep, and another one behind Leaf.
		ahead := dir(tile(3, 0, 0, 3))
		f.leaves = ahead + x.leaves
		e := x.e
		e.Offset = min(e.Offset+uint64(len(ahead)), most-uint64(e.Length))
		f.root = dir(pointer(3, 0, ahead), e)
		try(t, f.text(), 512, rising(append(x.want, Deep))...)
		f.leaves = x.leaves
		f.root = dir(x.e, tile(90, 0, most-1, 1))
		try(t, f.text(), 512, rising(append(x.want, Leaf))...)
	}
	// The leaves' section goes on beyond the end.
	f := file{h: good, root: dir(pointer(id, 0, leaf)), note: "{}", data: "sealand"}
	h := f.laid()
	h.Leaves = header.Section{From: uint64(127 + len(f.body())), Length: 1 << 30}
	try(t, raw(h, f.body()+leaf), 512, Laid, Tight)
	try(t, raw(h, f.body()+leaf[:len(leaf)-1]), 512, Laid, Tight, Leaf)
}

// rising tells rules, the least one first, each once.
func rising(l []uint8) []uint8 { return slices.Compact(slices.Sorted(slices.Values(l))) }

// tryEntries holds what is told of a root of such entries, with so much data;
// counts and zooms are right.
func tryEntries(t *testing.T, data string, l []entry.Entry, want ...uint8) {
	t.Helper()
	try(t, flat(data, l...).text(), 512, want...)
}

// P19.1: Rows, Data, Runs: what stands in the root and its leaves is one list.
func TestRowsDataRuns(t *testing.T) {
	for _, x := range []struct {
		a, b entry.Entry // the end of the first leaf, and the beginning of the second
		want []uint8
	}{
		{tile(5, 3, 0, 2), tile(8, 1, 2, 3), nil},
		{tile(5, 3, 0, 2), tile(9, 1, 0, 2), []uint8{Once}},
		{tile(5, 3, 0, 2), tile(8, 1, 0, 2), []uint8{Runs, Once}},
		{tile(5, 3, 0, 2), tile(8, 1, 0, 5), []uint8{Once}},
		{tile(5, 3, 0, 2), tile(7, 1, 2, 3), []uint8{Rows}},
		{tile(5, 3, 0, 2), tile(7, 1, 0, 2), []uint8{Rows, Once}},
		{tile(5, 3, 0, 2), tile(6, 9, 2, 3), []uint8{Rows}},
		{tile(5, 3, 0, 2), tile(8, 1, 2, 4), []uint8{Data}},
		{tile(5, 3, 0, 6), tile(7, 1, 1, 1), []uint8{Rows, Data}},
		{tile(5, 3, 1, 5), tile(8, 1, 1, 5), []uint8{Data, Runs}},
		{tile(5, 1, 3, 2), tile(6, 1, 0, 3), nil},
		{tile(5, math.MaxUint32, 0, 2), tile(4+math.MaxUint32, 1, 2, 3), []uint8{Rows}},
		{tile(5, math.MaxUint32, 0, 2), tile(5+math.MaxUint32, 1, 2, 3), nil},
	} {
		a, b := dir(x.a), dir(x.b)
		f := flat("aabbb")
		f.h = head(x.a, x.b)
		f.h.MinZoom, f.h.MaxZoom = int(zoom(x.a.ID)), int(zoom(last(x.b)))
		f.leaves = b + a
		f.root = dir(pointer(x.a.ID, uint64(len(b)), a), pointer(x.b.ID, 0, b))
		try(t, f.text(), 512, x.want...)
		f.root = dir(pointer(x.a.ID, uint64(len(b)), a), x.b)
		try(t, f.text(), 512, x.want...)
		if entry.Row([]entry.Entry{x.a, x.b}) == api.OK {
			f.root = dir(x.a, pointer(x.b.ID, 0, b))
			try(t, f.text(), 512, x.want...)
			tryEntries(t, "aabbb", []entry.Entry{x.a, x.b}, x.want...)
		}
	}
	// The leaf's last one reaches over all that stands behind it in the root.
	a := []entry.Entry{tile(5, 1, 0, 1), tile(7, 100, 1, 1)}
	f := flat("xy")
	f.h = head(append(a, tile(50, 1, 0, 1), tile(60, 1, 1, 1))...)
	f.leaves, f.root = dir(a...), dir(pointer(5, 0, dir(a...)), tile(50, 1, 0, 1), tile(60, 1, 1, 1))
	try(t, f.text(), 512, Rows)
	// The greatest identifiers, and the greatest place.
	tryEntries(t, "xy", []entry.Entry{tile(count-2, 1, 0, 1), tile(count-1, 1, 1, 1)})
	tryEntries(t, "x", []entry.Entry{tile(count-2, 1, 0, 1), tile(count-1, 1, 0, 1)}, Runs)
	tryEntries(t, "x", []entry.Entry{tile(0, 1, 0, 1), tile(2, 1, most-1, 1)}, Data)
	tryEntries(t, "x", []entry.Entry{tile(0, 1, most-math.MaxUint32, math.MaxUint32)}, Data)
	tryEntries(t, "", []entry.Entry{tile(0, 1, 0, 1)}, Data)
}

// P19.1: Once: gaps, overlaps, contents that stand twice; not asked behind Data.
func TestOnce(t *testing.T) {
	for _, x := range []struct {
		data string
		l    []entry.Entry
		want []uint8
	}{
		{"", nil, nil},
		{"x", nil, []uint8{Once}},
		{"abb", []entry.Entry{tile(0, 1, 0, 1), tile(1, 1, 1, 2)}, nil},
		{"abb", []entry.Entry{tile(0, 1, 1, 2), tile(1, 1, 0, 1)}, nil},
		{"abb", []entry.Entry{tile(0, 1, 0, 1), tile(1, 1, 1, 2), tile(3, 1, 0, 1), tile(5, 1, 1, 2)}, nil},
		{"abb", []entry.Entry{tile(0, 1, 0, 1)}, []uint8{Once}},
		{"abb", []entry.Entry{tile(0, 1, 1, 2)}, []uint8{Once}},
		{"abb", []entry.Entry{tile(0, 1, 0, 1), tile(1, 1, 2, 1)}, []uint8{Once}},
		{"abb", []entry.Entry{tile(0, 1, 0, 1), tile(1, 1, 1, 1)}, []uint8{Once}},
		{"abb", []entry.Entry{tile(0, 1, 0, 1), tile(1, 1, 1, 1), tile(2, 1, 2, 1)}, []uint8{Once}},
		{"abb", []entry.Entry{tile(0, 1, 0, 3), tile(1, 1, 1, 2)}, []uint8{Once}},
		{"abb", []entry.Entry{tile(0, 1, 0, 3), tile(1, 1, 0, 1)}, []uint8{Once}},
		{"abb", []entry.Entry{tile(0, 1, 0, 3), tile(1, 1, 0, 1), tile(2, 1, 1, 2)}, []uint8{Once}},
		{"abb", []entry.Entry{tile(0, 1, 0, 2), tile(1, 1, 1, 2)}, []uint8{Once}},
		{"abab", []entry.Entry{tile(0, 1, 0, 2), tile(1, 1, 2, 2)}, []uint8{Once}},
		{"abab", []entry.Entry{tile(0, 1, 2, 2), tile(9, 1, 0, 2)}, []uint8{Once}},
		{"aba", []entry.Entry{tile(0, 1, 0, 2), tile(1, 1, 2, 1)}, nil},
		{"aba", []entry.Entry{tile(0, 1, 0, 1), tile(1, 1, 1, 1), tile(2, 1, 2, 1)}, []uint8{Once}},
		{"aaa", []entry.Entry{tile(0, 1, 0, 1), tile(1, 1, 1, 2)}, nil},
		{"\x00\x00\x00", []entry.Entry{tile(0, 1, 0, 2), tile(1, 1, 2, 1)}, nil},
		{"abb", []entry.Entry{tile(0, 1, 0, 1), tile(1, 1, 0, 1), tile(2, 1, 3, 1)}, []uint8{Data, Runs}},
		{"aa", []entry.Entry{tile(0, 1, 0, 1), tile(1, 1, 1, 1), tile(2, 1, 2, 1)}, []uint8{Data}},
		{"aa", []entry.Entry{tile(0, 1, 5, 1)}, []uint8{Data}},
	} {
		tryEntries(t, x.data, x.l, x.want...)
	}
}

// P19.1: Counts: each of the three, with numbers about and far off the right one.
func TestCounts(t *testing.T) {
	files := append(goodFiles(), flat("xy", tile(1, math.MaxUint32, 0, 1), tile(1<<40, math.MaxUint32, 1, 1), tile(1<<42, 7, 0, 1)))
	for _, f := range files {
		try(t, f.text(), 512)
		for _, field := range []func(h *header.Header) *uint64{
			func(h *header.Header) *uint64 { return &h.Addressed },
			func(h *header.Header) *uint64 { return &h.Entries },
			func(h *header.Header) *uint64 { return &h.Contents },
		} {
			g := f
			x := *field(&g.h)
			for _, y := range []uint64{0, 1, x - 1, x + 1, x + 1<<32, x + 1<<63, math.MaxUint64} {
				*field(&g.h) = y
				if y != x {
					try(t, g.text(), 512, Counts)
				}
			}
		}
	}
}

// P19.1: Zooms: the first and last tile of each zoom, and runs over many.
func TestZooms(t *testing.T) {
	base := uint64(0)
	for range 27 {
		next := 4*base + 1
		for _, l := range [][]entry.Entry{
			{tile(base, 1, 0, 1)},
			{tile(next-1, 1, 0, 1)},
			{tile(base, uint32(min(next-base, math.MaxUint32)), 0, 1)},
			{tile(0, uint32(min(next, math.MaxUint32)), 0, 1)},
			{tile(base/2, 1, 1, 1), tile(next-1, 1, 0, 1)},
		} {
			if entry.Row(l) != api.OK {
				continue
			}
			data := "xy"[:len(l)]
			tryEntries(t, data, l)
			tryZooms(t, flat(data, l...))
		}
		base = next
	}
	tryZooms(t, flat(""))
	tryZooms(t, deepFile())
}

// tryZooms holds what is told of a good file with all other zooms.
func tryZooms(t *testing.T, f file) {
	t.Helper()
	least, greatest := f.h.MinZoom, f.h.MaxZoom
	for b := range 27 {
		for a := range b + 1 {
			f.h.MinZoom, f.h.MaxZoom = a, b
			var want []uint8
			if a != least || b != greatest {
				want = []uint8{Zooms}
			}
			try(t, f.text(), 512, want...)
		}
	}
}

// P19.1: where Rows is broken the last entry in order counts for Zooms, not the
// one of the greatest identifier.
func TestZoomsOutOfOrder(t *testing.T) {
	a := []entry.Entry{tile(5, 1, 0, 1), tile(999, 1, 1, 1)}
	f := flat("xy")
	f.h = head(append(a, tile(6, 1, 0, 1))...)
	f.leaves, f.root = dir(a...), dir(pointer(5, 0, dir(a...)), tile(6, 1, 0, 1))
	if f.h.MinZoom != 2 || f.h.MaxZoom != 2 {
		t.Fatalf("zooms %d and %d", f.h.MinZoom, f.h.MaxZoom)
	}
	try(t, f.text(), 512, Rows)
	f.h.MaxZoom = 5
	try(t, f.text(), 512, Rows, Zooms)
}

// P19.1: many rules at once, rising.
func TestManyRules(t *testing.T) {
	a := dir(tile(5, 3, 0, 2), tile(9, 1, 0, 2))
	f := file{root: dir(pointer(5, 0, a), tile(7, 1, 0, 2), tile(8, 1, 0, 2)), note: "[]", leaves: a, data: "aabb"}
	try(t, f.text()+"?", 1, Tight, Codec, Notes, Budget, Rows, Runs, Once, Counts, Zooms)
	f.data = "a"
	try(t, f.text()+"?", 1, Tight, Codec, Notes, Budget, Rows, Data, Runs, Counts, Zooms)
	s := f.text()
	try(t, s[:len(s)-1], -1, Laid, Tight, Codec, Notes, Budget, Rows, Data, Runs, Counts, Zooms)
	f.leaves = "\x00" + a[1:]
	try(t, f.text()+"?", 1, Tight, Codec, Notes, Budget, Leaf)
}

// P19.1: all rows of up to three entries of a few, with several data, with
// counts that are right, and such that are not.
func TestAllRows(t *testing.T) {
	var some []entry.Entry
	for _, id := range []uint64{3, 4, 5, 7} {
		for _, run := range []uint32{1, 2} {
			for _, at := range [][2]uint64{{0, 1}, {0, 2}, {1, 1}, {1, 2}, {2, 1}} {
				some = append(some, tile(id, run, at[0], uint32(at[1])))
			}
		}
	}
	seen := map[uint8]int{}
	for _, l := range rowsOf(some, 3) {
		for _, data := range []string{"", "a", "ab", "abb", "aaa", "aba", "abcd"} {
			f := flat(data, l...)
			for _, rule := range tryWords(t, f.text(), 512) {
				seen[rule]++
			}
			f.h.Contents = 2
			tryWords(t, f.text(), 512)
		}
	}
	tellSeen(t, seen, Data, Runs, Once)
}

// rowsOf tells all rows of up to so many of some entries.
func rowsOf(some []entry.Entry, most int) [][]entry.Entry {
	all := [][]entry.Entry{nil}
	from := 0
	for range most {
		n := len(all)
		for _, l := range all[from:n] {
			for _, e := range some {
				longer := append(slices.Clone(l), e)
				if entry.Row(longer) == api.OK {
					all = append(all, longer)
				}
			}
		}
		from = n
	}
	return all
}

// tellSeen fails where a rule was never broken, or always.
func tellSeen(t *testing.T, seen map[uint8]int, rules ...uint8) {
	t.Helper()
	for _, rule := range rules {
		if seen[rule] == 0 {
			t.Errorf("rule %d was never broken", rule)
		}
	}
}

// P19.1: all roots of up to three of some entries and pointers, right and wrong,
// over leaves of all kinds.
func TestAllRoots(t *testing.T) {
	leaves := []string{
		dir(tile(5, 2, 0, 1)), dir(tile(5, 1, 0, 1), tile(9, 1, 1, 2)), dir(tile(7, 1, 1, 2)), dir(tile(7, 1, 0, 1), tile(8, 3, 1, 2)), dir(tile(7, 1, 5, 1)),
		dir(tile(9, 1, 0, 1)), dir(tile(9, 0, 0, 1)), dir(tile(5, 1, 0, 1), tile(6, 0, 1, 1)), dir(), "\x01\x09", "\x80\x80",
	}
	some := []entry.Entry{tile(3, 2, 0, 1), tile(5, 2, 1, 2), tile(7, 1, 0, 1), tile(8, 1, 1, 2), tile(10, 1, 1, 2), tile(12, 1, 0, 1)}
	at := uint64(0)
	for _, s := range leaves {
		for _, id := range []uint64{5, 7, 9} {
			some = append(some, pointer(id, at, s))
		}
		at += uint64(len(s))
	}
	some = append(some, tile(11, 0, at, 1), tile(11, 0, at-1, 1))
	all := strings.Join(leaves, "")
	seen := map[uint8]int{}
	for _, root := range rowsOf(some, 3) {
		l, _, _ := joined(root, all)
		f := file{h: head(), root: dir(root...), note: "{}", leaves: all, data: "abb"}
		f.h = head(l...)
		f.h.MinZoom = min(f.h.MinZoom, f.h.MaxZoom)
		for _, rule := range tryWords(t, f.text(), 512) {
			seen[rule]++
		}
	}
	tellSeen(t, seen, Leaf, Deep, Rows, Data, Runs, Once)
}

// P19.1: good files, spoilt at each place by each byte; cut off and gone on with
// at each place; with a byte less and a byte more at each place.
func TestSpoilt(t *testing.T) {
	seen := map[uint8]int{}
	see := func(s string, budget int) {
		for _, rule := range tryWords(t, s, budget) {
			seen[rule]++
		}
	}
	for _, f := range goodFiles() {
		s := f.text()
		n := len(f.root)
		for at := range len(s) {
			spoilt := []byte(s)
			for c := range 256 {
				spoilt[at] = byte(c)
				see(string(spoilt), n)
			}
			see(s[:at], n)
			see(s[:at]+s[at+1:], n)
			see(s[:at]+"\x01"+s[at:], n-1)
			see(s+s[:at], n)
		}
	}
	tellSeen(t, seen, Head, Laid, Tight, Codec, Notes, Budget, Root, Leaf, Deep, Rows, Data, Runs, Once, Counts, Zooms)
}

// lowPlaces tells the places of an archive but those of the high bytes of the
// header's numbers, most of which would break Head alone.
func lowPlaces(s string) []int {
	l := []int{96, 97, 98, 99, 100, 101}
	for at := 8; at < 96; at += 8 {
		l = append(l, at)
	}
	for at := 127; at < len(s); at++ {
		l = append(l, at)
	}
	return l
}

// P19.1: good files, spoilt at two to four places at once, drawn by a fixed rule.
func TestSpoiltMore(t *testing.T) {
	r := rand.New(rand.NewSource(19))
	seen := map[string]bool{}
	for _, f := range goodFiles() {
		s := f.text()
		places := lowPlaces(s)
		for range 60000 {
			spoilt := []byte(s)
			for range 2 + r.Intn(3) {
				spoilt[places[r.Intn(len(places))]] += byte(r.Intn(5) - 2)
			}
			seen[string(tryWords(t, string(spoilt), len(f.root)-r.Intn(2)))] = true
		}
	}
	if len(seen) < 300 {
		t.Errorf("just %d sets of rules", len(seen))
	}
}

// P19.1: bytes of which nothing is right, and heads with nothing behind them.
func TestAnyBytes(t *testing.T) {
	r := rand.New(rand.NewSource(1))
	h := flat("").h
	for n := range 600 {
		b := make([]byte, n)
		r.Read(b)
		for _, budget := range []int{math.MinInt, -1, 0, 1, 512, math.MaxInt} {
			try(t, string(b), budget, Head)
			tryWords(t, raw(h, "")+string(b), budget)
		}
		for _, part := range []*header.Section{&h.Root, &h.Meta, &h.Leaves, &h.Data} {
			*part = header.Section{From: uint64(r.Intn(800)), Length: uint64(r.Intn(400))}
		}
		tryWords(t, raw(h, string(b)), 512)
	}
}

// P19.1 and Theorem 4: what is pressed breaks no rule; a byte less or more does,
// and a budget below the root's length.
func TestPressed(t *testing.T) {
	for _, n := range []int{0, 1, 2, 3, 17, 200, 2048} {
		for _, contents := range []int{1, 2, 3, 5, 2048} {
			for _, step := range []uint64{1, 3, 1 << 40} {
				var l []chart.Item
				for i := range n {
					l = append(l, chart.Item{ID: uint64(i) * step, Text: strings.Repeat("x", i%contents%9) + string(rune('a'+i*i%contents))})
				}
				c, bad := chart.Of(l)
				if bad != api.OK {
					t.Fatalf("a chart of %d tiles: error %d", n, int(bad))
				}
				for _, budget := range []int{512, 600, 5000, 16257} {
					tryPressed(t, c, budget)
				}
			}
		}
	}
}

// tryPressed holds what is told of a chart's archive.
func tryPressed(t *testing.T, c chart.Chart, budget int) {
	t.Helper()
	s, bad := press.Press(c, press.Plan{Budget: budget, Kind: 2, Note: `{"name":"x"}`})
	if bad != api.OK {
		t.Fatalf("a chart of %d tiles, budget %d: error %d", c.Len(), budget, int(bad))
	}
	root := int(number(s, 16))
	try(t, s, budget)
	try(t, s, root)
	try(t, s, root-1, Budget)
	try(t, s+"x", budget, Tight)
	less := []uint8{Laid, Tight, Data}
	if c.Len() == 0 {
		less = []uint8{Laid, Tight, Notes}
	}
	try(t, s[:len(s)-1], budget, less...)
}

// P19.1: leaves may have more entries in all than one directory.
func TestManyEntries(t *testing.T) {
	var all, root []entry.Entry
	var leaves strings.Builder
	for i := range uint64(3) {
		var l []entry.Entry
		for j := range uint64(4096) {
			l = append(l, tile(9+4096*i+j, 1, j%2, 1))
		}
		s := dir(l...)
		root = append(root, pointer(l[0].ID, uint64(leaves.Len()), s))
		leaves.WriteString(s)
		all = append(all, l...)
	}
	f := file{h: head(all...), root: dir(root...), note: "{}", leaves: leaves.String(), data: "xy"}
	try(t, f.text(), 512)
	f.data = "xx"
	try(t, f.text(), 512, Once)
	f.h.Entries--
	try(t, f.text(), 512, Once, Counts)
}

// P19.1: places that overlap, of which each is long: Check ends soon all the
// same.
func TestManyPlaces(t *testing.T) {
	data := strings.Repeat("x", 1<<24)
	var l []entry.Entry
	for i := range uint64(4096) {
		l = append(l, tile(3*i, 1, i, uint32(len(data)-4096)))
	}
	s := flat(data, l...).text()
	want := []uint8{Once}
	if got := Check(s, 1<<20); !slices.Equal(got, want) {
		t.Errorf("of %d places that overlap: %d, want %d", len(l), got, want)
	}
}

// An answer is new memory: who changes it changes no other one.
func TestAnswersAreNew(t *testing.T) {
	s := flat("x", tile(0, 1, 0, 1)).text()
	want := []uint8{Tight, Budget}
	first := Check(s+"?", 0)
	first[0] = 99
	_ = append(first, 98)
	if got := Check(s+"?", 0); !slices.Equal(got, want) {
		t.Errorf("behind a change of an answer: %d, want %d", got, want)
	}
	if got := Check(s, 512); len(got) != 0 || !Good(s, 512) {
		t.Errorf("behind a change of an answer: %d", got)
	}
}
