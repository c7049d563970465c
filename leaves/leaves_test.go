package leaves

import (
	"math"
	"slices"
	"strings"
	"testing"
	"unsafe"

	"gazetteer/api"
	"gazetteer/dirs"
	"gazetteer/entry"
)

const (
	count = uint64(6004799503160661) // how many tiles there are
	most  = uint64(1) << 40          // the greatest place behind a content
)

// cut tells Cut's answer, by the words of the chapter.
func cut(l []entry.Entry, size int) [][]entry.Entry {
	var pieces [][]entry.Entry
	if size < 1 {
		return nil
	}
	for i, e := range l {
		if i%size == 0 {
			pieces = append(pieces, nil)
		}
		pieces[i/size] = append(pieces[i/size], e)
	}
	return pieces
}

// bytesOf tells a row's bytes, with no regard to how many they are.
func bytesOf(t *testing.T, l []entry.Entry) string {
	t.Helper()
	s, bad := dirs.Encode(l)
	if bad != api.OK || dirs.Size(l) != len(s) {
		t.Fatalf("a directory of %d entries: error %d", len(l), int(bad))
	}
	return s
}

// parts is what Split tells.
type parts struct {
	root []entry.Entry
	text string
	size int
	bad  api.Errno
}

// rootOf tells the root and the bytes of pieces of so many entries, and whether
// no piece is too long, by the words of the chapter.
func rootOf(t *testing.T, l []entry.Entry, size int) (parts, bool) {
	t.Helper()
	p := parts{size: size}
	var b strings.Builder
	for _, piece := range cut(l, size) {
		n := dirs.Size(piece)
		if n > 65536 {
			return parts{}, false
		}
		p.root = append(p.root, entry.Entry{ID: piece[0].ID, Offset: uint64(b.Len()), Length: uint32(n)})
		b.WriteString(bytesOf(t, piece))
	}
	p.text = b.String()
	return p, true
}

// splits tells what there is to choose from: of each size that fits the leaves
// the root and their bytes, the least size first.
func splits(t *testing.T, l []entry.Entry) []parts {
	t.Helper()
	var all []parts
	for _, size := range []int{1, 2, 4, 8, 16, 32, 64, 128, 256, 512, 1024, 2048, 4096} {
		if p, is := rootOf(t, l, size); is {
			all = append(all, p)
		}
	}
	return all
}

// split tells Split's answer, by the words of the chapter.
func split(l []entry.Entry, budget int, all []parts) parts {
	if budget < 1 || budget > 16257 {
		return parts{bad: api.ErrArg}
	}
	if bad := entry.Row(l); bad != api.OK {
		return parts{bad: bad}
	}
	for _, e := range l {
		if e.Run == 0 {
			return parts{bad: api.ErrKind}
		}
	}
	if dirs.Size(l) <= budget {
		return parts{root: l}
	}
	for _, p := range all {
		if dirs.Size(p.root) <= budget {
			return p
		}
	}
	return parts{bad: api.ErrBudget}
}

// short tells a list, or as much of it as an error's line has room for.
func short(l []entry.Entry) []entry.Entry { return l[:min(len(l), 9)] }

// trySplit holds Split's answer, and that what was split is joined again.
func trySplit(t *testing.T, l []entry.Entry, budget int, want parts) {
	t.Helper()
	root, text, size, bad := Split(l, budget)
	if !slices.Equal(root, want.root) || text != want.text || size != want.size || bad != want.bad {
		t.Fatalf("Split(%d, %d) of %d entries: %d, %.40q, %d, %d; want %d, %.40q, %d, %d", short(l), budget, len(l), short(root), text, size, int(bad), short(want.root), want.text, want.size, int(want.bad))
	}
	if bad != api.OK {
		return
	}
	if n := dirs.Size(root); n > budget {
		t.Fatalf("Split(%d, %d): a root of %d bytes", short(l), budget, n)
	}
	tryJoin(t, root, text, l, api.OK)
}

// joined tells Join's answer, by the words of the chapter.
func joined(root []entry.Entry, text string) ([]entry.Entry, api.Errno) {
	if bad := entry.Row(root); bad != api.OK {
		return nil, bad
	}
	var all []entry.Entry
	for _, e := range root {
		if e.Run > 0 {
			all = append(all, e)
			continue
		}
		if uint64(len(text)) < e.Offset || uint64(len(text))-e.Offset < uint64(e.Length) {
			return nil, api.ErrRange
		}
		l, _, bad := dirs.Decode(text[e.Offset:][:e.Length])
		if bad != api.OK {
			return nil, bad
		}
		for _, under := range l {
			if under.Run == 0 {
				return nil, api.ErrDeep
			}
		}
		if len(l) == 0 || l[0].ID != e.ID {
			return nil, api.ErrOrder
		}
		all = append(all, l...)
	}
	if bad := entry.Row(all); bad != api.OK {
		return nil, bad
	}
	return all, api.OK
}

// tryJoin holds Join's answer.
func tryJoin(t *testing.T, root []entry.Entry, text string, want []entry.Entry, wantBad api.Errno) {
	t.Helper()
	l, bad := Join(root, text)
	if !slices.Equal(l, want) || bad != wantBad {
		t.Fatalf("Join(%d, %.40q): %d entries %d, %d; want %d entries %d, %d", short(root), text, len(l), short(l), int(bad), len(want), short(want), int(wantBad))
	}
}

// listsOf tells all lists of up to n of some entries.
func listsOf(some []entry.Entry, n int) [][]entry.Entry {
	all := [][]entry.Entry{nil}
	for from := 0; n > 0; n-- {
		to := len(all)
		for _, l := range all[from:to] {
			for _, e := range some {
				all = append(all, append(slices.Clone(l), e))
			}
		}
		from = to
	}
	return all
}

// rowOf tells n entries from an identifier on, with room between them.
func rowOf(from uint64, n int) []entry.Entry {
	l := make([]entry.Entry, n)
	for i := range l {
		l[i] = entry.Entry{ID: from + 3*uint64(i), Offset: uint64(7*i%100) << 10, Length: uint32(1 + i%300), Run: uint32(1 + i%3)}
	}
	return l
}

// sized tells 4096 entries that as a directory have so many bytes, from 57341 to
// 73725.
func sized(n int) []entry.Entry {
	l := make([]entry.Entry, 4096)
	left := n - 57341
	for i := range l {
		more := min(left, 4)
		left -= more
		l[i] = entry.Entry{ID: uint64(i) << 40, Offset: uint64(1+i%2) << 38, Length: 1 << (7 * more), Run: 1}
	}
	return l
}

// wide tells n entries each of whose numbers has many bytes.
func wide(n int) []entry.Entry {
	l := make([]entry.Entry, n)
	for i := range l {
		l[i] = entry.Entry{ID: uint64(i) << 40, Offset: uint64(1+i%2) << 38, Length: 1 << 31, Run: 1 << 31}
	}
	return l
}

func TestLimits(t *testing.T) {
	if api.MaxBudget != 16257 || api.MaxDir != 65536 || api.MaxEntries != 4096 || api.MaxTotal != most {
		t.Error("the limits of these tests are others than the program's")
	}
}

// three are three entries of 5 bytes each, which as a directory have 13.
var three = []entry.Entry{{ID: 1, Length: 5, Run: 1}, {ID: 2, Offset: 5, Length: 5, Run: 1}, {ID: 3, Offset: 10, Length: 5, Run: 1}}

// P14.2: the chapter's example, and all other budgets, with bytes that are
// written out.
func TestExample(t *testing.T) {
	one := parts{[]entry.Entry{{ID: 1, Length: 13}}, "\x03\x01\x01\x01\x01\x01\x01\x05\x05\x05\x01\x00\x00", 4, api.OK}
	two := parts{[]entry.Entry{{ID: 1, Length: 9}, {ID: 3, Offset: 9, Length: 5}}, "\x02\x01\x01\x01\x01\x05\x05\x01\x00" + "\x01\x03\x01\x05\x0b", 2, api.OK}
	for budget := -2; budget < 17000; budget++ {
		want := parts{root: three}
		switch {
		case budget < 1 || budget > 16257:
			want = parts{bad: api.ErrArg}
		case budget < 5:
			want = parts{bad: api.ErrBudget}
		case budget < 9:
			want = one
		case budget < 13:
			want = two
		}
		trySplit(t, three, budget, want)
	}
	for _, budget := range []int{math.MinInt, -1 << 32, 1 << 32, 1<<32 + 512, math.MaxInt} {
		trySplit(t, three, budget, parts{bad: api.ErrArg})
	}
}

// P14.2: of entries that have more bytes than pointers, each may have a leaf of
// its own.
func TestLeavesOfOneEntry(t *testing.T) {
	l := []entry.Entry{{ID: 1, Offset: 1 << 30, Length: 1 << 30, Run: 1 << 30}, {ID: count - 1, Offset: most - 1, Length: 1, Run: 1}}
	first := "\x01\x01\x80\x80\x80\x80\x04\x80\x80\x80\x80\x04\x81\x80\x80\x80\x04"
	for budget := 1; budget < 20; budget++ {
		want := parts{bad: api.ErrBudget}
		if budget >= 17 {
			want = parts{root: l[:1]}
		} else if budget >= 5 {
			want = parts{[]entry.Entry{{ID: 1, Length: 17}}, first, 1, api.OK}
		}
		trySplit(t, l[:1], budget, want)
	}
	second := "\x01\xd4\xaa\xd5\xaa\xd5\xaa\xd5\x0a\x01\x01\x80\x80\x80\x80\x80\x20"
	trySplit(t, l, 20, parts{[]entry.Entry{{ID: 1, Length: 17}, {ID: count - 1, Offset: 17, Length: 17}}, first + second, 1, api.OK})
	trySplit(t, l, 16, parts{[]entry.Entry{{ID: 1, Length: 17}, {ID: count - 1, Offset: 17, Length: 17}}, first + second, 1, api.OK})
	trySplit(t, l[1:], 12, parts{[]entry.Entry{{ID: count - 1, Length: 17}}, second, 1, api.OK})
	trySplit(t, l[1:], 11, parts{bad: api.ErrBudget})
}

// P14.2: a directory of no entries has one byte, so that it is never split.
func TestSplitOfNone(t *testing.T) {
	for _, budget := range []int{1, 2, 512, 16257} {
		trySplit(t, nil, budget, parts{})
		trySplit(t, []entry.Entry{}, budget, parts{})
	}
	for _, budget := range []int{0, 16258} {
		trySplit(t, nil, budget, parts{bad: api.ErrArg})
	}
}

// P14.1: all sizes about all lengths of a list, whatever its entries are.
func TestCut(t *testing.T) {
	for _, whole := range [][]entry.Entry{rowOf(5, 40), make([]entry.Entry, 40), slices.Repeat([]entry.Entry{{ID: count, Length: 1}, {ID: 1}}, 20)} {
		for n := range len(whole) + 1 {
			for size := -3; size < 45; size++ {
				tryCut(t, whole[:n], size)
			}
			for _, size := range []int{math.MinInt, math.MinInt32, -1 << 32, 1 << 32, math.MaxInt32, math.MaxInt - 1, math.MaxInt} {
				tryCut(t, whole[:n], size)
			}
		}
	}
	for _, size := range []int{1, 2, 3, 4095, 4096, 4097, 9999, 10000, 10001} {
		tryCut(t, rowOf(0, 10000), size)
	}
}

// tryCut holds Cut's answer.
func tryCut(t *testing.T, l []entry.Entry, size int) {
	t.Helper()
	pieces := Cut(l, size)
	if want := cut(l, size); !slices.EqualFunc(pieces, want, slices.Equal) {
		t.Fatalf("Cut(%d, %d) of %d entries: %d pieces, want %d", short(l), size, len(l), len(pieces), len(want))
	}
}

// P14.2, P14.4: all lists of up to three of some entries, right and wrong, with
// all budgets up to where any is taken as it is.
func TestSplitOfShortLists(t *testing.T) {
	some := []entry.Entry{
		{ID: 0, Length: 1, Run: 1}, {ID: 1, Offset: 1, Length: 1 << 7, Run: 9}, {ID: 2, Offset: 1 << 39, Length: 1 << 14, Run: 1 << 31},
		{ID: 1 << 33, Offset: 7, Length: math.MaxUint32, Run: 300}, {ID: 1 << 40, Offset: most - 1, Length: 1, Run: 1},
		{ID: count - 1, Length: 99, Run: 1}, {ID: 1 << 34, Length: 1}, {ID: 8}, {ID: count, Length: 1, Run: 1},
	}
	for _, l := range listsOf(some, 3) {
		var all []parts
		if entry.Row(l) == api.OK {
			all = splits(t, l)
		}
		for budget := range 64 {
			trySplit(t, l, budget, split(l, budget, all))
		}
	}
}

// P14.2, P14.4: rows of many lengths, with the budgets that part one size from
// the next.
func TestSplitOfLongRows(t *testing.T) {
	for _, n := range []int{4, 5, 31, 32, 33, 127, 128, 129, 700, 2049, 4096} {
		for _, l := range [][]entry.Entry{rowOf(9, n), rowOf(1<<50, n), wide(n), sized(65536)[:n]} {
			budgets := []int{1, 3, 512, 16257, dirs.Size(l)}
			all := splits(t, l)
			for _, p := range all {
				budgets = append(budgets, dirs.Size(p.root))
			}
			for _, at := range budgets {
				for budget := at - 1; budget <= at; budget++ {
					trySplit(t, l, budget, split(l, budget, all))
				}
			}
		}
	}
}

// P14.2: of 4096 entries each size but 1 is the first one that fits, from the
// bytes of its root on, up to where the one ahead does; the numbers are counted
// by hand.
func TestEachSize(t *testing.T) {
	l := rowOf(1<<50, 4096)
	beyond := 16258
	for i, least := range []int{8201, 4105, 2057, 1033, 649, 391, 199, 103, 55, 31, 19, 14} {
		for _, budget := range []int{least, beyond - 1} {
			if root, _, size, bad := Split(l, budget); size != 2<<i || len(root) != 2048>>i || bad != api.OK {
				t.Errorf("budget %d: %d entries, %d leaves, error %d; want %d entries", budget, size, len(root), int(bad), 2<<i)
			}
		}
		beyond = least
	}
	trySplit(t, l, 13, parts{bad: api.ErrBudget})
}

// P14.2: a piece has at most 65536 bytes; of a row of more there is no leaf that
// has it all.
func TestSplitOfLongestPiece(t *testing.T) {
	for _, n := range []int{65536, 65537, 73725} {
		l := sized(n)
		if dirs.Size(l) != n {
			t.Fatalf("a row has %d bytes, want %d", dirs.Size(l), n)
		}
		halves, _ := rootOf(t, l, 2048)
		budget := dirs.Size(halves.root)
		trySplit(t, l, budget, halves)
		want := parts{bad: api.ErrBudget}
		if n == 65536 {
			want = parts{[]entry.Entry{{ID: 0, Length: 65536}}, bytesOf(t, l), 4096, api.OK}
		}
		trySplit(t, l, budget-1, want)
		trySplit(t, l, 7, want)
		trySplit(t, l, 6, parts{bad: api.ErrBudget})
	}
}

// P14.2: of several errors the one that is named first.
func TestSplitErrors(t *testing.T) {
	ok := entry.Entry{ID: 9, Length: 1, Run: 1}
	pointer := entry.Entry{ID: 5, Length: 1}
	for _, x := range []struct {
		l      []entry.Entry
		budget int
		want   api.Errno
	}{
		{[]entry.Entry{ok}, 0, api.ErrArg},
		{[]entry.Entry{ok}, -1, api.ErrArg},
		{[]entry.Entry{ok}, 16258, api.ErrArg},
		{[]entry.Entry{ok, pointer}, 0, api.ErrArg},
		{make([]entry.Entry, 4097), 0, api.ErrArg},
		{make([]entry.Entry, 4097), 1, api.ErrMany},
		{rowOf(0, 4097), 16257, api.ErrMany},
		{[]entry.Entry{{}}, 1, api.ErrArg},
		{[]entry.Entry{pointer, ok, ok}, 1, api.ErrOrder},
		{[]entry.Entry{pointer, {ID: count, Length: 1, Run: 1}}, 16257, api.ErrRange},
		{[]entry.Entry{pointer, {ID: 7, Run: 1}}, 16257, api.ErrArg},
		{[]entry.Entry{ok, pointer}, 512, api.ErrOrder},
		{[]entry.Entry{pointer}, 1, api.ErrKind},
		{[]entry.Entry{pointer}, 16257, api.ErrKind},
		{[]entry.Entry{pointer, ok}, 1, api.ErrKind},
		{[]entry.Entry{ok, {ID: 10, Length: 1}}, 512, api.ErrKind},
		{[]entry.Entry{ok}, 4, api.ErrBudget},
	} {
		trySplit(t, x.l, x.budget, parts{bad: x.want})
	}
	for _, at := range []int{0, 1, 2048, 4095} {
		l := rowOf(0, 4096)
		l[at].Run = 0
		trySplit(t, l, 512, parts{bad: api.ErrKind})
		l[at].Length = 0
		trySplit(t, l, 512, parts{bad: api.ErrArg})
	}
}

// shelf is leaves one behind the other, right and wrong ones, and pointers to
// them, and to other places of their text.
func shelf(t *testing.T) ([]entry.Entry, string) {
	t.Helper()
	var pointers []entry.Entry
	text := ""
	put := func(s string, ids ...uint64) {
		for _, id := range ids {
			pointers = append(pointers, entry.Entry{ID: id, Offset: uint64(len(text)), Length: uint32(len(s))})
		}
		text += s
	}
	put(bytesOf(t, []entry.Entry{{ID: 3, Length: 1, Run: 1}}), 3, 2, 4)
	put(bytesOf(t, []entry.Entry{{ID: 5, Length: 8, Run: 3}, {ID: 9, Offset: 3, Length: 1, Run: 1}}), 5, 9)
	put(bytesOf(t, []entry.Entry{{ID: 7, Length: 8, Run: 2}, {ID: 20, Length: 1}}), 7, 20)
	put(bytesOf(t, []entry.Entry{{ID: 10, Length: 8}}), 10)
	put("\x00", 11)
	put("\x01\x0c\x01\x00\x01", 12)
	put("\x01\x0d\x01\x05", 13)
	put("\x01\x0e\x01\x05\x01\x00", 14)
	end := uint64(len(text))
	pointers = append(pointers, entry.Entry{ID: 15, Offset: end, Length: 1}, entry.Entry{ID: 3, Length: uint32(end) + 1}, entry.Entry{ID: 16, Offset: most - 1, Length: 1})
	return pointers, text
}

// P14.3: all lists of up to three of some pointers and other entries, with texts
// of some lengths.
func TestJoinOfShortLists(t *testing.T) {
	some, text := shelf(t)
	some = append(some,
		entry.Entry{ID: 1, Offset: 99, Length: 1, Run: 2}, entry.Entry{ID: 4, Length: 1, Run: 1}, entry.Entry{ID: 9, Length: 1, Run: 1},
		entry.Entry{ID: 10, Offset: 1 << 39, Length: 7, Run: 1 << 31}, entry.Entry{ID: 6}, entry.Entry{ID: count, Length: 1})
	for _, l := range listsOf(some, 3) {
		for _, s := range []string{text, text[:len(text)-1], text + "\x00", text[:5], ""} {
			want, bad := joined(l, s)
			tryJoin(t, l, s, want, bad)
		}
	}
}

// P14.3: of one pointer, and of several, the errors in the order in which they
// are named.
func TestJoinErrors(t *testing.T) {
	leaf := bytesOf(t, []entry.Entry{{ID: 7, Length: 1, Run: 2}, {ID: 9, Offset: 8, Length: 1, Run: 1}})
	deep := bytesOf(t, []entry.Entry{{ID: 8, Length: 1, Run: 1}, {ID: 10, Length: 1}})
	text := leaf + deep + "\x00"
	to := func(id uint64, from, length int) entry.Entry {
		return entry.Entry{ID: id, Offset: uint64(from), Length: uint32(length)}
	}
	n, end := len(leaf), len(leaf)+len(deep)
	for _, x := range []struct {
		root []entry.Entry
		want api.Errno
	}{
		{[]entry.Entry{{}}, api.ErrArg},
		{[]entry.Entry{to(count, 0, n)}, api.ErrRange},
		{[]entry.Entry{to(7, 0, n), to(7, 0, n)}, api.ErrOrder},
		// The root's errors are ahead of all others.
		{[]entry.Entry{to(7, 99, n), to(6, 0, n)}, api.ErrOrder},
		{[]entry.Entry{to(7, 0, n-1), {ID: 99}}, api.ErrArg},
		{[]entry.Entry{to(8, n, end-n), to(3, 0, n)}, api.ErrOrder},
		// Places beyond the text.
		{[]entry.Entry{to(7, 0, end+2)}, api.ErrRange},
		{[]entry.Entry{to(7, end+1, 1)}, api.ErrRange},
		{[]entry.Entry{to(7, end+9, 1)}, api.ErrRange},
		{[]entry.Entry{to(7, 1<<40-1, 1)}, api.ErrRange},
		{[]entry.Entry{to(7, 1<<32, n)}, api.ErrRange},
		{[]entry.Entry{to(7, 0, math.MaxUint32)}, api.ErrRange},
		{[]entry.Entry{to(7, 1<<40-math.MaxUint32, math.MaxUint32)}, api.ErrRange},
		// Bytes that are no directory.
		{[]entry.Entry{to(7, 0, n-1)}, api.ErrShort},
		{[]entry.Entry{to(7, 0, n+1)}, api.ErrForm},
		{[]entry.Entry{to(6, 0, n-1)}, api.ErrShort},
		// Leaves that may not be.
		{[]entry.Entry{to(8, n, end-n)}, api.ErrDeep},
		{[]entry.Entry{to(10, n, end-n)}, api.ErrDeep},
		{[]entry.Entry{to(1, n, end-n)}, api.ErrDeep},
		{[]entry.Entry{to(6, 0, n)}, api.ErrOrder},
		{[]entry.Entry{to(8, 0, n)}, api.ErrOrder},
		{[]entry.Entry{to(9, 0, n)}, api.ErrOrder},
		{[]entry.Entry{to(0, end, 1)}, api.ErrOrder},
		// Of two entries the first one's.
		{[]entry.Entry{to(7, 0, n), to(8, n, end-n)}, api.ErrDeep},
		{[]entry.Entry{to(6, 0, n), to(8, n, end-n)}, api.ErrOrder},
		{[]entry.Entry{to(7, 0, n-1), to(8, n, end-n)}, api.ErrShort},
		{[]entry.Entry{to(5, n, end-n), to(7, 99, 1)}, api.ErrDeep},
		{[]entry.Entry{to(7, 0, n), to(8, n, 99)}, api.ErrRange},
		// Behind all of them, what was taken is no row.
		{[]entry.Entry{to(7, 0, n), {ID: 9, Length: 1, Run: 1}}, api.ErrOrder},
		{[]entry.Entry{{ID: 5, Length: 1, Run: 2}, to(7, 0, n), {ID: 8, Length: 1, Run: 1}}, api.ErrOrder},
		{[]entry.Entry{to(7, 0, n), {ID: 8, Length: 1, Run: 1}, to(12, 0, 99)}, api.ErrRange},
	} {
		tryJoin(t, x.root, text, nil, x.want)
	}
	// Leaves may stand in any order, overlap, and leave bytes over.
	l := []entry.Entry{{ID: 5, Offset: 77, Length: 1, Run: 2}, {ID: 7, Length: 1, Run: 2}, {ID: 9, Offset: 8, Length: 1, Run: 1}, {ID: 10, Length: 5, Run: 1}}
	tryJoin(t, []entry.Entry{l[0], to(7, 2, n), l[3]}, "\x01\x01"+text, l, api.OK)
	tryJoin(t, l, "", l, api.OK)
	tryJoin(t, nil, "", nil, api.OK)
	tryJoin(t, nil, text, nil, api.OK)
}

// P14.3: leaves have up to 65536 bytes.
func TestJoinOfLongLeaves(t *testing.T) {
	l := sized(65536)
	text := bytesOf(t, l)
	tryJoin(t, []entry.Entry{{Length: 65536}}, text, l, api.OK)
	tryJoin(t, []entry.Entry{{Length: 65536}}, text[:65535], nil, api.ErrRange)
	tryJoin(t, []entry.Entry{{Length: 65537}}, text, nil, api.ErrRange)
	tryJoin(t, []entry.Entry{{Length: 65537}}, text+"\x00", nil, api.ErrLong)
	tryJoin(t, []entry.Entry{{Offset: 1, Length: 65536}}, "\x00"+text, l, api.OK)
	tryJoin(t, []entry.Entry{{ID: 1, Length: 65537}}, strings.Repeat("\x00", 70000), nil, api.ErrLong)
}

// P14.3: up to 4096 entries may be taken, of leaves and of others; of more, the
// errors of all entries are told first.
func TestJoinOfMany(t *testing.T) {
	for _, n := range []int{1, 96, 97, 98, 2000} {
		for _, size := range []int{1, 40, 1000, 4000} {
			l := rowOf(1000, 4000+n)
			var root []entry.Entry
			text := ""
			for _, piece := range cut(l[:4000], size) {
				s := bytesOf(t, piece)
				root = append(root, entry.Entry{ID: piece[0].ID, Offset: uint64(len(text)), Length: uint32(len(s))})
				text += s
			}
			want, wantBad := l, api.OK
			if n > 96 {
				want, wantBad = nil, api.ErrMany
			}
			if root = append(root, l[4000:]...); len(root) > 4096 {
				tryJoin(t, root, "", nil, api.ErrMany)
				continue
			}
			tryJoin(t, root, text, want, wantBad)
			last := len(root) - 1
			root[last].Run = 0
			root[last].Offset = uint64(len(text))
			tryJoin(t, root, text, nil, api.ErrRange)
			root[last].Length = 3
			tryJoin(t, root, text+"\x80\x80\x80", nil, api.ErrShort)
			root[last].Offset = root[0].Offset
			root[last].Length = root[0].Length
			tryJoin(t, root, text, nil, api.ErrOrder)
		}
	}
}

// P14.3: leaves with many times more entries than there may be.
func TestJoinOfMostLeaves(t *testing.T) {
	var root []entry.Entry
	var b strings.Builder
	for i := range 60 {
		s := bytesOf(t, rowOf(uint64(i)<<20, 4096))
		root = append(root, entry.Entry{ID: uint64(i) << 20, Offset: uint64(b.Len()), Length: uint32(len(s))})
		b.WriteString(s)
	}
	text := b.String()
	tryJoin(t, root[:1], text, rowOf(0, 4096), api.OK)
	tryJoin(t, root[:2], text, nil, api.ErrMany)
	tryJoin(t, root, text, nil, api.ErrMany)
	tryJoin(t, root, text[:len(text)-1], nil, api.ErrRange)
	root[59].ID++
	tryJoin(t, root, text, nil, api.ErrOrder)
	// More than there may be, and not in order: told is that they are many.
	tryJoin(t, []entry.Entry{root[0], {ID: 5, Length: 1, Run: 1}}, text, nil, api.ErrMany)
}

// Rule 3: what is told, and its spare room, is nobody else's; what is handed in
// is not changed, and what lies behind it is left alone.
func TestNothingShared(t *testing.T) {
	given := append(rowOf(3, 6), entry.Entry{}, entry.Entry{ID: 1})
	l, whole := given[:6], slices.Clone(given)
	spoil := func(told []entry.Entry) {
		for i := range told[:cap(told)] {
			told[:cap(told)][i] = entry.Entry{ID: 77, Length: 7}
		}
	}
	for _, budget := range []int{16257, 20} {
		root, text, size, _ := Split(l, budget)
		kept := slices.Clone(root)
		other, otherText, _, _ := Split(l, budget)
		one, _ := Join(root, text)
		two, _ := Join(root, text)
		if !slices.Equal(root, kept) || !slices.Equal(one, l) {
			t.Errorf("budget %d: %d, %d", budget, root, one)
		}
		spoil(root)
		spoil(one)
		if !slices.Equal(other, kept) || !slices.Equal(two, l) {
			t.Errorf("budget %d: what was told is changed: %d, %d", budget, other, two)
		}
		if size > 0 && unsafe.StringData(text) == unsafe.StringData(otherText) {
			t.Errorf("budget %d: the text is handed out twice", budget)
		}
	}
	for size := range 9 {
		pieces, other := Cut(l, size), Cut(l, size)
		for i, piece := range pieces {
			spoil(piece)
			if want := cut(l, size); !slices.EqualFunc(pieces[i+1:], want[i+1:], slices.Equal) || !slices.EqualFunc(other, want, slices.Equal) {
				t.Errorf("Cut by %d: the piece %d is another's", size, i)
			}
		}
	}
	if !slices.Equal(given, whole) {
		t.Errorf("what was handed in is changed: %d", given)
	}
}
