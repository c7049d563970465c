package seek

import (
	"math"
	"slices"
	"strings"
	"testing"

	"gazetteer/api"
	"gazetteer/entry"
	"gazetteer/tileid"
)

const (
	count    = uint64(6004799503160661) // how many tiles there are
	most     = uint64(1) << 40          // the greatest place behind a content
	last     = uint64(math.MaxUint64)
	lastHalf = uint32(math.MaxUint32)
)

// placed tells Place's answer, by the words of the chapter.
func placed(l []entry.Entry, id uint64) int {
	at := -1
	if entry.Row(l) == api.OK {
		for i, e := range l {
			if e.ID <= id {
				at = i
			}
		}
	}
	return at
}

// found tells Find's answer, by the words of the chapter.
func found(l []entry.Entry, id uint64) (entry.Entry, bool) {
	at := placed(l, id)
	if at >= 0 && (l[at].Run == 0 || entry.Has(l[at], id)) {
		return l[at], true
	}
	return entry.Entry{}, false
}

// tile is what Tiles tells at one turn.
type tile struct {
	id uint64
	of entry.Entry
}

// tiled tells up to n tiles that Tiles answers, by the words of the chapter.
func tiled(l []entry.Entry, n int) []tile {
	var all []tile
	if entry.Row(l) != api.OK {
		return nil
	}
	for _, e := range l {
		for id := e.ID; e.Run > 0 && id <= entry.Last(e) && len(all) < n; id++ {
			all = append(all, tile{id, e})
		}
	}
	return all
}

// pointers tells Leaves' answer, by the words of the chapter.
func pointers(l []entry.Entry) []entry.Entry {
	return slices.DeleteFunc(slices.Clone(l), func(e entry.Entry) bool { return e.Run > 0 })
}

// taken tells the first n tiles that Tiles tells, leaving it behind them.
func taken(l []entry.Entry, n int) []tile {
	var all []tile
	for id, e := range Tiles(l) {
		if all = append(all, tile{id, e}); len(all) >= n {
			break
		}
	}
	return all
}

// short tells a list, or as much of it as an error's line has room for.
func short(l []entry.Entry) []entry.Entry { return l[:min(len(l), 9)] }

// tryPlace holds what Place and Find answer.
func tryPlace(t *testing.T, l []entry.Entry, id uint64, want int, wantIs bool) {
	t.Helper()
	if at := Place(l, id); at != want {
		t.Fatalf("Place(%d, %d): %d, want %d", short(l), id, at, want)
	}
	wantOf := entry.Entry{}
	if wantIs {
		wantOf = l[want]
	}
	if e, is := Find(l, id); e != wantOf || is != wantIs {
		t.Fatalf("Find(%d, %d): %d, %v; want %d, %v", short(l), id, e, is, wantOf, wantIs)
	}
}

// tryTiles holds the first n tiles that Tiles answers, and, of a list that has
// fewer, that no more are told.
func tryTiles(t *testing.T, l []entry.Entry, n int) {
	t.Helper()
	if all, want := taken(l, n+1), tiled(l, n+1); !slices.Equal(all, want) {
		t.Fatalf("Tiles(%d): %d, want %d", short(l), all, want)
	}
}

// tryLeaves holds what Leaves answers.
func tryLeaves(t *testing.T, l []entry.Entry, want ...entry.Entry) {
	t.Helper()
	if m := Leaves(l); !slices.Equal(m, want) {
		t.Fatalf("Leaves(%d): %d, want %d", short(l), m, want)
	}
}

// tryList holds all calls' answers of any list against the words, at each
// identifier about an end of an entry, and at some more.
func tryList(t *testing.T, l []entry.Entry) {
	t.Helper()
	ids := []uint64{0, 1, 2, count - 1, count, count + 1, 1 << 63, last - 1, last}
	for _, e := range l {
		ids = append(ids, e.ID-1, e.ID, e.ID+1, e.ID+uint64(e.Run)-1, e.ID+uint64(e.Run), e.ID+uint64(e.Run)+1)
	}
	for _, id := range ids {
		_, is := found(l, id)
		tryPlace(t, l, id, placed(l, id), is)
	}
	tryTiles(t, l, 50)
	tryLeaves(t, l, pointers(l)...)
}

// tryNoRow holds all calls' answers of a list that is no row.
func tryNoRow(t *testing.T, l []entry.Entry) {
	t.Helper()
	if entry.Row(l) == api.OK {
		t.Fatalf("%d is a row", short(l))
	}
	for _, e := range l[:min(len(l), 20)] {
		tryPlace(t, l, e.ID, -1, false)
	}
	for _, id := range []uint64{0, 1, 5, 100, 1 << 40, count, last} {
		tryPlace(t, l, id, -1, false)
	}
	if all := taken(l, 5); len(all) > 0 {
		t.Fatalf("Tiles(%d): %d", short(l), all)
	}
	tryLeaves(t, l, pointers(l)...)
}

// listsOf tells all lists of up to n of some entries.
func listsOf(some []entry.Entry, n int) [][]entry.Entry {
	all := [][]entry.Entry{nil}
	for from := 0; n > 0; n-- {
		to := len(all)
		for _, l := range all[from:to] {
			for _, e := range some {
				all = append(all, append(slices.Clone(l), e))
			}
		}
		from = to
	}
	return all
}

// rowOf tells a row of n entries, of four identifiers each: every third one is
// a pointer, the others tell of one tile and of two.
func rowOf(n int) []entry.Entry {
	l := make([]entry.Entry, n)
	for i := range l {
		l[i] = entry.Entry{ID: 7 + 4*uint64(i), Offset: 3 * uint64(i), Length: 3, Run: uint32(i % 3)}
	}
	return l
}

// chapters is the row of the chapter's example.
func chapters() []entry.Entry {
	return []entry.Entry{{ID: 5, Length: 1, Run: 3}, {ID: 9, Offset: 40, Length: 900}}
}

func TestLimits(t *testing.T) {
	if tileid.Count != count || api.MaxTotal != most || api.MaxEntries != 4096 {
		t.Error("the limits of these tests are others than the program's")
	}
}

func TestChaptersExample(t *testing.T) {
	l := chapters()
	for id, want := range map[uint64]int{0: -1, 4: -1, 5: 0, 6: 0, 7: 0, 8: 0, 9: 1, 10: 1, 99: 1, count - 1: 1, count: 1, last: 1} {
		tryPlace(t, l, id, want, want >= 0 && id != 8)
	}
	if all := taken(l, 9); !slices.Equal(all, []tile{{5, l[0]}, {6, l[0]}, {7, l[0]}}) {
		t.Errorf("Tiles: %d", all)
	}
	tryLeaves(t, l, l[1])
}

func TestNoEntries(t *testing.T) {
	for _, l := range [][]entry.Entry{nil, {}, chapters()[:0]} {
		for _, id := range []uint64{0, 1, 5, 9, count, last} {
			tryPlace(t, l, id, -1, false)
		}
		if all := taken(l, 5); len(all) > 0 {
			t.Errorf("Tiles: %d", all)
		}
		tryLeaves(t, l)
	}
}

// TestOneEntry goes through all runs at all places nearby: of a run that has
// ended, and of what stands ahead, no entry tells, of a pointer's all behind
// it.
func TestOneEntry(t *testing.T) {
	for run := range uint32(6) {
		for from := range uint64(9) {
			l := []entry.Entry{{ID: from, Offset: 70, Length: 9, Run: run}}
			for id := range uint64(20) {
				want := -1
				if id >= from {
					want = 0
				}
				tryPlace(t, l, id, want, id >= from && (run == 0 || id < from+uint64(run)))
			}
			if all := taken(l, 20); len(all) != int(run) || run > 0 && (all[0] != tile{from, l[0]} || all[run-1].id != from+uint64(run)-1) {
				t.Errorf("Tiles(%d): %d", l, all)
			}
		}
	}
}

// TestGapsBetweenEntries: where the last entry that is not above tells of no
// tile, none ahead of it does, and a pointer tells up to the next entry.
func TestGapsBetweenEntries(t *testing.T) {
	l := []entry.Entry{
		{ID: 0, Offset: 9, Length: 1, Run: 2}, {ID: 4, Length: 2}, {ID: 8, Length: 3, Run: 1},
		{ID: 9, Offset: 9, Length: 1, Run: 1}, {ID: 12, Length: 4}, {ID: 13, Length: 5},
	}
	at := []int{0, 0, 0, 0, 1, 1, 1, 1, 2, 3, 3, 3, 4, 5, 5, 5}
	is := "xx--xxxxxx--xxxx"
	for id := range at {
		tryPlace(t, l, uint64(id), at[id], is[id] == 'x')
	}
	if all := taken(l, 20); !slices.Equal(all, []tile{{0, l[0]}, {1, l[0]}, {8, l[2]}, {9, l[3]}}) {
		t.Errorf("Tiles: %d", all)
	}
	tryLeaves(t, l, l[1], l[4], l[5])
}

func TestShortLists(t *testing.T) {
	for _, l := range listsOf([]entry.Entry{
		{ID: 0, Length: 1, Run: 1}, {ID: 1, Length: 1}, {ID: 1, Offset: 9, Length: 9, Run: 2}, {ID: 3, Length: 9, Run: 2},
		{ID: 6, Length: 9, Offset: 40}, {ID: count - 1, Length: 1, Run: 1}, {ID: count - 1, Length: 2}, {ID: 2}, {ID: 9, Run: 1},
		{ID: count, Length: 1}, {ID: 4, Length: 1, Offset: most, Run: 1}, {ID: last, Length: 1, Run: 7},
	}, 3) {
		tryList(t, l)
	}
	for _, l := range listsOf([]entry.Entry{
		{ID: 0, Length: 1}, {ID: 1, Length: 1, Run: 1}, {ID: 2, Length: 1, Run: 2}, {ID: 5, Length: 1}, {ID: 7, Length: 1, Run: 1},
	}, 5) {
		tryList(t, l)
	}
}

func TestNoRows(t *testing.T) {
	good := entry.Entry{ID: 5, Length: 9, Run: 3}
	leaf := entry.Entry{ID: 8, Length: 9}
	for _, l := range [][]entry.Entry{
		{{}}, {{ID: 5, Run: 3}}, {{ID: 5}}, {good, {}}, {{}, good}, {good, {ID: 9, Run: 1}}, {leaf, {ID: 9}},
		{{ID: count, Length: 1}}, {{ID: count, Length: 1, Run: 1}}, {good, {ID: count - 1, Length: 1, Run: 2}},
		{{ID: 5, Offset: most, Length: 1, Run: 3}}, {good, {ID: 9, Offset: last, Length: 2}}, {leaf, {ID: last, Length: 1, Run: 9}},
		{leaf, good}, {good, good}, {leaf, leaf}, {good, {ID: 7, Length: 1}}, {good, {ID: 7, Length: 1, Run: 1}},
		{good, leaf, {ID: 8, Length: 1, Run: 1}}, {good, leaf, {ID: 6, Length: 1}},
	} {
		tryNoRow(t, l)
	}
}

// TestRowsOfAllLengths looks for each entry, and for what lies about it, in
// rows whose halves are whole, and are not.
func TestRowsOfAllLengths(t *testing.T) {
	for n := range 70 {
		tryList(t, rowOf(n))
	}
	for _, n := range []int{255, 256, 257, 1023, 1024, 1025, 4095, 4096} {
		l := rowOf(n)
		step := max(1, n/97)
		for i := 0; i < n; i += step {
			for id := l[i].ID; id < l[i].ID+4; id++ {
				tryPlace(t, l, id, i, l[i].Run == 0 || id < l[i].ID+uint64(l[i].Run))
			}
		}
		tryPlace(t, l, 6, -1, false)
		tryPlace(t, l, l[n-1].ID-1, n-2, l[n-2].Run == 0)
		tryPlace(t, l, l[n-1].ID, n-1, true)
		tryPlace(t, l, last, n-1, l[n-1].Run == 0)
		tryTiles(t, l, 9000)
		tryLeaves(t, l, pointers(l)...)
	}
}

func TestTooManyEntries(t *testing.T) {
	for _, n := range []int{4097, 4098, 20000} {
		tryNoRow(t, rowOf(n))
		tryNoRow(t, make([]entry.Entry, n))
	}
	l := rowOf(4096)
	l[4095].Length = 0
	tryNoRow(t, l)
	l = rowOf(4096)
	l[4095].ID = l[4094].ID
	tryNoRow(t, l)
}

// TestFurthestEntries goes through entries that end with the last tile, and
// through those of the most tiles.
func TestFurthestEntries(t *testing.T) {
	far := count - uint64(lastHalf)
	wide := entry.Entry{ID: far, Length: 1, Run: lastHalf}
	tail := entry.Entry{ID: count - 1, Offset: most - 1, Length: 1, Run: 1}
	leaf := entry.Entry{ID: count - 1, Offset: most - 1, Length: 1}
	for _, l := range [][]entry.Entry{
		{wide}, {tail}, {leaf}, {{Length: 1}, wide}, {{Length: 1, Run: 1}, tail}, {{Length: 1, Run: lastHalf}, leaf},
		{{ID: 1, Length: lastHalf, Run: lastHalf}, {ID: 1 + uint64(lastHalf), Length: 1, Run: lastHalf}, wide},
	} {
		tryList(t, l)
	}
	tryPlace(t, []entry.Entry{wide}, far-1, -1, false)
	tryPlace(t, []entry.Entry{wide}, far, 0, true)
	tryPlace(t, []entry.Entry{wide}, count-1, 0, true)
	tryPlace(t, []entry.Entry{wide}, count, 0, false)
	tryPlace(t, []entry.Entry{wide}, last, 0, false)
	tryPlace(t, []entry.Entry{leaf}, count, 0, true)
	tryPlace(t, []entry.Entry{leaf}, last, 0, true)
}

// TestLongRunIsToldToItsEnd: all tiles of a run are told, and those of the
// next entry behind them.
func TestLongRunIsToldToItsEnd(t *testing.T) {
	l := []entry.Entry{{ID: 3, Length: 1, Run: 70000}, {ID: 80000, Length: 9}, {ID: 80001, Length: 2, Run: 2}}
	tryTiles(t, l, 80000)
}

func TestTilesAreLeftAndGoneThroughAgain(t *testing.T) {
	l := rowOf(7)
	whole := tiled(l, 99)
	tiles := Tiles(l)
	for n := 1; n <= len(whole); n++ {
		for range 2 {
			turns := 0
			tiles(func(id uint64, e entry.Entry) bool {
				if turns >= n || (tile{id, e}) != whole[turns] {
					t.Fatalf("left behind %d: %d, %d at the turn %d", n, id, e, turns)
				}
				turns++
				return turns < n
			})
			if turns != n {
				t.Errorf("left behind %d: %d turns", n, turns)
			}
		}
	}
	pairs := 0
	for id, e := range tiles {
		for other, f := range tiles {
			if (tile{id, e}) != whole[pairs/len(whole)] || (tile{other, f}) != whole[pairs%len(whole)] {
				t.Fatalf("%d %d, %d %d at the turn %d", id, e, other, f, pairs)
			}
			pairs++
		}
	}
	if pairs != len(whole)*len(whole) {
		t.Errorf("%d pairs", pairs)
	}
}

func TestTilesAreNeverNil(t *testing.T) {
	for _, l := range [][]entry.Entry{nil, {}, {{}}, chapters(), chapters()[1:], rowOf(4097)} {
		if Tiles(l) == nil {
			t.Errorf("Tiles(%d) is nil", short(l))
		}
	}
}

// TestTilesKeepNoList: what is done with a list behind the call plays no part
// in what is told, neither ahead of going through it nor on the way.
func TestTilesKeepNoList(t *testing.T) {
	l := rowOf(7)
	want := tiled(l, 99)
	tiles := Tiles(l)
	clear(l)
	for range 2 {
		var all []tile
		for id, e := range tiles {
			all = append(all, tile{id, e})
			l[len(all)%len(l)] = entry.Entry{ID: 1, Length: 1, Run: 900}
		}
		if !slices.Equal(all, want) {
			t.Errorf("Tiles of a list that was changed: %d, want %d", all, want)
		}
	}
	// A list that becomes a row behind the call was none.
	l = []entry.Entry{{ID: 5}}
	tiles = Tiles(l)
	l[0] = entry.Entry{ID: 5, Length: 1, Run: 1}
	for id, e := range tiles {
		t.Errorf("Tiles of a list that was no row: %d, %d", id, e)
	}
}

// TestLeavesOfAnyList: pointers that may not be, are there twice, or stand out
// of order are told, too.
func TestLeavesOfAnyList(t *testing.T) {
	a := entry.Entry{ID: 9, Length: 5}
	b := entry.Entry{ID: 2, Offset: most, Length: 5}
	c := entry.Entry{ID: last, Offset: last}
	one := entry.Entry{ID: 4, Length: 1, Run: 1}
	many := entry.Entry{ID: 4, Run: lastHalf}
	tryLeaves(t, []entry.Entry{{}}, entry.Entry{})
	tryLeaves(t, []entry.Entry{one, many})
	tryLeaves(t, []entry.Entry{a, one, b, many, c, a, {}, one}, a, b, c, a, entry.Entry{})
	tryLeaves(t, []entry.Entry{c, b, a}, c, b, a)
	tryLeaves(t, []entry.Entry{a, a, a}, a, a, a)
	if m := Leaves(make([]entry.Entry, 10000)); len(m) != 10000 {
		t.Errorf("%d pointers", len(m))
	}
}

// TestListsAreLeft: no call changes a list, reads what lies behind it, or
// hands a piece of it out.
func TestListsAreLeft(t *testing.T) {
	l := rowOf(6)
	l[4], l[5] = entry.Entry{ID: 1}, entry.Entry{ID: 2, Length: 1}
	whole := slices.Clone(l)
	tryList(t, l[:4])
	tryPlace(t, l[:4], 99, 3, true)
	tryLeaves(t, l[:4], l[0], l[3])
	tryList(t, l[:0])
	tryNoRow(t, l)
	for _, part := range [][]entry.Entry{l[:1], l[:4], l[3:4], l} {
		m := Leaves(part)
		want := slices.Clone(m)
		other := Leaves(part)
		m = m[:cap(m)]
		for i := range m {
			m[i] = entry.Entry{ID: 99, Run: 99}
		}
		if !slices.Equal(other, want) {
			t.Errorf("what was told was changed to %d", other)
		}
	}
	if !slices.Equal(l, whole) {
		t.Errorf("%d was changed to %d", whole, l)
	}
}

// TestLastUpToOfAnyOrder: keys may be of any type that is in order, and be
// there several times.
func TestLastUpToOfAnyOrder(t *testing.T) {
	words := strings.Fields("a b b b d ef")
	same := func(s string) string { return s }
	for s, want := range map[string]int{"": -1, "a": 0, "aa": 0, "b": 3, "c": 3, "d": 4, "e": 4, "ef": 5, "z": 5} {
		if at := lastUpTo(words, same, s); at != want {
			t.Errorf("%q: %d, want %d", s, at, want)
		}
	}
	width := func(s string) float64 { return float64(len(s)) }
	for x, want := range map[float64]int{-1: -1, 0.5: -1, 1: 4, 1.5: 4, 2: 5, math.Inf(1): 5, math.Inf(-1): -1} {
		if at := lastUpTo(words, width, x); at != want {
			t.Errorf("%g: %d, want %d", x, at, want)
		}
	}
}

// TestLastUpToLooksAtFew: each look halves what is left.
func TestLastUpToLooksAtFew(t *testing.T) {
	l := rowOf(4096)
	for id := range uint64(4*4096 + 20) {
		looks := 0
		counted := func(e entry.Entry) uint64 {
			looks++
			return e.ID
		}
		want := min((int(id)+1)/4-2, 4095)
		if id < 7 {
			want = -1
		}
		if at := lastUpTo(l, counted, id); at != want || looks > 13 {
			t.Fatalf("%d: %d, want %d; %d looks", id, at, want, looks)
		}
	}
}
