package entry

import (
	"math"
	"math/big"
	"math/bits"
	"slices"
	"testing"

	"gazetteer/api"
	"gazetteer/tileid"
)

const (
	count    = uint64(6004799503160661) // how many tiles there are
	most     = uint64(1) << 40          // the greatest place behind a content
	last     = uint64(math.MaxUint64)
	lastHalf = uint32(math.MaxUint32)
)

// sum tells numbers together, whatever they are.
func sum(l ...uint64) *big.Int {
	n := new(big.Int)
	for _, x := range l {
		n.Add(n, new(big.Int).SetUint64(x))
	}
	return n
}

// above tells whether numbers together are above most.
func above(most uint64, l ...uint64) bool { return sum(l...).Cmp(sum(most)) > 0 }

// wide tells how wide an entry is, by the words of the chapter.
func wide(e Entry) uint64 {
	if e.Run == 0 {
		return 1
	}
	return uint64(e.Run)
}

// checked tells Check's answer, by the words of the chapter.
func checked(e Entry) api.Errno {
	switch {
	case e.Length == 0:
		return api.ErrArg
	case above(count, e.ID, wide(e)):
		return api.ErrRange
	case above(most, e.Offset), above(most, e.Offset, uint64(e.Length)):
		return api.ErrRange
	}
	return api.OK
}

// rowed tells Row's answer, by the words of the chapter.
func rowed(l []Entry) api.Errno {
	if len(l) > 4096 {
		return api.ErrMany
	}
	behind := uint64(0) // the first identifier that the entries ahead leave
	for _, e := range l {
		if bad := checked(e); bad != api.OK {
			return bad
		}
		if e.ID < behind {
			return api.ErrOrder
		}
		behind = e.ID + wide(e)
	}
	return api.OK
}

// totals tells the answers of Count, Contents and End, by the words of the
// chapter.
func totals(l []Entry) (runs uint64, contents int, end uint64) {
	var unlike []Entry
	for _, e := range l {
		if checked(e) != api.OK {
			continue
		}
		runs += uint64(e.Run)
		if to := e.Offset + uint64(e.Length); to > end {
			end = to
		}
		of := Entry{Offset: e.Offset, Length: e.Length}
		if e.Run > 0 && !slices.Contains(unlike, of) {
			unlike = append(unlike, of)
		}
	}
	return runs, len(unlike), end
}

// near tells numbers about the given ones, and about 0 and the greatest one.
func near(l ...uint64) []uint64 {
	var all []uint64
	for _, x := range append(l, 0) {
		for _, d := range []uint64{last - 1, last, 0, 1, 2} {
			all = append(all, x+d)
		}
	}
	slices.Sort(all)
	return slices.Compact(all)
}

// entries tells entries whose fields are about all that the chapter names.
func entries() []Entry {
	halves := []uint32{0, 1, 2, 3, 1 << 31, lastHalf - 1, lastHalf}
	var l []Entry
	for _, run := range halves {
		for _, length := range halves {
			for _, id := range near(count, count-uint64(run), 1<<52, 1<<63) {
				for _, offset := range near(most, most-uint64(length), 1<<32, 1<<63) {
					l = append(l, Entry{id, offset, length, run})
				}
			}
		}
	}
	return l
}

// tryCheck holds what the calls answer of an entry against Check's answer that
// is wanted of it.
func tryCheck(t *testing.T, e Entry, want api.Errno) {
	t.Helper()
	if bad := Check(e); bad != want {
		t.Fatalf("Check(%d): %d, want %d", e, int(bad), int(want))
	}
	to := uint64(0)
	if want == api.OK {
		to = e.ID + wide(e) - 1
	}
	if id := Last(e); id != to {
		t.Fatalf("Last(%d): %d, want %d", e, id, to)
	}
	for _, id := range []uint64{0, 1, e.ID - 1, e.ID, e.ID + 1, to - 1, to, to + 1, e.ID + uint64(e.Run), count - 1, count, last} {
		has := want == api.OK && e.Run > 0 && id >= e.ID && id <= to
		if Has(e, id) != has {
			t.Fatalf("Has(%d, %d): not %v", e, id, has)
		}
	}
}

// tryRow holds what Row answers.
func tryRow(t *testing.T, l []Entry, want api.Errno) {
	t.Helper()
	if bad := Row(l); bad != want {
		t.Fatalf("Row(%d): %d, want %d", l, int(bad), int(want))
	}
}

// tryTotals holds what Count, Contents and End answer.
func tryTotals(t *testing.T, l []Entry, runs uint64, contents int, end uint64) {
	t.Helper()
	if n := Count(l); n != runs {
		t.Fatalf("Count(%d): %d, want %d", l, n, runs)
	}
	if n := Contents(l); n != contents {
		t.Fatalf("Contents(%d): %d, want %d", l, n, contents)
	}
	if n := End(l); n != end {
		t.Fatalf("End(%d): %d, want %d", l, n, end)
	}
}

// listsOf tells all lists of up to n of some entries.
func listsOf(some []Entry, n int) [][]Entry {
	all := [][]Entry{nil}
	for from := 0; n > 0; n-- {
		to := len(all)
		for _, l := range all[from:to] {
			for _, e := range some {
				all = append(all, append(slices.Clone(l), e))
			}
		}
		from = to
	}
	return all
}

// rowOf tells a row of n entries of two tiles each, one behind the other.
func rowOf(n int) []Entry {
	l := make([]Entry, n)
	for i := range l {
		l[i] = Entry{ID: 2 * uint64(i), Offset: 3 * uint64(i), Length: 3, Run: 2}
	}
	return l
}

func TestLimits(t *testing.T) {
	if tileid.Count != count || api.MaxTotal != most || api.MaxEntries != 4096 {
		t.Error("the limits of these tests are others than the program's")
	}
}

func TestCheckAtEdges(t *testing.T) {
	for _, c := range []struct {
		e    Entry
		want api.Errno
	}{
		{Entry{ID: 7, Offset: 100, Length: 20, Run: 3}, api.OK},
		{Entry{ID: 7, Offset: 100, Length: 20}, api.OK},
		{Entry{Length: 1}, api.OK},
		{Entry{Length: 1, Run: 1}, api.OK},
		{Entry{}, api.ErrArg},
		{Entry{ID: 7, Offset: 100, Run: 3}, api.ErrArg},
		{Entry{ID: count, Run: 1}, api.ErrArg},
		{Entry{ID: last, Offset: last}, api.ErrArg},
		{Entry{Offset: most + 1}, api.ErrArg},
		{Entry{ID: count - 1, Length: 1, Run: 1}, api.OK},
		{Entry{ID: count, Length: 1, Run: 1}, api.ErrRange},
		{Entry{ID: count - 1, Length: 1, Run: 2}, api.ErrRange},
		{Entry{ID: count - 1, Length: 1}, api.OK},
		{Entry{ID: count, Length: 1}, api.ErrRange},
		{Entry{ID: count - uint64(lastHalf), Length: 1, Run: lastHalf}, api.OK},
		{Entry{ID: count - uint64(lastHalf) + 1, Length: 1, Run: lastHalf}, api.ErrRange},
		{Entry{ID: last, Length: 1}, api.ErrRange},
		{Entry{ID: last, Length: 1, Run: 1}, api.ErrRange},
		{Entry{ID: last - 1, Length: 1, Run: 2}, api.ErrRange},
		{Entry{ID: last - uint64(lastHalf) + 1, Length: 1, Run: lastHalf}, api.ErrRange},
		{Entry{Offset: most - 1, Length: 1, Run: 1}, api.OK},
		{Entry{Offset: most, Length: 1, Run: 1}, api.ErrRange},
		{Entry{Offset: most + 1, Length: 1, Run: 1}, api.ErrRange},
		{Entry{Offset: most - 1, Length: 2}, api.ErrRange},
		{Entry{Offset: most - uint64(lastHalf), Length: lastHalf}, api.OK},
		{Entry{Offset: most - uint64(lastHalf) + 1, Length: lastHalf}, api.ErrRange},
		{Entry{Offset: last, Length: 1}, api.ErrRange},
		{Entry{Offset: last - uint64(lastHalf) + 1, Length: lastHalf, Run: 9}, api.ErrRange},
	} {
		tryCheck(t, c.e, c.want)
	}
}

func TestCheckOfAllFields(t *testing.T) {
	for _, e := range entries() {
		tryCheck(t, e, checked(e))
	}
}

func TestHasOfAllTilesNearby(t *testing.T) {
	for run := range uint32(9) {
		for from := range uint64(12) {
			e := Entry{ID: from, Length: 1, Run: run}
			for id := range uint64(24) {
				if Has(e, id) != (id >= from && id < from+uint64(run)) {
					t.Errorf("Has(%d, %d)", e, id)
				}
			}
		}
	}
}

func TestLastAndHasOfRefused(t *testing.T) {
	for _, e := range []Entry{
		{ID: 5, Run: 3}, {ID: 5, Length: 1, Offset: most, Run: 3}, {ID: count - 1, Length: 1, Run: 2},
		{ID: 5, Length: 2, Offset: last, Run: 3}, {ID: last, Length: 1, Run: 5}, {ID: 5},
	} {
		for _, id := range []uint64{0, 1, 3, e.ID, e.ID + 1, e.ID + 2} {
			if Last(e) != 0 || Has(e, id) {
				t.Errorf("Last(%d): %d; Has %d: %v", e, Last(e), id, Has(e, id))
			}
		}
	}
}

func TestRowOfChapter(t *testing.T) {
	for id, want := range map[uint64]api.Errno{4: api.ErrOrder, 5: api.ErrOrder, 6: api.ErrOrder, 7: api.ErrOrder, 8: api.OK, 9: api.OK} {
		for _, run := range []uint32{0, 1, 40} {
			tryRow(t, []Entry{{ID: 5, Length: 1, Run: 3}, {ID: id, Length: 1, Run: run}}, want)
		}
	}
}

func TestRowBehindPointer(t *testing.T) {
	for id, want := range map[uint64]api.Errno{0: api.ErrOrder, 4: api.ErrOrder, 5: api.ErrOrder, 6: api.OK, 7: api.OK} {
		for _, run := range []uint32{0, 1, 40} {
			tryRow(t, []Entry{{ID: 5, Length: 900}, {ID: id, Length: 1, Run: run}}, want)
		}
	}
}

// TestRowOfShortLists holds Row against its words, so that each error stands
// ahead of, and behind, each other one.
func TestRowOfShortLists(t *testing.T) {
	for _, l := range listsOf([]Entry{
		{ID: 0, Length: 1, Run: 1}, {ID: 1, Length: 1}, {ID: 1, Length: 9, Run: 2}, {ID: 3, Length: 9, Run: 2},
		{ID: 5, Length: 9, Offset: 40}, {ID: count - 1, Length: 1, Run: 1}, {ID: 2}, {ID: 9, Run: 1},
		{ID: count, Length: 1}, {ID: 4, Length: 1, Offset: most, Run: 1}, {ID: last, Length: 1, Run: 7},
	}, 4) {
		tryRow(t, l, rowed(l))
	}
}

func TestRowAtMost(t *testing.T) {
	for _, n := range []int{0, 1, 2, 4095, 4096} {
		tryRow(t, rowOf(n), api.OK)
	}
	for _, n := range []int{4097, 4098, 9000} {
		tryRow(t, rowOf(n), api.ErrMany)
		tryRow(t, make([]Entry, n), api.ErrMany)
		l := rowOf(n)
		slices.Reverse(l)
		tryRow(t, l, api.ErrMany)
	}
	tryRow(t, make([]Entry, 4096), api.ErrArg)
	l := rowOf(4096)
	l[4095].Length = 0
	tryRow(t, l, api.ErrArg)
	l = rowOf(4096)
	l[4095].Offset = most
	tryRow(t, l, api.ErrRange)
	l = rowOf(4096)
	l[4095].ID--
	tryRow(t, l, api.ErrOrder)
	l[4095].Length = 0
	tryRow(t, l, api.ErrArg)
	l[2000].ID--
	tryRow(t, l, api.ErrOrder)
}

func TestRowOfFurthestEntries(t *testing.T) {
	far := count - uint64(lastHalf)
	tryRow(t, []Entry{{ID: far - 1, Length: 1}, {ID: far, Length: 1, Run: lastHalf}}, api.OK)
	tryRow(t, []Entry{{ID: far, Length: 1, Run: lastHalf}, {ID: count - 1, Length: 1}}, api.ErrOrder)
	tryRow(t, []Entry{{ID: far, Length: 1, Run: lastHalf - 1}, {ID: count - 1, Length: 1}}, api.OK)
	tryRow(t, []Entry{{ID: count - 1, Length: 1}, {ID: count - 1, Length: 1}}, api.ErrOrder)
	tryRow(t, []Entry{{ID: count - 1, Length: 1}, {ID: count, Length: 1}}, api.ErrRange)
}

// TestRowOfPlaces: where the contents stand plays no part in the order.
func TestRowOfPlaces(t *testing.T) {
	tryRow(t, []Entry{{ID: 1, Offset: 90, Length: 5, Run: 1}, {ID: 2, Offset: 3, Length: 9, Run: 1}, {ID: 3, Offset: 3, Length: 9, Run: 1}, {ID: 4, Offset: 3, Length: 9}}, api.OK)
}

func TestTotals(t *testing.T) {
	tryTotals(t, nil, 0, 0, 0)
	tryTotals(t, []Entry{}, 0, 0, 0)
	tryTotals(t, []Entry{{ID: 3, Offset: 4, Length: 5, Run: 6}}, 6, 1, 9)
	tryTotals(t, []Entry{{ID: 3, Offset: 4, Length: 5}}, 0, 0, 9)
	tryTotals(t, []Entry{{ID: 3, Offset: 4, Length: 5}, {ID: 4, Offset: 4, Length: 5, Run: 1}}, 1, 1, 9)
	tryTotals(t, []Entry{{ID: 4, Offset: 4, Length: 5, Run: 1}, {ID: 9, Offset: 4, Length: 5, Run: 7}}, 8, 1, 9)
	tryTotals(t, []Entry{{ID: 4, Offset: 4, Length: 5, Run: 1}, {ID: 9, Offset: 5, Length: 4, Run: 7}}, 8, 2, 9)
	tryTotals(t, []Entry{{ID: 4, Offset: 4, Length: 5, Run: 1}, {ID: 9, Offset: 4, Length: 4, Run: 7}}, 8, 2, 9)
	tryTotals(t, []Entry{{ID: 4, Offset: 4, Length: 5, Run: 1}, {ID: 9, Offset: 3, Length: 5, Run: 7}}, 8, 2, 9)
	tryTotals(t, []Entry{{ID: 9, Offset: 1 << 32, Length: 5, Run: 1}, {ID: 4, Offset: 0, Length: 5, Run: 1}, {ID: 4, Offset: 0, Length: 5}}, 2, 2, 1<<32+5)
	tryTotals(t, []Entry{{Offset: most - 1, Length: 1, Run: 1}, {Offset: 5, Length: 9, Run: 1}}, 2, 2, most)
	tryTotals(t, []Entry{{Length: 1, Run: lastHalf}, {Length: 1, Run: lastHalf}, {Length: lastHalf, Run: 1}}, 1<<33-1, 2, uint64(lastHalf))
}

// TestTotalsOfRefused: entries that may not be are left out, wherever they
// stand.
func TestTotalsOfRefused(t *testing.T) {
	good := Entry{ID: 3, Offset: 4, Length: 5, Run: 6}
	for _, e := range []Entry{
		{ID: 9, Offset: 40, Run: 1}, {Offset: most}, {ID: count, Offset: 40, Length: 9, Run: 1},
		{ID: count - 1, Offset: 40, Length: 9, Run: 2}, {ID: last, Offset: 40, Length: 9, Run: 3}, {ID: count, Offset: 40, Length: 9},
		{ID: 9, Offset: most, Length: 1, Run: 1}, {ID: 9, Offset: last, Length: 2, Run: 1}, {ID: 9, Offset: most, Length: 1},
	} {
		tryTotals(t, []Entry{e}, 0, 0, 0)
		tryTotals(t, []Entry{e, e, e}, 0, 0, 0)
		tryTotals(t, []Entry{e, good}, 6, 1, 9)
		tryTotals(t, []Entry{good, e}, 6, 1, 9)
		tryTotals(t, []Entry{e, good, e, {ID: 1, Offset: 9, Length: 5, Run: 1}, e}, 7, 2, 14)
	}
}

func TestTotalsOfShortLists(t *testing.T) {
	for _, l := range listsOf([]Entry{
		{ID: 1, Offset: 10, Length: 5, Run: 4}, {ID: 5, Length: 100}, {ID: 6, Offset: 10, Length: 5, Run: 1},
		{ID: 9, Offset: 10, Length: 4, Run: 2}, {ID: 9, Offset: 11, Length: 4, Run: 2}, {ID: 2, Offset: 10, Length: 5},
		{ID: 7, Offset: 300, Run: 3}, {ID: count, Offset: 300, Length: 1, Run: 1}, {ID: 1, Offset: most, Length: 1, Run: 1},
	}, 4) {
		runs, contents, end := totals(l)
		tryTotals(t, l, runs, contents, end)
	}
}

// TestTotalsOfLongLists: a list of more entries than a directory may have is
// counted, too, and so is one that is out of order.
func TestTotalsOfLongLists(t *testing.T) {
	l := rowOf(10000)
	tryTotals(t, l, 20000, 10000, 30000)
	slices.Reverse(l)
	tryTotals(t, l, 20000, 10000, 30000)
	tryTotals(t, append(l, l...), 40000, 10000, 30000)
}

func TestTotalsOfAllFields(t *testing.T) {
	l := entries()
	for len(l) > 0 {
		n := min(len(l), 60)
		runs, contents, end := totals(l[:n])
		tryTotals(t, l[:n], runs, contents, end)
		l = l[n:]
	}
}

func TestSame(t *testing.T) {
	a := Entry{ID: 1, Offset: 2, Length: 3, Run: 4}
	b := Entry{ID: 5, Offset: 6, Length: 7}
	bad := Entry{ID: 1, Offset: 2, Run: 4}
	for _, l := range [][]Entry{nil, {}, {a}, {a, b}, {b, a}, {a, a}, {bad}, {a, bad, b}} {
		if !Same(l, l) || !Same(l, slices.Clone(l)) {
			t.Errorf("%d is not the same as itself", l)
		}
	}
	if !Same(nil, []Entry{}) || !Same([]Entry{}, nil) {
		t.Error("the empty lists are not the same")
	}
	for _, c := range [][2][]Entry{
		{nil, {a}}, {nil, {{}}}, {nil, {bad}}, {{a}, {b}}, {{a}, {a, a}}, {{a, b}, {a}}, {{a, b}, {b}}, {{a, b}, {b, a}},
		{{a, b, a}, {a, b, b}}, {{a, b, a}, {a, a, a}}, {{a, b, a}, {b, b, a}}, {{a, bad}, {a}}, {{bad}, {{}}},
		{{a}, {{ID: 9, Offset: 2, Length: 3, Run: 4}}}, {{a}, {{ID: 1, Offset: 9, Length: 3, Run: 4}}},
		{{a}, {{ID: 1, Offset: 2, Length: 9, Run: 4}}}, {{a}, {{ID: 1, Offset: 2, Length: 3, Run: 9}}},
		{{a}, {{ID: 1 << 33, Offset: 2, Length: 3, Run: 4}}}, {{a}, {{ID: 1, Offset: 1<<33 + 2, Length: 3, Run: 4}}},
	} {
		if Same(c[0], c[1]) || Same(c[1], c[0]) {
			t.Errorf("%d is the same as %d", c[0], c[1])
		}
	}
}

// TestListsAreLeft: no call changes a list, or reads what lies behind it.
func TestListsAreLeft(t *testing.T) {
	l := rowOf(5)
	l[3], l[4] = Entry{}, Entry{ID: 1, Offset: 90, Length: 9, Run: 9}
	whole := slices.Clone(l)
	tryRow(t, l[:3], api.OK)
	tryTotals(t, l[:3], 6, 3, 9)
	if !Same(l[:3], rowOf(3)) || Same(l[:2], l[:3]) {
		t.Error("Same tells what lies behind the list")
	}
	tryRow(t, l[:0], api.OK)
	tryTotals(t, l[:0], 0, 0, 0)
	tryRow(t, l, api.ErrArg)
	tryTotals(t, l, 15, 4, 99)
	if !slices.Equal(l, whole) {
		t.Errorf("%d was changed to %d", whole, l)
	}
}

// TestRowsOfBits goes through rows in which an entry stands at each number of
// one binary digit, and of what is one below it.
func TestRowsOfBits(t *testing.T) {
	var l []Entry
	for n := 1; n < bits.Len64(count); n++ {
		l = append(l, Entry{ID: 1<<n - 1, Offset: most - 1, Length: 1}, Entry{ID: 1 << n, Length: 1, Run: 1})
	}
	tryRow(t, l, api.OK)
	for i := range l {
		wrong := slices.Clone(l)
		wrong[i].ID--
		tryRow(t, wrong, rowed(wrong))
		wrong[i] = l[i]
		wrong[i].Run = 2
		tryRow(t, wrong, rowed(wrong))
	}
}
