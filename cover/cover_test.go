package cover

import (
	"math"
	"slices"
	"testing"

	"gazetteer/api"
	"gazetteer/tileid"
)

// noZooms are beside the zooms.
var noZooms = []int{-1, -2, -26, 27, 28, 32, 52, 63, 64, 1 << 20, math.MinInt, math.MaxInt}

// last is the greatest number of a Span.
const last = uint64(math.MaxUint64)

// whole tells the rectangle of all tiles of a zoom.
func whole(z int) Rect { return Rect{Z: z, X1: 1<<z - 1, Y1: 1<<z - 1} }

// rects tells all rectangles of a zoom.
func rects(z int) []Rect {
	var l []Rect
	for x0 := range 1 << z {
		for x1 := x0; x1 < 1<<z; x1++ {
			for y0 := range 1 << z {
				for y1 := y0; y1 < 1<<z; y1++ {
					l = append(l, Rect{z, x0, y0, x1, y1})
				}
			}
		}
	}
	return l
}

// wrongRects tells rectangles of a zoom that may not be.
func wrongRects(z int) []Rect {
	side := 1 << z
	l := []Rect{{z, 1, 0, 0, 0}, {z, 0, 1, 0, 0}, {z, side, side, side, side}, {z, -1, -1, -1, -1}}
	for _, out := range []int{-1, -2, -side, math.MinInt} {
		l = append(l, Rect{z, out, 0, side - 1, side - 1}, Rect{z, 0, out, side - 1, side - 1}, Rect{z, out, 0, out, 0}, Rect{z, 0, out, 0, out})
		l = append(l, Rect{z, 0, 0, out, 0}, Rect{z, 0, 0, 0, out})
	}
	for _, out := range []int{side, side + 1, 2 * side, 1 << 26, math.MaxInt} {
		l = append(l, Rect{z, 0, 0, out, side - 1}, Rect{z, 0, 0, side - 1, out}, Rect{z, out, 0, out, 0}, Rect{z, 0, out, 0, out})
		l = append(l, Rect{z, out, 0, 0, 0}, Rect{z, 0, out, 0, 0})
	}
	if side > 1 {
		l = append(l, Rect{z, side - 1, 0, side - 2, side - 1}, Rect{z, 0, side - 1, side - 1, side - 2})
	}
	return append(l, Rect{z, math.MinInt, math.MinInt, math.MaxInt, math.MaxInt}, Rect{z, math.MaxInt, 0, math.MinInt, 0})
}

// lies tells whether a tile is a rectangle's, by the words of the chapter.
func lies(r Rect, t tileid.Tile) bool {
	return t.Z == r.Z && t.X >= r.X0 && t.X <= r.X1 && t.Y >= r.Y0 && t.Y <= r.Y1
}

// runs tells the plain list of rising identifiers.
func runs(ids []uint64) []Span {
	var l []Span
	for i, id := range ids {
		if i > 0 && ids[i-1]+1 == id {
			l[len(l)-1].To = id
		} else {
			l = append(l, Span{id, id})
		}
	}
	return l
}

// byTiles tells a rectangle's plain list, by the identifier of each tile.
func byTiles(r Rect) []Span {
	var ids []uint64
	for x := r.X0; x <= r.X1; x++ {
		for y := r.Y0; y <= r.Y1; y++ {
			id, _ := tileid.ID(tileid.Tile{Z: r.Z, X: x, Y: y})
			ids = append(ids, id)
		}
	}
	slices.Sort(ids)
	return runs(ids)
}

// isPlain tells whether a list is plain, by the words of the chapter.
func isPlain(l []Span) bool {
	for i, s := range l {
		if s.From > s.To || i > 0 && (s.From <= l[i-1].To || s.From-l[i-1].To < 2) {
			return false
		}
	}
	return true
}

// trySpans holds what Spans answers.
func trySpans(t *testing.T, r Rect, most int, want []Span, wrong api.Errno) {
	t.Helper()
	if l, bad := Spans(r, most); !slices.Equal(l, want) || bad != wrong {
		t.Fatalf("Spans(%d, %d): %d Spans, %d; want %d, %d", r, most, len(l), int(bad), len(want), int(wrong))
	}
}

// tryMost holds what Spans answers of a rectangle and its list, at all that
// most may be about the list's length.
func tryMost(t *testing.T, r Rect, want []Span) {
	t.Helper()
	if !isPlain(want) {
		t.Fatalf("the list to hold Spans(%d) against is not plain", r)
	}
	for _, most := range []int{1, len(want) - 1, len(want), len(want) + 1, api.MaxRects} {
		switch {
		case most < 1 || most > api.MaxRects:
			trySpans(t, r, most, nil, api.ErrArg)
		case most < len(want):
			trySpans(t, r, most, nil, api.ErrMany)
		default:
			trySpans(t, r, most, want, api.OK)
		}
	}
}

// tryUnion holds what Union answers.
func tryUnion(t *testing.T, a, b, want []Span) {
	t.Helper()
	if l := Union(a, b); !slices.Equal(l, want) {
		t.Fatalf("Union(%d, %d): %d; want %d", a, b, l, want)
	}
}

// tryTotal holds what Total answers.
func tryTotal(t *testing.T, l []Span, want uint64) {
	t.Helper()
	if n := Total(l); n != want {
		t.Fatalf("Total(%d): %d; want %d", l, n, want)
	}
}

func TestCheckAndSize(t *testing.T) {
	for z := range 4 {
		for _, r := range rects(z) {
			n := 0
			for x := range 1 << z {
				for y := range 1 << z {
					if lies(r, tileid.Tile{Z: z, X: x, Y: y}) {
						n++
					}
				}
			}
			if bad := Check(r); bad != api.OK {
				t.Fatalf("Check(%d): %d", r, int(bad))
			}
			if got := Size(r); got != n {
				t.Fatalf("Size(%d): %d; want %d", r, got, n)
			}
		}
	}
}

func TestCheckAndSizeOfEachZoom(t *testing.T) {
	for z := range 27 {
		far := 1<<z - 1
		for r, want := range map[Rect]int{
			whole(z):                  1 << (2 * z),
			{Z: z}:                    1,
			{z, far, far, far, far}:   1,
			{z, far, 0, far, far}:     1 << z,
			{z, 0, far, far, far}:     1 << z,
			{z, far, 0, far, 0}:       1,
			{z, 0, far, 0, far}:       1,
			{z, 0, far / 2, far, far}: (far - far/2 + 1) << z,
		} {
			if bad := Check(r); bad != api.OK {
				t.Errorf("Check(%d): %d", r, int(bad))
			}
			if n := Size(r); n != want {
				t.Errorf("Size(%d): %d; want %d", r, n, want)
			}
		}
	}
}

// tryRefused holds what all calls answer of a rectangle that may not be.
func tryRefused(t *testing.T, r Rect, wrong api.Errno) {
	t.Helper()
	if bad := Check(r); bad != wrong {
		t.Errorf("Check(%d): %d; want %d", r, int(bad), int(wrong))
	}
	if n := Size(r); n != 0 {
		t.Errorf("Size(%d): %d; want 0", r, n)
	}
	for _, s := range []tileid.Tile{{}, {Z: r.Z}, {Z: r.Z, X: r.X0, Y: r.Y0}, {Z: r.Z, X: r.X1, Y: r.Y1}, {Z: r.Z, X: r.X0, Y: r.Y1}} {
		if Has(r, s) {
			t.Errorf("Has(%d, %d)", r, s)
		}
	}
	for _, most := range []int{1, 2, api.MaxRects} {
		trySpans(t, r, most, nil, wrong)
	}
	for _, most := range []int{0, -1, api.MaxRects + 1, math.MinInt, math.MaxInt} {
		trySpans(t, r, most, nil, api.ErrArg)
	}
}

func TestNoZoom(t *testing.T) {
	for _, z := range noZooms {
		ends := []int{0, 1, -1, 1 << 26, math.MinInt, math.MaxInt}
		for _, a := range ends {
			for _, b := range ends {
				tryRefused(t, Rect{z, a, 0, b, 0}, api.ErrArg)
				tryRefused(t, Rect{z, 0, a, 0, b}, api.ErrArg)
				tryRefused(t, Rect{z, a, a, b, b}, api.ErrArg)
			}
		}
	}
}

func TestWrongRects(t *testing.T) {
	for z := range 27 {
		for _, r := range wrongRects(z) {
			tryRefused(t, r, api.ErrRange)
		}
	}
}

func TestAllRectsThatMayNotBe(t *testing.T) {
	for z := range 3 {
		far := 1<<z + 1
		for x0 := -1; x0 <= far; x0++ {
			for x1 := -1; x1 <= far; x1++ {
				for y0 := -1; y0 <= far; y0++ {
					for y1 := -1; y1 <= far; y1++ {
						r := Rect{z, x0, y0, x1, y1}
						if !slices.Contains(rects(z), r) {
							tryRefused(t, r, api.ErrRange)
						}
					}
				}
			}
		}
	}
}

func TestHas(t *testing.T) {
	for z := range 4 {
		for _, r := range rects(z) {
			for tz := range 5 {
				for x := -1; x <= 1<<tz; x++ {
					for y := -1; y <= 1<<tz; y++ {
						s := tileid.Tile{Z: tz, X: x, Y: y}
						if got := Has(r, s); got != lies(r, s) {
							t.Fatalf("Has(%d, %d): %t", r, s, got)
						}
					}
				}
			}
		}
	}
}

func TestHasOfTheLastZoom(t *testing.T) {
	r := Rect{26, 5, 1 << 25, 1<<26 - 1, 1<<26 - 2}
	for _, s := range []tileid.Tile{{Z: 26, X: 5, Y: 1 << 25}, {Z: 26, X: 1<<26 - 1, Y: 1<<26 - 2}, {Z: 26, X: 1 << 20, Y: 1<<25 + 1}} {
		if !Has(r, s) {
			t.Errorf("Has(%d, %d)", r, s)
		}
	}
	for _, s := range []tileid.Tile{
		{Z: 26, X: 4, Y: 1 << 25}, {Z: 26, X: 5, Y: 1<<25 - 1}, {Z: 26, X: 1 << 26, Y: 1 << 25}, {Z: 26, X: 5, Y: 1<<26 - 1},
		{Z: 25, X: 5, Y: 1 << 25}, {Z: 27, X: 5, Y: 1 << 25}, {Z: -1}, {},
		{Z: 26, X: math.MaxInt, Y: 1 << 25}, {Z: 26, X: math.MinInt, Y: 1 << 25}, {Z: 26, X: 5, Y: math.MaxInt}, {Z: 26, X: 5, Y: math.MinInt},
	} {
		if Has(r, s) {
			t.Errorf("Has(%d, %d)", r, s)
		}
	}
}

func TestHasNoTile(t *testing.T) {
	for z := range 27 {
		for _, out := range []int{-1, 1 << z, math.MinInt, math.MaxInt} {
			for _, s := range []tileid.Tile{{Z: z, X: out}, {Z: z, Y: out}, {Z: z, X: out, Y: out}, {Z: -1}, {Z: 27}} {
				if Has(whole(z), s) {
					t.Errorf("Has(%d, %d)", whole(z), s)
				}
			}
		}
	}
}

func TestSpansOfTheFirstZooms(t *testing.T) {
	tryMost(t, Rect{}, []Span{{0, 0}})
	tryMost(t, whole(1), []Span{{1, 4}})
	tryMost(t, Rect{Z: 2, X1: 3}, []Span{{5, 6}, {19, 20}})
	tryMost(t, Rect{2, 1, 1, 2, 2}, []Span{{7, 7}, {12, 13}, {18, 18}})
}

func TestSpansOfAllRects(t *testing.T) {
	for z := range 5 {
		from, _ := tileid.Base(z)
		behind, _ := tileid.Base(z + 1)
		for _, r := range rects(z) {
			tryMost(t, r, byTiles(r))
			l, _ := Spans(r, api.MaxRects)
			tryTotal(t, l, uint64(Size(r)))
			if In(l, from-1) || In(l, behind) {
				t.Fatalf("Spans(%d) has identifiers of other zooms", r)
			}
			for id := from; id < behind; id++ {
				s, _ := tileid.Of(id)
				if In(l, id) != Has(r, s) {
					t.Fatalf("Spans(%d): %d, which is of %d", r, id, s)
				}
			}
		}
	}
}

func TestSpansOfGreaterZooms(t *testing.T) {
	for z := 5; z <= 9; z++ {
		far := 1<<z - 1
		for _, r := range []Rect{
			{z, 1, 0, far, far}, {z, 0, 1, far, far}, {z, 0, 0, far - 1, far}, {z, 0, 0, far, far - 1},
			{z, 1, 1, far - 1, far - 1}, {z, 0, far / 2, far, far/2 + 1}, {z, far / 2, 0, far/2 + 1, far},
			{z, far / 3, far / 5, far / 2, far - far/7}, {z, 0, far, far, far}, {z, far, 0, far, far},
			{z, far / 3, far / 3, far / 3, far}, {z, 3, 5, 20, 24},
		} {
			tryMost(t, r, byTiles(r))
		}
	}
}

func TestSpansOfWholeZooms(t *testing.T) {
	for z := range 27 {
		from, _ := tileid.Base(z)
		behind, _ := tileid.Base(z + 1)
		tryMost(t, whole(z), []Span{{from, behind - 1}})
	}
}

func TestSpansOfOneTile(t *testing.T) {
	for z := range 27 {
		side := 1 << z
		for _, x := range []int{0, side / 3, side / 2, side - 1} {
			for _, y := range []int{0, side / 5, side / 2, side - 1} {
				id, _ := tileid.ID(tileid.Tile{Z: z, X: x, Y: y})
				tryMost(t, Rect{z, x, y, x, y}, []Span{{id, id}})
			}
		}
	}
}

func TestSpansOfTheTilesInOne(t *testing.T) {
	for z := range 27 {
		s := tileid.Tile{Z: z, X: 1<<z - 1, Y: (1<<z - 1) / 3}
		for n := z; n <= 26; n++ {
			d := n - z
			from, to, _ := tileid.Range(s, n)
			tryMost(t, Rect{n, s.X << d, s.Y << d, (s.X+1)<<d - 1, (s.Y+1)<<d - 1}, []Span{{from, to}})
		}
	}
}

func TestSpansOfSmallRectsInGreatZooms(t *testing.T) {
	for _, z := range []int{10, 17, 25, 26} {
		side := 1 << z
		for _, x := range []int{0, side/2 - 9, side / 3, side - 21} {
			for _, y := range []int{0, side/2 - 6, side / 5, side - 14} {
				for _, r := range []Rect{{z, x, y, x + 20, y + 13}, {z, x + 20, y + 1, x + 20, y + 13}, {z, x, y + 13, x + 19, y + 13}} {
					tryMost(t, r, byTiles(r))
				}
			}
		}
	}
}

func TestTooManySpans(t *testing.T) {
	far := 1<<26 - 1
	for _, r := range []Rect{
		{26, 0, 5, far, 5}, {26, 5, 0, 5, far}, {26, 0, 0, far, 0}, {26, far, 0, far, far}, {26, 0, far, far, far},
		{26, 1, 0, far, far}, {26, 0, 0, far - 1, far}, {26, 1, 1, far - 1, far - 1}, {26, 0, 1, far, far - 1},
		{26, far / 3, far / 3, far / 3 * 2, far / 3 * 2},
	} {
		for _, most := range []int{1, 2, 4095, 4096} {
			trySpans(t, r, most, nil, api.ErrMany)
		}
	}
}

// grow tells the least rectangle of column x, from the first row on, that has
// as many Spans, and their list.
func grow(z, x, spans int) (Rect, []Span) {
	var ids []uint64
	has := map[uint64]bool{}
	n := 0
	for y := range 1 << z {
		id, _ := tileid.ID(tileid.Tile{Z: z, X: x, Y: y})
		n++
		for _, beside := range []uint64{id - 1, id + 1} {
			if has[beside] {
				n--
			}
		}
		has[id] = true
		ids = append(ids, id)
		if n == spans {
			slices.Sort(ids)
			return Rect{z, x, 0, x, y}, runs(ids)
		}
	}
	return Rect{}, nil
}

func TestSpansAtMost(t *testing.T) {
	for z := 14; z <= 26; z += 4 {
		for _, n := range []int{1, 2, 17, 4095, 4096} {
			r, want := grow(z, 1<<z/3, n)
			if len(want) != n {
				t.Fatalf("zoom %d: no column with %d Spans", z, n)
			}
			tryMost(t, r, want)
		}
		r, want := grow(z, 1<<z/3, 4097)
		if len(want) != 4097 {
			t.Fatalf("zoom %d: no column with 4097 Spans", z)
		}
		for _, most := range []int{1, 4095, 4096} {
			trySpans(t, r, most, nil, api.ErrMany)
		}
		trySpans(t, r, 4097, nil, api.ErrArg)
	}
}

func TestSpansOfWrongMost(t *testing.T) {
	for _, most := range []int{0, -1, -4096, 4097, 1 << 20, math.MinInt, math.MaxInt} {
		for _, r := range []Rect{{}, whole(26), {Z: 2, X1: 3}, {Z: 99}, {Z: -1}, {Z: 1, X1: 2}, {Z: 26, X1: 1<<26 - 1}} {
			trySpans(t, r, most, nil, api.ErrArg)
		}
	}
}

func TestSpansTellsNewList(t *testing.T) {
	r := Rect{2, 1, 1, 2, 2}
	one, _ := Spans(r, 9)
	other, _ := Spans(r, 9)
	one = one[:cap(one)]
	for i := range one {
		one[i] = Span{9, 9}
	}
	if !slices.Equal(other, []Span{{7, 7}, {12, 13}, {18, 18}}) {
		t.Error(other)
	}
	tryMost(t, r, other)
}

// spansOf tells all Spans whose ends are from low to low + n - 1, and of them
// those whose From is above their To.
func spansOf(low uint64, n int) []Span {
	var l []Span
	for a := range n {
		for b := range n {
			l = append(l, Span{low + uint64(a), low + uint64(b)})
		}
	}
	return l
}

// listsOf tells all lists of up to two of some Spans.
func listsOf(spans []Span) [][]Span {
	l := [][]Span{nil}
	for _, s := range spans {
		l = append(l, []Span{s})
		for _, t := range spans {
			l = append(l, []Span{s, t})
		}
	}
	return l
}

// had tells how many times the Spans of a list have an identifier, by the
// words of the chapter.
func had(l []Span, id uint64) int {
	n := 0
	for _, s := range l {
		if id >= s.From && id <= s.To {
			n++
		}
	}
	return n
}

// byIdentifiers tells the plain list of the identifiers from low to low + n - 1
// that a or b has.
func byIdentifiers(a, b []Span, low uint64, n int) []Span {
	var ids []uint64
	for i := range n {
		if id := low + uint64(i); had(a, id) > 0 || had(b, id) > 0 {
			ids = append(ids, id)
		}
	}
	return runs(ids)
}

func TestUnionOfAllShortLists(t *testing.T) {
	for _, low := range []uint64{0, 1, 1 << 63, last - 3} {
		lists := listsOf(spansOf(low, 4))
		for _, a := range lists {
			for _, b := range lists {
				tryUnion(t, a, b, byIdentifiers(a, b, low, 4))
			}
		}
	}
}

// someSpans tells n Spans of identifiers from low to low + 63, some of which
// have none; which ones hangs on the seed alone.
func someSpans(seed uint64, n int, low uint64) []Span {
	var l []Span
	for range n {
		seed = seed*6364136223846793005 + 1442695040888963407
		from := seed >> 58
		l = append(l, Span{low + from, low + min(from+seed>>40%7, 64) - 1})
	}
	return l
}

func TestUnionOfLongerLists(t *testing.T) {
	for _, low := range []uint64{1, 1 << 40, last - 63} {
		for seed := range uint64(2000) {
			a := someSpans(seed, int(seed%11), low)
			b := someSpans(seed+1<<32, int(seed/11%13), low)
			want := byIdentifiers(a, b, low-1, 65)
			if !isPlain(want) {
				t.Fatalf("%d is not plain", want)
			}
			tryUnion(t, a, b, want)
			for i := range 65 {
				id := low - 1 + uint64(i)
				if In(a, id) != (had(a, id) > 0) || In(want, id) != (In(a, id) || In(b, id)) {
					t.Fatalf("In(%d, %d), or In(%d, %d)", a, id, b, id)
				}
			}
		}
	}
}

func TestUnion(t *testing.T) {
	tryUnion(t, nil, nil, nil)
	tryUnion(t, []Span{}, []Span{}, nil)
	tryUnion(t, []Span{{2, 1}, {last, 0}}, []Span{{1, 0}}, nil)
	tryUnion(t, []Span{{3, 5}}, nil, []Span{{3, 5}})
	tryUnion(t, nil, []Span{{3, 5}}, []Span{{3, 5}})
	tryUnion(t, []Span{{3, 5}}, []Span{{6, 9}}, []Span{{3, 9}})
	tryUnion(t, []Span{{3, 5}}, []Span{{7, 9}}, []Span{{3, 5}, {7, 9}})
	tryUnion(t, []Span{{3, 8}}, []Span{{5, 9}}, []Span{{3, 9}})
	tryUnion(t, []Span{{3, 9}}, []Span{{5, 6}, {10, 10}}, []Span{{3, 10}})
	tryUnion(t, []Span{{3, 9}, {5, 6}, {8, 12}}, []Span{{4, 4}, {14, 13}}, []Span{{3, 12}})
	tryUnion(t, []Span{{8, 9}, {1, 2}}, []Span{{4, 5}}, []Span{{1, 2}, {4, 5}, {8, 9}})
	tryUnion(t, []Span{{0, last}}, []Span{{0, 0}, {last, last}}, []Span{{0, last}})
	tryUnion(t, []Span{{last, last}}, []Span{{0, 0}}, []Span{{0, 0}, {last, last}})
	tryUnion(t, []Span{{1, last}}, []Span{{0, 0}}, []Span{{0, last}})
	tryUnion(t, []Span{{2, last}}, []Span{{0, 0}}, []Span{{0, 0}, {2, last}})
	tryUnion(t, []Span{{last, last}}, []Span{{0, last - 1}}, []Span{{0, last}})
	tryUnion(t, []Span{{last, last}}, []Span{{0, last - 2}}, []Span{{0, last - 2}, {last, last}})
}

func TestUnionOfRects(t *testing.T) {
	l, _ := Spans(whole(3), 9)
	for x := range 8 {
		for y := range 8 {
			r, _ := Spans(Rect{3, x, 0, x, y}, api.MaxRects)
			s, _ := Spans(Rect{3, 0, y, x, y}, api.MaxRects)
			tryUnion(t, r, l, l)
			u := Union(r, s)
			tryTotal(t, u, uint64(x+y+1))
			tryUnion(t, u, s, u)
		}
	}
}

func TestUnionLeavesItsArguments(t *testing.T) {
	a := []Span{{8, 9}, {5, 4}, {1, 2}, {3, 7}, {70, 70}, {60, 60}}
	b := []Span{{90, 99}, {4, 6}, {80, 88}, {2, 1}}
	wholeA, wholeB := slices.Clone(a), slices.Clone(b)
	l := Union(a[:4], b[:2])
	if !slices.Equal(l, []Span{{1, 9}, {90, 99}}) {
		t.Error(l)
	}
	plain := []Span{{1, 2}, {4, 5}, {7, 7}}
	for _, u := range [][]Span{l, Union(plain, nil), Union(nil, plain), Union(plain[:1], plain[1:2])} {
		u = u[:cap(u)]
		for i := range u {
			u[i] = Span{1000, 1000}
		}
	}
	if !slices.Equal(a, wholeA) || !slices.Equal(b, wholeB) {
		t.Error(a, b)
	}
	if !slices.Equal(plain, []Span{{1, 2}, {4, 5}, {7, 7}}) {
		t.Error(plain)
	}
}

func TestIn(t *testing.T) {
	l := []Span{{20, 22}, {9, 3}, {5, 5}, {0, 0}, {21, 30}, {last, last}}
	for _, id := range []uint64{0, 5, 20, 21, 22, 23, 30, last} {
		if !In(l, id) {
			t.Errorf("In: not %d", id)
		}
	}
	for _, id := range []uint64{1, 2, 3, 4, 6, 9, 19, 31, 1 << 63, last - 1} {
		if In(l, id) {
			t.Errorf("In: %d", id)
		}
	}
	for _, id := range []uint64{0, 1, last} {
		if In(nil, id) || In([]Span{}, id) || In([]Span{{1, 0}, {last, last - 1}, {last, 0}}, id) {
			t.Errorf("In a list of none: %d", id)
		}
		if !In([]Span{{0, last}}, id) {
			t.Errorf("In the list of all: not %d", id)
		}
	}
	if In(l[:2:2], 5) || In(l[:1], 5) {
		t.Error("In tells what lies behind the list")
	}
}

func TestTotal(t *testing.T) {
	tryTotal(t, nil, 0)
	tryTotal(t, []Span{}, 0)
	tryTotal(t, []Span{{0, 0}}, 1)
	tryTotal(t, []Span{{last, last}}, 1)
	tryTotal(t, []Span{{1, 0}, {9, 3}, {last, 0}}, 0)
	tryTotal(t, []Span{{3, 7}, {5, 9}, {5, 5}, {2, 1}}, 11)
	tryTotal(t, []Span{{1, last}}, last)
	tryTotal(t, []Span{{0, last}}, 0)
	tryTotal(t, []Span{{0, last}, {5, 5}, {0, last}}, 1)
	tryTotal(t, []Span{{1, last}, {4, 5}}, 1)
	tryTotal(t, []Span{{0, last - 1}, {0, last - 1}}, last-1)
	tryTotal(t, []Span{{1 << 63, last}, {0, 1<<63 - 1}, {1 << 63, last}}, 1<<63)
	for _, low := range []uint64{0, 1 << 40, last - 3} {
		for _, l := range listsOf(spansOf(low, 4)) {
			n := 0
			for i := range 4 {
				n += had(l, low+uint64(i))
			}
			tryTotal(t, l, uint64(n))
		}
	}
}
