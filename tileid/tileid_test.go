package tileid

import (
	"cmp"
	"math"
	"slices"
	"testing"

	"gazetteer/api"
	"gazetteer/curve"
)

// noZooms are beside the zooms.
var noZooms = []int{-1, -2, -26, 27, 28, 32, 52, 63, 64, 1 << 20, math.MinInt, math.MaxInt}

// row are the first tiles, by their identifiers.
var row = []Tile{
	{0, 0, 0},
	{1, 0, 0}, {1, 0, 1}, {1, 1, 1}, {1, 1, 0},
	{2, 0, 0}, {2, 1, 0}, {2, 1, 1}, {2, 0, 1},
	{2, 0, 2}, {2, 0, 3}, {2, 1, 3}, {2, 1, 2},
	{2, 2, 2}, {2, 2, 3}, {2, 3, 3}, {2, 3, 2},
	{2, 3, 1}, {2, 2, 1}, {2, 2, 0}, {2, 3, 0},
}

// whole tells the tiles of a zoom, one behind the other on the way.
func whole(z int) []Tile {
	var l []Tile
	for d := range uint64(1) << (2 * z) {
		x, y, _ := curve.Point(z, d)
		l = append(l, Tile{z, x, y})
	}
	return l
}

// upTo tells the tiles of the zooms from 0 to z, by their identifiers.
func upTo(z int) []Tile {
	var l []Tile
	for n := range z + 1 {
		l = append(l, whole(n)...)
	}
	return l
}

// some tells tiles of a zoom: at the corners, about the middle, and others.
func some(z int) []Tile {
	side := 1 << z
	places := []int{0, side - 1, side / 2, (side - 1) / 2, side / 3, 0x2d0f1a7 % side}
	var l []Tile
	for _, x := range places {
		for _, y := range places {
			l = append(l, Tile{z, x, y})
		}
	}
	return l
}

// total tells how many tiles the zooms below z have, one zoom added to the
// other.
func total(z int) uint64 {
	var n uint64
	for below := range z {
		n += uint64(curve.Side(below)) * uint64(curve.Side(below))
	}
	return n
}

// lies tells whether tile s lies in tile t, by the words of the chapter.
func lies(t, s Tile) bool {
	if t.Z > s.Z {
		return false
	}
	for range s.Z - t.Z {
		s.X /= 2
		s.Y /= 2
	}
	return t.X == s.X && t.Y == s.Y
}

// tryTile holds what ID, Of and Zoom answer against a tile and its identifier.
func tryTile(t *testing.T, s Tile, want uint64) {
	t.Helper()
	if id, bad := ID(s); id != want || bad != api.OK {
		t.Fatalf("ID(%d): %d, %d; want %d", s, id, int(bad), want)
	}
	if got, bad := Of(want); got != s || bad != api.OK {
		t.Fatalf("Of(%d): %d, %d; want %d", want, got, int(bad), s)
	}
	if z := Zoom(want); z != s.Z {
		t.Fatalf("Zoom(%d): %d; want %d", want, z, s.Z)
	}
}

// tryUp holds what Up answers.
func tryUp(t *testing.T, s, want Tile, wrong api.Errno) {
	t.Helper()
	if got, bad := Up(s); got != want || bad != wrong {
		t.Fatalf("Up(%d): %d, %d; want %d, %d", s, got, int(bad), want, int(wrong))
	}
}

// tryDown holds what Down answers.
func tryDown(t *testing.T, s Tile, want []Tile, wrong api.Errno) {
	t.Helper()
	if got, bad := Down(s); !slices.Equal(got, want) || bad != wrong {
		t.Fatalf("Down(%d): %d, %d; want %d, %d", s, got, int(bad), want, int(wrong))
	}
}

// tryRange holds what Range answers.
func tryRange(t *testing.T, s Tile, z int, least, greatest uint64, wrong api.Errno) {
	t.Helper()
	if from, to, bad := Range(s, z); from != least || to != greatest || bad != wrong {
		t.Fatalf("Range(%d, %d): %d, %d, %d; want %d, %d, %d", s, z, from, to, int(bad), least, greatest, int(wrong))
	}
}

// tryNoTile holds what all calls answer of what is no tile.
func tryNoTile(t *testing.T, s Tile, wrong api.Errno) {
	t.Helper()
	if id, bad := ID(s); id != 0 || bad != wrong {
		t.Fatalf("ID(%d): %d, %d; want 0, %d", s, id, int(bad), int(wrong))
	}
	tryUp(t, s, Tile{}, wrong)
	tryDown(t, s, nil, wrong)
	for _, z := range []int{s.Z, s.Z - 1, s.Z + 1, 0, 26, -1, 27, math.MinInt, math.MaxInt} {
		tryRange(t, s, z, 0, 0, wrong)
	}
	if Over(s, s) {
		t.Fatalf("%d is no tile, and over itself", s)
	}
	for _, other := range []Tile{{}, {1, 0, 0}, {1, 1, 1}, {26, 0, 0}, {26, 1<<26 - 1, 1<<26 - 1}} {
		if Over(s, other) || Over(other, s) {
			t.Fatalf("%d is no tile, and over %d, or below it", s, other)
		}
	}
}

func TestBase(t *testing.T) {
	for z := range 28 {
		if n, bad := Base(z); n != total(z) || bad != api.OK {
			t.Errorf("Base(%d): %d, %d; want %d", z, n, int(bad), total(z))
		}
	}
	for z, want := range map[int]uint64{0: 0, 1: 1, 2: 5, 3: 21, 4: 85, 12: 5592405, 26: 1501199875790165, 27: 6004799503160661} {
		if n, bad := Base(z); n != want || bad != api.OK {
			t.Errorf("Base(%d): %d, %d; want %d", z, n, int(bad), want)
		}
	}
	if n, _ := Base(27); n != Count {
		t.Errorf("Base(27): %d; Count: %d", n, Count)
	}
}

func TestBaseOfWrongZoom(t *testing.T) {
	for _, z := range noZooms {
		if z == 27 {
			continue
		}
		if n, bad := Base(z); n != 0 || bad != api.ErrArg {
			t.Errorf("Base(%d): %d, %d; want 0, ErrArg", z, n, int(bad))
		}
	}
}

func TestFirstTiles(t *testing.T) {
	for id, s := range row {
		tryTile(t, s, uint64(id))
	}
	tryTile(t, Tile{12, 3423, 1763}, 19078479)
}

func TestIdentifiersOneBehindTheOther(t *testing.T) {
	for id, s := range upTo(8) {
		tryTile(t, s, uint64(id))
	}
}

func TestIdentifiersOfSomeTiles(t *testing.T) {
	for z := range 27 {
		for _, s := range some(z) {
			place, _ := curve.Place(z, s.X, s.Y)
			tryTile(t, s, total(z)+place)
		}
	}
}

func TestFirstAndLastOfEachZoom(t *testing.T) {
	for z := range 27 {
		tryTile(t, Tile{z, 0, 0}, total(z))
		tryTile(t, Tile{z, 1<<z - 1, 0}, total(z+1)-1)
	}
	tryTile(t, Tile{26, 1<<26 - 1, 0}, Count-1)
}

func TestNoIdentifier(t *testing.T) {
	for _, id := range []uint64{Count, Count + 1, 2 * Count, 3 * Count, 1 << 53, 1 << 54, 1 << 62, 1 << 63, math.MaxInt64, math.MaxUint64 / 3, math.MaxUint64/3 + 1, math.MaxUint64 - 1, math.MaxUint64} {
		if s, bad := Of(id); s != (Tile{}) || bad != api.ErrRange {
			t.Errorf("Of(%d): %d, %d; want ErrRange", id, s, int(bad))
		}
		if z := Zoom(id); z != -1 {
			t.Errorf("Zoom(%d): %d; want -1", id, z)
		}
	}
}

func TestTileOfNoZoom(t *testing.T) {
	for _, z := range noZooms {
		for _, x := range []int{0, 1, -1, 1 << 26, math.MinInt, math.MaxInt} {
			for _, y := range []int{0, 1, -1, 1 << 26, math.MinInt, math.MaxInt} {
				tryNoTile(t, Tile{z, x, y}, api.ErrArg)
			}
		}
	}
}

func TestTileBesideItsSquare(t *testing.T) {
	for z := range 27 {
		side := 1 << z
		for _, out := range []int{-1, -2, -side, side, side + 1, 2 * side, 1 << 26, math.MinInt, math.MaxInt} {
			for _, in := range []int{0, side / 2, side - 1} {
				tryNoTile(t, Tile{z, out, in}, api.ErrRange)
				tryNoTile(t, Tile{z, in, out}, api.ErrRange)
			}
			tryNoTile(t, Tile{z, out, out}, api.ErrRange)
		}
	}
}

func TestUp(t *testing.T) {
	tryUp(t, Tile{1, 1, 0}, Tile{}, api.OK)
	tryUp(t, Tile{3, 5, 2}, Tile{2, 2, 1}, api.OK)
	tryUp(t, Tile{26, 1<<26 - 1, 1<<26 - 2}, Tile{25, 1<<25 - 1, 1<<25 - 1}, api.OK)
	for _, s := range upTo(7)[1:] {
		tryUp(t, s, Tile{s.Z - 1, s.X / 2, s.Y / 2}, api.OK)
	}
	for z := 8; z <= 26; z++ {
		for _, s := range some(z) {
			tryUp(t, s, Tile{z - 1, s.X / 2, s.Y / 2}, api.OK)
		}
	}
}

func TestUpOfTheFirstZoom(t *testing.T) {
	tryUp(t, Tile{}, Tile{}, api.ErrNone)
}

func TestDown(t *testing.T) {
	tryDown(t, Tile{}, row[1:5], api.OK)
	for n, s := range row[1:5] {
		tryDown(t, s, row[5+4*n:9+4*n], api.OK)
	}
	for z := range 6 {
		next := whole(z + 1)
		for _, s := range whole(z) {
			var want []Tile
			for _, in := range next {
				if lies(s, in) {
					want = append(want, in)
				}
			}
			tryDown(t, s, want, api.OK)
		}
	}
}

func TestDownOfSomeTiles(t *testing.T) {
	for z := 6; z < 26; z++ {
		for _, s := range some(z) {
			x, y := 2*s.X, 2*s.Y
			want := []Tile{{z + 1, x, y}, {z + 1, x, y + 1}, {z + 1, x + 1, y}, {z + 1, x + 1, y + 1}}
			slices.SortFunc(want, func(a, b Tile) int {
				one, _ := curve.Place(a.Z, a.X, a.Y)
				other, _ := curve.Place(b.Z, b.X, b.Y)
				return cmp.Compare(one, other)
			})
			tryDown(t, s, want, api.OK)
		}
	}
}

func TestDownOfTheLastZoom(t *testing.T) {
	for _, s := range some(26) {
		tryDown(t, s, nil, api.ErrNone)
	}
}

func TestDownTellsNewList(t *testing.T) {
	one, _ := Down(Tile{})
	other, _ := Down(Tile{})
	one = one[:cap(one)]
	for i := range one {
		one[i] = Tile{9, 9, 9}
	}
	if !slices.Equal(other, row[1:5]) {
		t.Error(other)
	}
	tryDown(t, Tile{}, row[1:5], api.OK)
}

func TestOver(t *testing.T) {
	all := upTo(4)
	for _, a := range all {
		for _, b := range all {
			if got := Over(a, b); got != lies(a, b) {
				t.Errorf("Over(%d, %d): %t", a, b, got)
			}
		}
	}
}

func TestOverOfSomeTiles(t *testing.T) {
	for z := range 27 {
		for _, s := range some(z) {
			if !Over(s, s) {
				t.Errorf("%d is not over itself", s)
			}
			for n := range 27 {
				for _, u := range some(n) {
					if got := Over(u, s); got != lies(u, s) {
						t.Errorf("Over(%d, %d): %t", u, s, got)
					}
				}
			}
			for n := range z {
				u := Tile{n, s.X / (1 << (z - n)), s.Y / (1 << (z - n))}
				if !Over(u, s) || Over(s, u) {
					t.Errorf("%d is not over %d, or below it", u, s)
				}
				for _, beside := range []Tile{{n, u.X ^ 1, u.Y}, {n, u.X, u.Y ^ 1}} {
					if Over(beside, s) {
						t.Errorf("%d is over %d", beside, s)
					}
				}
			}
		}
	}
}

func TestRange(t *testing.T) {
	tryRange(t, Tile{1, 1, 0}, 3, 69, 84, api.OK)
	for z := range 7 {
		behind := whole(z)
		for _, s := range upTo(min(z, 5)) {
			first, last, n := -1, -1, 0
			for d, in := range behind {
				if !lies(s, in) {
					continue
				}
				if first < 0 {
					first = d
				}
				last = d
				n++
			}
			if n != last-first+1 {
				t.Fatalf("zoom %d, in %d: %d tiles from place %d to %d", z, s, n, first, last)
			}
			tryRange(t, s, z, total(z)+uint64(first), total(z)+uint64(last), api.OK)
		}
	}
}

func TestRangeOfOwnZoom(t *testing.T) {
	for z := range 27 {
		for _, s := range some(z) {
			place, _ := curve.Place(z, s.X, s.Y)
			tryRange(t, s, z, total(z)+place, total(z)+place, api.OK)
		}
	}
}

func TestRangeOfTheFirstTile(t *testing.T) {
	for z := range 27 {
		tryRange(t, Tile{}, z, total(z), total(z+1)-1, api.OK)
	}
	tryRange(t, Tile{}, 26, 1501199875790165, 6004799503160660, api.OK)
}

// liesAt tells whether the tile of a zoom's place lies in tile s.
func liesAt(s Tile, z int, place uint64) bool {
	x, y, bad := curve.Point(z, place)
	return bad == api.OK && lies(s, Tile{z, x, y})
}

func TestRangeOfSomeTiles(t *testing.T) {
	for from := range 27 {
		for _, s := range some(from) {
			for z := from; z <= 26; z++ {
				least, greatest, bad := Range(s, z)
				if bad != api.OK || least < total(z) || greatest >= total(z+1) || greatest-least != 1<<(2*(z-from))-1 {
					t.Fatalf("Range(%d, %d): %d, %d, %d", s, z, least, greatest, int(bad))
				}
				first, last := least-total(z), greatest-total(z)
				if !liesAt(s, z, first) || !liesAt(s, z, last) || !liesAt(s, z, first+(last-first)/2) {
					t.Fatalf("Range(%d, %d): %d, %d, which are not in it", s, z, least, greatest)
				}
				if liesAt(s, z, first-1) || liesAt(s, z, last+1) {
					t.Fatalf("Range(%d, %d): %d, %d, and there are more", s, z, least, greatest)
				}
			}
		}
	}
}

func TestRangeOfWrongZoom(t *testing.T) {
	for from := range 27 {
		for _, s := range some(from) {
			for _, z := range noZooms {
				tryRange(t, s, z, 0, 0, api.ErrRange)
			}
			for z := range from {
				tryRange(t, s, z, 0, 0, api.ErrRange)
			}
		}
	}
}
