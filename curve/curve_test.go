package curve

import (
	"math"
	"testing"

	"gazetteer/api"
)

// noZooms are beside the zooms.
var noZooms = []int{-1, -2, -26, 27, 28, 32, 52, 63, 64, 1 << 20, math.MinInt, math.MaxInt}

// way are the tiles of zoom 2, one behind the other.
var way = [][2]int{
	{0, 0}, {1, 0}, {1, 1}, {0, 1},
	{0, 2}, {0, 3}, {1, 3}, {1, 2},
	{2, 2}, {2, 3}, {3, 3}, {3, 2},
	{3, 1}, {2, 1}, {2, 0}, {3, 0},
}

// worth tells a tile's place by the words of the chapter.
func worth(z, x, y int) uint64 {
	if z == 0 {
		return 0
	}
	h := 1 << (z - 1)
	area := uint64(h) * uint64(h)
	switch {
	case x < h && y < h:
		return worth(z-1, y, x)
	case x < h:
		return area + worth(z-1, x, y-h)
	case y >= h:
		return 2*area + worth(z-1, x-h, y-h)
	}
	return 3*area + worth(z-1, h-1-y, h-1-(x-h))
}

// tryTile holds what Place and Point answer against a tile and its place.
func tryTile(t *testing.T, z, x, y int, want uint64) {
	t.Helper()
	if d, bad := Place(z, x, y); d != want || bad != api.OK {
		t.Fatalf("Place(%d, %d, %d): %d, %d; want %d", z, x, y, d, int(bad), want)
	}
	if px, py, bad := Point(z, want); px != x || py != y || bad != api.OK {
		t.Fatalf("Point(%d, %d): %d, %d, %d; want %d, %d", z, want, px, py, int(bad), x, y)
	}
}

// tryPlace holds what Place and Next answer, which must be the same error.
func tryPlace(t *testing.T, z, x, y int, want api.Errno) {
	t.Helper()
	if d, bad := Place(z, x, y); d != 0 || bad != want {
		t.Errorf("Place(%d, %d, %d): %d, %d; want 0, %d", z, x, y, d, int(bad), int(want))
	}
	tryNext(t, z, x, y, want)
}

// tryPoint holds what Point answers against an error.
func tryPoint(t *testing.T, z int, d uint64, want api.Errno) {
	t.Helper()
	if x, y, bad := Point(z, d); x != 0 || y != 0 || bad != want {
		t.Errorf("Point(%d, %d): %d, %d, %d; want 0, 0, %d", z, d, x, y, int(bad), int(want))
	}
}

// tryNext holds what Next answers against an error.
func tryNext(t *testing.T, z, x, y int, want api.Errno) {
	t.Helper()
	if nx, ny, bad := Next(z, x, y); nx != 0 || ny != 0 || bad != want {
		t.Errorf("Next(%d, %d, %d): %d, %d, %d; want 0, 0, %d", z, x, y, nx, ny, int(bad), int(want))
	}
}

// areNeighbours tells whether two tiles differ by one in one of x and y, and
// not in the other one.
func areNeighbours(x, y, u, v int) bool {
	return x == u && (y-v == 1 || v-y == 1) || y == v && (x-u == 1 || u-x == 1)
}

// some tells numbers below side: those at the ends, those about its halves,
// quarters and so on, and others.
func some(side int) []int {
	l := []int{0, side - 1, side / 3, side * 2 / 3, side / 7, 0x2d0f1a7 % side}
	for h := side / 2; h > 0; h /= 2 {
		l = append(l, h, h-1, side-h)
	}
	return l
}

func TestSide(t *testing.T) {
	want := 1
	for z := range 27 {
		if n := Side(z); n != want {
			t.Errorf("Side(%d): %d; want %d", z, n, want)
		}
		want *= 2
	}
	for _, z := range noZooms {
		if n := Side(z); n != 0 {
			t.Errorf("Side(%d): %d; want 0", z, n)
		}
	}
}

func TestFirstZooms(t *testing.T) {
	tryTile(t, 0, 0, 0, 0)
	for d, p := range [][2]int{{0, 0}, {0, 1}, {1, 1}, {1, 0}} {
		tryTile(t, 1, p[0], p[1], uint64(d))
	}
	for d, p := range way {
		tryTile(t, 2, p[0], p[1], uint64(d))
	}
}

func TestPlaceAndPointOfWholeSquares(t *testing.T) {
	for z := range 9 {
		for x := range 1 << z {
			for y := range 1 << z {
				tryTile(t, z, x, y, worth(z, x, y))
			}
		}
	}
}

func TestPlaceAndPointOfSomeTiles(t *testing.T) {
	for z := range 27 {
		for _, x := range some(1 << z) {
			for _, y := range some(1 << z) {
				tryTile(t, z, x, y, worth(z, x, y))
			}
		}
	}
}

func TestCorners(t *testing.T) {
	for z := range 27 {
		far := 1<<z - 1
		last := uint64(1)<<(2*z) - 1
		tryTile(t, z, 0, 0, 0)
		tryTile(t, z, 0, far, last/3)
		tryTile(t, z, far, far, last/3*2)
		tryTile(t, z, far, 0, last)
	}
	tryTile(t, 26, 1<<26-1, 0, 4503599627370495)
	tryTile(t, 26, 1<<25, 1<<25, 2251799813685248)
}

func TestPlaceOfNoZoom(t *testing.T) {
	for _, z := range noZooms {
		for _, x := range []int{0, 1, -1, 1 << 26, math.MinInt, math.MaxInt} {
			for _, y := range []int{0, 1, -1, 1 << 26, math.MinInt, math.MaxInt} {
				tryPlace(t, z, x, y, api.ErrArg)
			}
		}
	}
}

func TestPlaceOfNoTile(t *testing.T) {
	for z := range 27 {
		side := 1 << z
		for _, out := range []int{-1, -2, -side, side, side + 1, 2 * side, math.MinInt, math.MaxInt} {
			for _, in := range []int{0, side / 2, side - 1} {
				tryPlace(t, z, out, in, api.ErrRange)
				tryPlace(t, z, in, out, api.ErrRange)
			}
			tryPlace(t, z, out, out, api.ErrRange)
		}
	}
}

func TestPointOfNoZoom(t *testing.T) {
	for _, z := range noZooms {
		for _, d := range []uint64{0, 1, 1 << 52, 1 << 54, math.MaxInt64, math.MaxUint64} {
			tryPoint(t, z, d, api.ErrArg)
		}
	}
}

func TestPointOfNoPlace(t *testing.T) {
	for z := range 27 {
		tiles := uint64(1) << (2 * z)
		for _, d := range []uint64{tiles, tiles + 1, 2 * tiles, 4 * tiles, 1 << 52, 1 << 63, math.MaxInt64, math.MaxUint64} {
			tryPoint(t, z, d, api.ErrRange)
		}
	}
}

func TestNextOfZoomTwo(t *testing.T) {
	for d, p := range way[:15] {
		x, y, bad := Next(2, p[0], p[1])
		if x != way[d+1][0] || y != way[d+1][1] || bad != api.OK {
			t.Errorf("behind %d: %d, %d, %d; want %d", p, x, y, int(bad), way[d+1])
		}
	}
	tryNext(t, 2, 3, 0, api.ErrNone)
}

func TestNextGoesThroughTheSquare(t *testing.T) {
	for z := range 8 {
		x, y := 0, 0
		for d := range uint64(1)<<(2*z) - 1 {
			var bad api.Errno
			if x, y, bad = Next(z, x, y); bad != api.OK || worth(z, x, y) != d+1 {
				t.Fatalf("zoom %d, behind place %d: %d, %d, %d", z, d, x, y, int(bad))
			}
		}
		tryNext(t, z, x, y, api.ErrNone)
	}
}

func TestNextOfSomeTiles(t *testing.T) {
	for z := range 27 {
		last := 1<<z - 1
		tryNext(t, z, last, 0, api.ErrNone)
		for _, x := range some(1 << z) {
			for _, y := range some(1 << z) {
				if x == last && y == 0 {
					continue
				}
				u, v, bad := Next(z, x, y)
				if bad != api.OK || worth(z, u, v) != worth(z, x, y)+1 {
					t.Fatalf("Next(%d, %d, %d): %d, %d, %d", z, x, y, u, v, int(bad))
				}
			}
		}
	}
}

func TestEachPlaceOnce(t *testing.T) {
	for z := range 9 {
		seen := make([]bool, 1<<(2*z))
		for x := range 1 << z {
			for y := range 1 << z {
				d, bad := Place(z, x, y)
				if bad != api.OK || d >= uint64(len(seen)) || seen[d] {
					t.Fatalf("Place(%d, %d, %d): %d, %d", z, x, y, d, int(bad))
				}
				seen[d] = true
			}
		}
	}
}

func TestEachTileOnce(t *testing.T) {
	for z := range 9 {
		side := 1 << z
		seen := make([]bool, side*side)
		for d := range uint64(side * side) {
			x, y, bad := Point(z, d)
			if bad != api.OK || x < 0 || x >= side || y < 0 || y >= side || seen[x*side+y] {
				t.Fatalf("Point(%d, %d): %d, %d, %d", z, d, x, y, int(bad))
			}
			seen[x*side+y] = true
		}
	}
}

// tryStep tells whether the tiles of place d and of the one behind it are
// neighbours.
func tryStep(t *testing.T, z int, d uint64) {
	t.Helper()
	x, y, bad := Point(z, d)
	u, v, worse := Point(z, d+1)
	if bad != api.OK || worse != api.OK || !areNeighbours(x, y, u, v) {
		t.Fatalf("zoom %d, places %d and one more: %d, %d, %d and %d, %d, %d", z, d, x, y, int(bad), u, v, int(worse))
	}
}

func TestNeighbours(t *testing.T) {
	for z := range 9 {
		for d := range uint64(1)<<(2*z) - 1 {
			tryStep(t, z, d)
		}
	}
	for z := 9; z <= 26; z++ {
		tiles := uint64(1) << (2 * z)
		// From one quarter to the next one, of squares of all sizes.
		for area := tiles / 4; area > 0; area /= 4 {
			for _, d := range []uint64{area, 2 * area, 3 * area, tiles - area, tiles/2 - area} {
				tryStep(t, z, d-1)
			}
		}
		tryStep(t, z, tiles-2)
	}
}

func TestZoomAhead(t *testing.T) {
	for z := 1; z < 9; z++ {
		for x := range 1 << z {
			for y := range 1 << z {
				tryAhead(t, z, x, y)
			}
		}
	}
	for z := 9; z <= 26; z++ {
		for _, x := range some(1 << z) {
			for _, y := range some(1 << z) {
				tryAhead(t, z, x, y)
			}
		}
	}
}

// tryAhead holds a tile's place, by four, against that of the tile in which it
// lies.
func tryAhead(t *testing.T, z, x, y int) {
	t.Helper()
	d, bad := Place(z, x, y)
	over, worse := Place(z-1, x/2, y/2)
	if bad != api.OK || worse != api.OK || d/4 != over {
		t.Fatalf("Place(%d, %d, %d): %d, %d; that in which it lies: %d, %d", z, x, y, d, int(bad), over, int(worse))
	}
}
