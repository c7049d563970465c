package chart

import (
	"maps"
	"slices"
	"strconv"
	"strings"
	"testing"
	"unsafe"

	"gazetteer/api"
	"gazetteer/tileid"
)

// count is how many tiles there are: no identifier is as great.
const count = 6004799503160661

// long is a text that is too long by one byte, most the longest one.
var (
	long = strings.Repeat("x", 65537)
	most = strings.Repeat("x", 65536)
)

// model is a chart by the words of the chapter: the bytes of each tile.
type model map[uint64]string

// put tells what Put answers.
func (m model) put(id uint64, s string) (model, api.Errno) {
	if id >= count {
		return m, api.ErrRange
	}
	if s == "" {
		return m, api.ErrArg
	}
	if len(s) > 65536 {
		return m, api.ErrLong
	}
	if _, is := m[id]; !is && len(m) == 2048 {
		return m, api.ErrFull
	}
	other := maps.Clone(m)
	if other == nil {
		other = model{}
	}
	other[id] = s
	return other, api.OK
}

// del tells what Del answers.
func (m model) del(id uint64) model {
	other := maps.Clone(m)
	delete(other, id)
	return other
}

// items tells what Items answers.
func (m model) items() []Item {
	var l []Item
	for _, id := range slices.Sorted(maps.Keys(m)) {
		l = append(l, Item{id, m[id]})
	}
	return l
}

// modelOf tells what Of answers.
func modelOf(l []Item) (model, api.Errno) {
	m := model{}
	for i, t := range l {
		for _, ahead := range l[:i] {
			if ahead.ID == t.ID {
				return nil, api.ErrTwice
			}
		}
		var bad api.Errno
		if m, bad = m.put(t.ID, t.Text); bad != api.OK {
			return nil, bad
		}
	}
	return m, api.OK
}

// zooms tells what Zooms answers, by the identifiers' tiles.
func (m model) zooms() (int, int, bool) {
	least, greatest := 0, 0
	for i, t := range m.items() {
		at, _ := tileid.Of(t.ID)
		if i == 0 {
			least, greatest = at.Z, at.Z
		}
		least, greatest = min(least, at.Z), max(greatest, at.Z)
	}
	return least, greatest, len(m) > 0
}

// each tells what a chart's Each hands out.
func each(c Chart) []Item {
	var l []Item
	for id, s := range c.Each() {
		l = append(l, Item{id, s})
	}
	return l
}

// holds holds all that a chart tells against the model, and asks for other
// tiles, too.
func holds(t *testing.T, c Chart, m model, others ...uint64) {
	t.Helper()
	want := m.items()
	n := 0
	for _, it := range want {
		n += len(it.Text)
		if s, is := c.Get(it.ID); s != it.Text || !is {
			t.Fatalf("Get(%d): %.20q %v, not %.20q", it.ID, s, is, it.Text)
		}
	}
	if c.Len() != len(m) || c.Bytes() != n {
		t.Fatalf("%d tiles of %d bytes, not %d of %d", c.Len(), c.Bytes(), len(m), n)
	}
	if got := c.Items(); !slices.Equal(got, want) {
		t.Fatalf("Items: %.99v, not %.99v", got, want)
	}
	if got := each(c); !slices.Equal(got, want) {
		t.Fatalf("Each: %.99v, not %.99v", got, want)
	}
	least, greatest, any := m.zooms()
	if a, b, is := c.Zooms(); a != least || b != greatest || is != any {
		t.Fatalf("Zooms: %d %d %v, not %d %d %v", a, b, is, least, greatest, any)
	}
	for _, id := range others {
		want, there := m[id]
		if s, is := c.Get(id); s != want || is != there {
			t.Fatalf("Get(%d): %.20q %v, not %.20q %v", id, s, is, want, there)
		}
	}
}

// pair is a chart and its model.
type pair struct {
	c Chart
	m model
}

// put holds Put of one tile against the model, and tells both behind it.
func (p pair) put(t *testing.T, id uint64, s string) pair {
	t.Helper()
	m, bad := p.m.put(id, s)
	c, got := p.c.Put(id, s)
	if got != bad {
		t.Fatalf("Put(%d, %.20q): error %d, not %d", id, s, got, bad)
	}
	return pair{c, m}
}

// same holds Same of two charts against their models.
func (p pair) same(t *testing.T, q pair) {
	t.Helper()
	if got := Same(p.c, q.c); got != maps.Equal(p.m, q.m) {
		t.Fatalf("Same of %.99v and %.99v: %v", p.m.items(), q.m.items(), got)
	}
}

// numbered are n items, of every third identifier from a first one on.
func numbered(from uint64, n int) []Item {
	var l []Item
	for i := range n {
		l = append(l, Item{from + 3*uint64(i), "tile " + strconv.Itoa(i)})
	}
	return l
}

// full is a chart of as many tiles as it may have.
func full(t *testing.T) pair {
	t.Helper()
	l := numbered(3, 2048)
	c, bad := Of(l)
	m, _ := modelOf(l)
	if bad != api.OK || c.Len() != 2048 {
		t.Fatalf("%d tiles, error %d", c.Len(), bad)
	}
	return pair{c, m}
}

// P12.1, P12.2, P12.3: the chapter's example.
func TestExample(t *testing.T) {
	c, bad := Chart{}.Put(5, "five")
	if bad != api.OK {
		t.Fatal(bad)
	}
	c, bad = c.Put(0, "nought")
	if bad != api.OK {
		t.Fatal(bad)
	}
	if l := c.Items(); !slices.Equal(l, []Item{{0, "nought"}, {5, "five"}}) {
		t.Error(l)
	}
	if a, b, is := c.Zooms(); a != 0 || b != 2 || !is {
		t.Error(a, b, is)
	}
}

// P12.1, P12.2, P12.3: all short ways of putting tiles, of the same ones with
// the same bytes or others, and of taking them away; what was told on the way
// stays as it was, whatever is made of it later, and by however many.
func TestWays(t *testing.T) {
	ids := []uint64{0, 1, 4, 5, count - 1, count}
	texts := []string{"", "a", "bc", long}
	all := []pair{{}}
	from := 0
	for range 3 {
		to := len(all)
		for _, p := range all[from:to] {
			for _, id := range ids {
				for _, s := range texts {
					all = append(all, p.put(t, id, s))
				}
				all = append(all, pair{p.c.Del(id), p.m.del(id)})
			}
		}
		from = to
	}
	for _, p := range all {
		holds(t, p.c, p.m, ids...)
	}
	two := all[:1+30+900]
	for _, p := range two {
		for _, q := range two {
			p.same(t, q)
		}
	}
}

// P12.1: charts that are made of one, at each place of it and one behind the
// other, have nothing in common, though the one of which they were made may have
// been put together with room to spare.
func TestForks(t *testing.T) {
	for n := range 40 {
		l := numbered(10, n)
		m, _ := modelOf(l)
		var made []pair
		c, bad := Of(l)
		if bad != api.OK {
			t.Fatal(bad)
		}
		made = append(made, pair{c, m}, pair{}.put(t, 10, "ten"))
		for _, it := range l {
			made[1] = made[1].put(t, it.ID, it.Text)
		}
		made[1] = pair{made[1].c.Del(9), made[1].m}
		for _, p := range made[:2] {
			for i := range n + 1 {
				id := 10 + 3*uint64(i)
				first, second, third := p.put(t, id-1, "ahead"), p.put(t, id+1, "behind"), p.put(t, id, "at")
				made = append(made, first, second, third, second.put(t, id+2, "further"), second.put(t, id+2, "other"))
				made = append(made, pair{p.c.Del(id), p.m.del(id)}, pair{third.c.Del(id), third.m.del(id)})
			}
		}
		for _, p := range made {
			holds(t, p.c, p.m, 9, 10, 11)
		}
	}
}

// P12.1: Put's errors, in their order, of charts that are empty, not full, full;
// with an error the chart is told as it was.
func TestPutErrors(t *testing.T) {
	whole := full(t)
	charts := []pair{{}, pair{}.put(t, 3, "three"), whole, {whole.c.Del(6), whole.m.del(6)}}
	for i, p := range charts {
		for _, id := range []uint64{0, 3, 4, 6, 6144, 6147, count - 1, count, count + 1, 1 << 63, 1<<64 - 1} {
			for _, s := range []string{"", "x", "\x00", most, long, long + long} {
				q := p.put(t, id, s)
				_, bad := p.m.put(id, s)
				if bad != api.OK && !Same(q.c, p.c) {
					t.Fatalf("%d: Put(%d, %.20q): error %d, and another chart", i, id, s, bad)
				}
				if i < 2 || s != "\x00" {
					holds(t, q.c, q.m, id, 3, 6)
				}
			}
		}
		holds(t, p.c, p.m, 0, 3, 6)
	}
}

// P12.1: the errors of a full chart, one by one: a new tile is refused, one that
// is there may be put, and a new one again when one was taken away.
func TestFull(t *testing.T) {
	p := full(t)
	for _, x := range []struct {
		id  uint64
		s   string
		bad api.Errno
	}{{count, "", api.ErrRange}, {count, "x", api.ErrRange}, {4, "", api.ErrArg}, {3, "", api.ErrArg}, {4, long, api.ErrLong}, {3, long, api.ErrLong}, {4, "x", api.ErrFull}, {0, "x", api.ErrFull}, {count - 1, most, api.ErrFull}, {3, "x", api.OK}, {6144, most, api.OK}} {
		if _, bad := p.c.Put(x.id, x.s); bad != x.bad {
			t.Errorf("Put(%d, %.20q): error %d, not %d", x.id, x.s, bad, x.bad)
		}
	}
	c := p.c.Del(6)
	c, bad := c.Put(count-1, "last")
	if bad != api.OK || c.Len() != 2048 {
		t.Fatalf("error %d, %d tiles", bad, c.Len())
	}
	if again, bad := c.Put(6, "six"); bad != api.ErrFull || !Same(again, c) {
		t.Errorf("error %d", bad)
	}
	// One by one, from the last one on.
	q := pair{}
	l := p.m.items()
	slices.Reverse(l)
	for _, it := range l {
		c, bad := q.c.Put(it.ID, it.Text)
		if bad != api.OK {
			t.Fatalf("Put(%d): error %d", it.ID, bad)
		}
		q.c = c
	}
	if !Same(q.c, p.c) {
		t.Error("put one by one it is another chart")
	}
}

// P12.1: Of all short lists of items, wrong ones, too, in any order.
func TestOf(t *testing.T) {
	var items []Item
	for _, id := range []uint64{0, 7, count - 1, count} {
		for _, s := range []string{"", "a", "b", long} {
			items = append(items, Item{id, s})
		}
	}
	lists := [][]Item{nil, {}}
	from := 1
	for range 3 {
		to := len(lists)
		for _, l := range lists[from:to] {
			for _, it := range items {
				lists = append(lists, append(l[:len(l):len(l)], it))
			}
		}
		from = to
	}
	for _, l := range lists {
		given := slices.Clone(l)
		m, bad := modelOf(l)
		c, got := Of(l)
		if got != bad {
			t.Fatalf("Of(%.99v): error %d, not %d", l, got, bad)
		}
		if !slices.Equal(l, given) {
			t.Fatalf("Of(%.99v) changed its items", given)
		}
		holds(t, c, m, 0, 7, count-1, count)
	}
}

// P12.1: of several items that are wrong the first one's error, and of one item
// ErrTwice ahead of Put's.
func TestOfErrors(t *testing.T) {
	ok := Item{9, "nine"}
	for _, x := range []struct {
		l   []Item
		bad api.Errno
	}{
		{[]Item{ok, {9, "nine"}}, api.ErrTwice},
		{[]Item{ok, {9, ""}}, api.ErrTwice},
		{[]Item{ok, {9, long}}, api.ErrTwice},
		{[]Item{ok, {8, "x"}, {10, "x"}, {9, "other"}, {count, ""}}, api.ErrTwice},
		{[]Item{ok, {count, ""}, {9, ""}}, api.ErrRange},
		{[]Item{{count, ""}, {count, ""}}, api.ErrRange},
		{[]Item{ok, {8, ""}, {count, ""}, {8, ""}}, api.ErrArg},
		{[]Item{ok, {8, long}, {8, ""}}, api.ErrLong},
		{[]Item{{1<<64 - 1, "x"}, ok, ok}, api.ErrRange},
	} {
		if c, bad := Of(x.l); bad != x.bad || c.Len() != 0 || !Same(c, Chart{}) {
			t.Errorf("Of(%.99v): error %d, %d tiles, not %d", x.l, bad, c.Len(), x.bad)
		}
	}
}

// P12.1: Of takes up to 2048 items, in any order; of a 2049th one it tells all
// other errors ahead of ErrFull.
func TestOfMany(t *testing.T) {
	l := numbered(3, 2048)
	want := full(t)
	holds(t, want.c, want.m, 0, 4)
	back, mixed := slices.Clone(l), slices.Clone(l)
	slices.Reverse(back)
	for i := range mixed {
		j := i * 1021 % len(mixed)
		mixed[i], mixed[j] = mixed[j], mixed[i]
	}
	for _, other := range [][]Item{back, mixed} {
		c, bad := Of(other)
		if bad != api.OK || !Same(c, want.c) {
			t.Errorf("in another order: error %d, %d tiles", bad, c.Len())
		}
	}
	for _, x := range []struct {
		it  Item
		bad api.Errno
	}{{Item{3, "x"}, api.ErrTwice}, {Item{6144, ""}, api.ErrTwice}, {Item{count, "x"}, api.ErrRange}, {Item{4, ""}, api.ErrArg}, {Item{4, long}, api.ErrLong}, {Item{4, "x"}, api.ErrFull}, {Item{0, most}, api.ErrFull}} {
		if c, bad := Of(append(l[:2048:2048], x.it)); bad != x.bad || c.Len() != 0 {
			t.Errorf("2049 items, the last one %.99v: error %d, %d tiles, not %d", x.it, bad, c.Len(), x.bad)
		}
	}
	if _, bad := Of(append(l[:2048:2048], Item{4, "x"}, Item{4, "x"}, Item{count, ""})); bad != api.ErrFull {
		t.Errorf("the first of several: %d", bad)
	}
}

// P12.2: a chart's bytes, as many as there may be.
func TestMostBytes(t *testing.T) {
	l := numbered(0, 2048)
	for i := range l {
		l[i].Text = most
	}
	c, bad := Of(l)
	if bad != api.OK || c.Len() != 2048 || c.Bytes() != 2048*65536 {
		t.Errorf("error %d, %d tiles, %d bytes", bad, c.Len(), c.Bytes())
	}
}

// P12.1: the identifier 0 is one as any other, and Del of one that is not there
// takes none away.
func TestDel(t *testing.T) {
	p := pair{}.put(t, 0, "nought").put(t, 2, "two").put(t, count-1, "last")
	for _, id := range []uint64{1, 3, count - 2, count, 1<<64 - 1} {
		if c := p.c.Del(id); !Same(c, p.c) {
			t.Errorf("Del(%d): %v", id, c.Items())
		}
	}
	for _, id := range []uint64{0, 2, count - 1} {
		holds(t, p.c.Del(id), p.m.del(id), 0, 2, count-1)
		holds(t, p.c.Del(id).Del(id), p.m.del(id), 0, 2, count-1)
	}
	if c := p.c.Del(2).Del(0).Del(count - 1); !Same(c, Chart{}) {
		t.Errorf("without all: %v", c.Items())
	}
	if c := (Chart{}).Del(0); c.Len() != 0 {
		t.Errorf("of none: %v", c.Items())
	}
}

// P12.2: Each may be left at any tile, gone through again, within itself, and by
// hand; it tells its chart's tiles, whatever was made of that chart meanwhile.
func TestEach(t *testing.T) {
	l := numbered(2, 9)
	c, _ := Of(l)
	walk := c.Each()
	if walk == nil || (Chart{}).Each() == nil {
		t.Fatal("no function")
	}
	for n := 1; n <= len(l)+1; n++ {
		var got []Item
		for id, s := range walk {
			got = append(got, Item{id, s})
			if len(got) == n {
				break
			}
		}
		if !slices.Equal(got, l[:min(n, len(l))]) {
			t.Errorf("left at the %dth: %v", n, got)
		}
	}
	calls := 0
	walk(func(uint64, string) bool {
		calls++
		return calls < 3
	})
	if calls != 3 {
		t.Errorf("%d calls behind the one that was to be the last", calls)
	}
	pairs := 0
	for id := range walk {
		for other := range walk {
			if other >= id {
				break
			}
			pairs++
		}
		c = c.Del(id)
		c, _ = c.Put(id+1, "new")
	}
	if pairs != 36 {
		t.Errorf("%d pairs", pairs)
	}
	var again []Item
	walk(func(id uint64, s string) bool {
		again = append(again, Item{id, s})
		return true
	})
	if !slices.Equal(again, l) {
		t.Errorf("again: %v", again)
	}
	for id, s := range (Chart{}).Each() {
		t.Errorf("of none: %d %q", id, s)
	}
}

// P12.3: the zooms of any two tiles, the first and the last ones of all zooms,
// with a third one between them.
func TestZooms(t *testing.T) {
	var ends []uint64
	for z := range 27 {
		from, _ := tileid.Base(z)
		to, _ := tileid.Base(z + 1)
		ends = append(ends, from, to-1)
	}
	for i, a := range ends {
		for j, b := range ends {
			c, _ := Chart{}.Put(a, "a")
			c, _ = c.Put(b, "b")
			c, _ = c.Put(min(a, b)+(max(a, b)-min(a, b))/2, "between")
			least, greatest, is := c.Zooms()
			if least != min(i, j)/2 || greatest != max(i, j)/2 || !is {
				t.Errorf("of %d and %d: %d %d %v", a, b, least, greatest, is)
			}
		}
	}
	if least, greatest, is := (Chart{}).Zooms(); least != 0 || greatest != 0 || is {
		t.Errorf("of none: %d %d %v", least, greatest, is)
	}
	c, _ := Chart{}.Put(9, "x")
	if least, greatest, is := c.Del(9).Zooms(); least != 0 || greatest != 0 || is {
		t.Errorf("of none again: %d %d %v", least, greatest, is)
	}
}

// P12.3: charts are the same by their tiles and bytes alone, however they were
// made.
func TestSame(t *testing.T) {
	a, _ := Of([]Item{{1, "a"}, {2, "b"}})
	b, _ := Of([]Item{{2, "b"}, {3, "c"}, {1, "x"}})
	b, _ = b.Del(3).Put(1, "a")
	if !Same(a, b) || !Same(b, a) || !Same(a, a) || !Same(Chart{}, Chart{}) || !Same(a.Del(1).Del(2), Chart{}) {
		t.Error("not the same")
	}
	for _, l := range [][]Item{nil, {{1, "a"}}, {{2, "b"}}, {{1, "a"}, {2, "c"}}, {{1, "a"}, {3, "b"}}, {{1, "b"}, {2, "a"}}, {{1, "ab"}, {2, "b"}}, {{1, "a"}, {2, "b"}, {3, "c"}}, {{0, "a"}, {1, "a"}, {2, "b"}}} {
		c, bad := Of(l)
		if bad != api.OK || Same(a, c) || Same(c, a) {
			t.Errorf("%v: error %d, or the same", l, bad)
		}
	}
}

// Rule 3: a list of items that is told, and its spare room, is nobody else's, and
// so is one that was handed in; what lies behind its length is left alone.
func TestNothingShared(t *testing.T) {
	given := append(numbered(1, 5), Item{99, "beyond"})
	c, bad := Of(given[:5])
	if bad != api.OK {
		t.Fatal(bad)
	}
	m, _ := modelOf(numbered(1, 5))
	l, other := c.Items(), c.Items()
	for _, list := range [][]Item{given[:5], l} {
		for i := range list {
			list[i] = Item{7, "spoilt"}
		}
	}
	room := append(l, Item{50, "room"})
	room[0].ID = 8
	holds(t, c, m, 99, 50, 7)
	if !slices.Equal(other, m.items()) || given[5] != (Item{99, "beyond"}) {
		t.Error(other, given[5])
	}
	for _, d := range []Chart{c.Del(1), c.Del(13), c.Del(2)} {
		for i, it := range append(d.Items(), Item{60, "room"}) {
			d.Items()[:d.Len()][min(i, d.Len()-1)] = it
		}
	}
	holds(t, c, m, 60)
}

// Rule 3: a text that is handed in is not kept, but a copy of it.
func TestNotKept(t *testing.T) {
	s := strings.Repeat("tile", 9)
	put, _ := Chart{}.Put(3, s)
	of, _ := Of([]Item{{3, s}})
	for _, c := range []Chart{put, of} {
		if got, _ := c.Get(3); got != s || unsafe.StringData(got) == unsafe.StringData(s) {
			t.Errorf("%q is kept", s)
		}
	}
}
