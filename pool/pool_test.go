package pool

import (
	"math"
	"slices"
	"strconv"
	"strings"
	"testing"
	"unsafe"

	"gazetteer/api"
	"gazetteer/fnv"
)

// model is a pool by the words of the chapter: the contents, one behind the
// other.
type model []string

// find tells where a text stands, by its bytes alone.
func (m model) find(s string) (Content, bool) {
	offset := uint64(0)
	for _, text := range m {
		if text == s {
			return Content{offset, uint32(len(text))}, true
		}
		offset += uint64(len(text))
	}
	return Content{}, false
}

// add tells Add's answer, and the model behind it.
func (m model) add(s string) (model, Content, bool, api.Errno) {
	if s == "" {
		return m, Content{}, false, api.ErrArg
	}
	if len(s) > 65536 {
		return m, Content{}, false, api.ErrLong
	}
	if c, is := m.find(s); is {
		return m, c, false, api.OK
	}
	if len(m) >= 2048 {
		return m, Content{}, false, api.ErrFull
	}
	m = append(m[:len(m):len(m)], s)
	c, _ := m.find(s)
	return m, c, true, api.OK
}

// long is a text that is too long by one byte, most the longest one.
var (
	long = strings.Repeat("x", 65537)
	most = strings.Repeat("x", 65536)
)

// alike are two texts that have one sum, and so come into one bucket, of however
// many there are.
const (
	alike      = "8yn0iYCKYHlIj4-BwPqk"
	alikeOther = "GReLUrM4wMqfg9yzV3KQ"
)

// added holds Add of some texts against the model, and tells both behind it.
func added(t *testing.T, p *Pool, m model, texts ...string) model {
	t.Helper()
	for i, s := range texts {
		var c Content
		var is bool
		var bad api.Errno
		m, c, is, bad = m.add(s)
		if gotC, gotIs, gotBad := p.Add(s); gotC != c || gotIs != is || gotBad != bad {
			t.Fatalf("Add %d, of %.20q: %v %v %d, not %v %v %d", i, s, gotC, gotIs, gotBad, c, is, bad)
		}
	}
	return m
}

// same holds all that a pool tells against the model, and asks for other texts,
// too.
func same(t *testing.T, p *Pool, m model, others ...string) {
	t.Helper()
	if p.Len() != len(m) || p.Text() != strings.Join(m, "") {
		t.Fatalf("%d contents, %.40q, not %d, %.40q", p.Len(), p.Text(), len(m), strings.Join(m, ""))
	}
	for _, s := range slices.Concat(others, m) {
		c, is := m.find(s)
		if gotC, gotIs := p.Find(s); gotC != c || gotIs != is {
			t.Fatalf("Find(%.20q): %v %v, not %v %v", s, gotC, gotIs, c, is)
		}
		if !is {
			continue
		}
		if got, is := p.Get(c); got != s || !is {
			t.Fatalf("Get(%v): %.20q %v, not %.20q", c, got, is, s)
		}
	}
}

// numbered are n unlike texts.
func numbered(n int) []string {
	var l []string
	for i := range n {
		l = append(l, "tile "+strconv.Itoa(i))
	}
	return l
}

// inBucket are n unlike texts, which all begin or end as s does, of the bucket
// in which s is, if there are 2048.
func inBucket(s string, n int) []string {
	var l []string
	for i := 0; len(l) < n; i++ {
		for _, text := range []string{s + strconv.Itoa(i), strconv.Itoa(i) + s} {
			if len(l) < n && fnv.Bucket(text, 2048) == fnv.Bucket(s, 2048) {
				l = append(l, text)
			}
		}
	}
	return l
}

// sequences tells all sequences of up to n of the texts.
func sequences(texts []string, n int) [][]string {
	all := [][]string{nil}
	for from := 0; n > 0; n-- {
		to := len(all)
		for _, l := range all[from:to] {
			for _, s := range texts {
				all = append(all, append(l[:len(l):len(l)], s))
			}
		}
		from = to
	}
	return all
}

// P11.1: the chapter's example.
func TestExample(t *testing.T) {
	p := New()
	for i, x := range []struct {
		s  string
		c  Content
		is bool
	}{{"ab", Content{0, 2}, true}, {"c", Content{2, 1}, true}, {"ab", Content{0, 2}, false}} {
		if c, is, bad := p.Add(x.s); c != x.c || is != x.is || bad != api.OK {
			t.Errorf("%d: %v %v %d", i, c, is, bad)
		}
	}
}

// P11.1: what New tells is empty, and each one is a pool of its own.
func TestNew(t *testing.T) {
	p, other := New(), New()
	if p == nil || other == nil {
		t.Fatal("no pool")
	}
	same(t, p, nil, "", "a")
	m := added(t, p, nil, "a", "b")
	same(t, other, nil, "", "a", "b")
	added(t, other, nil, "b")
	same(t, p, m, "")
}

// P11.1, P11.2, P11.3: all short sequences of texts, of which some begin others,
// or may not be put.
func TestSequences(t *testing.T) {
	texts := []string{"", "a", "b", "ab", "aba", long, "\x00", "\xff\xfe"}
	for _, l := range sequences(texts, 4) {
		p := New()
		m := added(t, p, nil, l...)
		same(t, p, m, texts...)
	}
}

// P11.1: texts whose bytes are not all the same are unlike, one bucket and even
// one sum or not.
func TestBytesDecide(t *testing.T) {
	if fnv.Sum(alike) != fnv.Sum(alikeOther) {
		t.Fatal("the two texts' sums are unlike")
	}
	texts := append(inBucket("tile", 40), "tile", alike, alikeOther, alike[1:], "A", "a", "a\x00", "\x00a", "\x00", "\x00\x00", "é", "e\u0301", "\xc3", "\xe9", most, most[1:], most[1:]+"y", "y"+most[1:])
	// Backwards, too: of two texts each one is to be there ahead of the other.
	for range 2 {
		p := New()
		var m model
		for i, s := range texts {
			m = added(t, p, m, s)
			same(t, p, m, texts[i+1:]...)
		}
		m = added(t, p, m, texts...)
		if len(m) != len(texts) {
			t.Fatalf("%d contents of %d texts", len(m), len(texts))
		}
		same(t, p, m)
		slices.Reverse(texts)
	}
}

// P11.1: a text of 65536 bytes may be put, one more not, whatever the pool has.
func TestLongest(t *testing.T) {
	p := New()
	m := added(t, p, nil, long, most, long, most, long[:65535], long+long)
	if len(m) != 2 {
		t.Fatalf("%d contents", len(m))
	}
	same(t, p, m, long, long+long)
}

// P11.1: a pool has up to 2048 contents; a full one still tells of those, and
// of texts that may not be ahead of that it is full.
func TestFull(t *testing.T) {
	texts := numbered(2048)
	p := New()
	m := added(t, p, nil, texts[:2047]...)
	m = added(t, p, m, texts[0], texts[2047])
	if len(m) != 2048 {
		t.Fatalf("%d contents", len(m))
	}
	same(t, p, m, "", "more", long)
	m = added(t, p, m, "more", "", long, "tile", alike)
	m = added(t, p, m, texts...)
	m = added(t, p, m, "more")
	same(t, p, m, "", "more", long, "tile", alike)
	if _, _, bad := p.Add("more"); bad != api.ErrFull {
		t.Errorf("one more: %d", bad)
	}
}

// P11.1, P11.3: places rise beyond what 16, and 24, binary digits hold.
func TestGreatPlaces(t *testing.T) {
	p := New()
	var m model
	for i := range 300 {
		m = added(t, p, m, most[:65530]+strconv.Itoa(i))
	}
	if c, is := p.Find(m[299]); c.Offset < 1<<24 || !is {
		t.Fatalf("%v %v", c, is)
	}
	same(t, p, m, most)
}

// P11.2: Get tells of no place but those where a content stands, from its first
// byte to its last.
func TestGet(t *testing.T) {
	p := New()
	m := added(t, p, nil, "ab", "c", "defg", "b", "bc", "cdefg")
	for offset := range uint64(20) {
		for length := range uint32(20) {
			c := Content{offset, length}
			want := ""
			for _, s := range m {
				if at, _ := m.find(s); at == c {
					want = s
				}
			}
			if got, is := p.Get(c); got != want || is != (want != "") {
				t.Errorf("Get(%v): %q %v, not %q", c, got, is, want)
			}
		}
	}
	for _, c := range []Content{{math.MaxUint64, 1}, {math.MaxUint64, math.MaxUint32}, {0, math.MaxUint32}, {1 << 63, 2}, {1 << 32, 2}, {2, 1 << 31}, {math.MaxUint64 - 1, 2}} {
		if got, is := p.Get(c); got != "" || is {
			t.Errorf("Get(%v): %q %v", c, got, is)
		}
	}
	for _, c := range []Content{{}, {0, 1}, {1, 0}} {
		if got, is := New().Get(c); got != "" || is {
			t.Errorf("Get(%v) of an empty pool: %q %v", c, got, is)
		}
	}
}

// P11.1, P11.2, P11.3: what nil answers; that it is nil is told ahead of all
// else.
func TestNil(t *testing.T) {
	var p *Pool
	for _, s := range []string{"", "a", most, long} {
		if c, is, bad := p.Add(s); c != (Content{}) || is || bad != api.ErrNil {
			t.Errorf("Add(%.20q): %v %v %d", s, c, is, bad)
		}
		if c, is := p.Find(s); c != (Content{}) || is {
			t.Errorf("Find(%.20q): %v %v", s, c, is)
		}
	}
	for _, c := range []Content{{}, {0, 1}, {math.MaxUint64, math.MaxUint32}} {
		if s, is := p.Get(c); s != "" || is {
			t.Errorf("Get(%v): %q %v", c, s, is)
		}
	}
	if p.Len() != 0 || p.Text() != "" || p.Fork() != nil {
		t.Errorf("%d %q %v", p.Len(), p.Text(), p.Fork())
	}
}

// P11.3: a Pool that no call made is an empty one.
func TestZero(t *testing.T) {
	var p Pool
	same(t, &p, nil, "", "a", long)
	if s, is := p.Get(Content{}); s != "" || is {
		t.Errorf("Get: %q %v", s, is)
	}
	f := p.Fork()
	if f == nil {
		t.Fatal("no fork")
	}
	same(t, f, nil, "", "a")
	same(t, f, added(t, f, nil, "f", "", "f"), "p")
	same(t, &p, added(t, &p, nil, "p", long, "p", "q"), "f")
}

// P11.3: a fork and what it was made of have nothing in common, whichever of
// them gets the next contents, and of whichever bucket.
func TestFork(t *testing.T) {
	texts := inBucket("tile", 16)
	texts = append(texts, numbered(16)...)
	for n := range texts {
		p := New()
		m := added(t, p, nil, texts[:n]...)
		f, g := p.Fork(), p.Fork()
		same(t, f, m, texts...)
		left, right := append([]string{"left"}, texts...), append([]string{"right"}, texts[n:]...)
		mf := added(t, f, m, left...)
		mp := added(t, p, m, right...)
		h := f.Fork()
		mh := added(t, h, mf, "more")
		same(t, f, mf, "right", "more")
		same(t, p, mp, "left", "more")
		same(t, g, m, slices.Concat(texts, []string{"left", "right", "more"})...)
		same(t, h, mh, "right")
	}
}

// P11.3: a full pool's fork is full, too.
func TestForkOfFull(t *testing.T) {
	p := New()
	m := added(t, p, nil, numbered(2048)...)
	f := p.Fork()
	m = added(t, f, m, "more", m[7], "", long)
	same(t, f, m, "more")
}

// Rule 3: a text that is handed in is not kept, but a copy of it.
func TestNotKept(t *testing.T) {
	p := New()
	s := strings.Repeat("tile", 9)
	c, _, _ := p.Add(s)
	if got, _ := p.Get(c); got != s || unsafe.StringData(got) == unsafe.StringData(s) {
		t.Errorf("%q is kept", s)
	}
}
