// Package little is layer 1: numbers as bytes, the least one first, and what
// takes them off a text. See shared/doc/01-little.md.
package little

import "gazetteer/api"

// widest is how many bytes a number may have at most.
const widest = 8

// Scan stands at a place of a text.
type Scan struct {
	Text string
	At   int
	Bad  api.Errno
}

// Put lays the lowest n bytes of x behind those of b, in a list of its own.
func Put(b []byte, n int, x uint64) []byte {
	if !isWidth(n) {
		n = 0
	}
	out := make([]byte, len(b), len(b)+n)
	copy(out, b)
	for range n {
		out = append(out, byte(x))
		x >>= 8
	}
	return out
}

// Num takes the number of the next n bytes off.
func (s Scan) Num(n int) (uint64, Scan) {
	w := wish{s, n}
	if s.Bad = first(s.held, s.placed, w.wide, w.left); s.Bad != api.OK {
		return 0, s
	}
	text, s := s.step(n)
	return number(text), s
}

// Bytes takes the next n bytes off.
func (s Scan) Bytes(n int) (string, Scan) {
	w := wish{s, n}
	if s.Bad = first(s.held, s.placed, w.counted, w.left); s.Bad != api.OK {
		return "", s
	}
	return s.step(n)
}

// Rest tells what is left.
func (s Scan) Rest() string {
	if first(s.held, s.placed) != api.OK {
		return ""
	}
	return s.Text[s.At:]
}

// End tells whether all went well, and nothing is left.
func (s Scan) End() api.Errno { return first(s.held, s.placed, s.spent) }

// Signed tells the number with a sign that the lowest n bytes of x stand for.
func Signed(x uint64, n int) (int64, api.Errno) {
	if !isWidth(n) {
		return 0, api.ErrArg
	}
	above := 8 * (widest - n)
	// Shifting an int64 back fills the upper bytes with the sign.
	return int64(x<<above) >> above, api.OK
}

// Unsigned tells the number of n bytes whose Signed is v.
func Unsigned(v int64, n int) (uint64, api.Errno) {
	back, bad := Signed(uint64(v), n)
	if bad != api.OK {
		return 0, bad
	}
	if back != v {
		return 0, api.ErrRange
	}
	above := 8 * (widest - n)
	return uint64(v) << above >> above, api.OK
}

// first tells the first error that the checks tell, in their order: a later
// one may count on what those ahead of it found.
func first(checks ...func() api.Errno) api.Errno {
	for _, check := range checks {
		if bad := check(); bad != api.OK {
			return bad
		}
	}
	return api.OK
}

// held tells the error that the scan has already.
func (s Scan) held() api.Errno { return s.Bad }

// placed tells whether the scan stands at a place of its text.
func (s Scan) placed() api.Errno {
	if s.At < 0 || s.At > len(s.Text) {
		return api.ErrArg
	}
	return api.OK
}

// spent tells whether nothing is left.
func (s Scan) spent() api.Errno {
	if s.At < len(s.Text) {
		return api.ErrForm
	}
	return api.OK
}

// step goes n bytes on, which must be there.
func (s Scan) step(n int) (string, Scan) {
	from := s.At
	s.At += n
	return s.Text[from:s.At], s
}

// wish is a scan, and how many bytes are asked of it.
type wish struct {
	scan Scan
	n    int
}

// wide tells whether a number may have so many bytes.
func (w wish) wide() api.Errno {
	if !isWidth(w.n) {
		return api.ErrArg
	}
	return api.OK
}

// counted tells whether a text may have so many bytes.
func (w wish) counted() api.Errno {
	if w.n < 0 {
		return api.ErrArg
	}
	return api.OK
}

// left tells whether so many bytes are left. What is left is held against n,
// as the place and n together might be more than an int holds.
func (w wish) left() api.Errno {
	if len(w.scan.Text)-w.scan.At < w.n {
		return api.ErrShort
	}
	return api.OK
}

// isWidth tells whether a number may have n bytes.
func isWidth(n int) bool { return n >= 1 && n <= widest }

// number tells the number of the text's bytes, the least one first.
func number(text string) uint64 {
	var x uint64
	for i := len(text) - 1; i >= 0; i-- {
		x = x<<8 | uint64(text[i])
	}
	return x
}
