package fnv

import (
	"hash/fnv"
	"math"
	"math/big"
	"strings"
	"testing"
)

// added is Add by the chapter's words, with numbers of any length.
func added(sum uint64, b byte) uint64 {
	x := new(big.Int).SetUint64(sum)
	x.Xor(x, big.NewInt(int64(b)))
	x.Mul(x, big.NewInt(1099511628211))
	return x.Mod(x, new(big.Int).Lsh(big.NewInt(1), 64)).Uint64()
}

// summed is the sum that Go's own library tells.
func summed(s string) uint64 {
	h := fnv.New64a()
	h.Write([]byte(s))
	return h.Sum64()
}

// texts are all texts of one byte, some of two, and others that are longer, or
// no UTF-8.
func texts() []string {
	l := []string{"", "foobar", "/0/0/0.png", "\x00\x00", "\xff\xfe\xfd", "é€\U0001f5fa", strings.Repeat("x", 65536)}
	for b := range 256 {
		l = append(l, string([]byte{byte(b)}), string([]byte{'a', byte(b)}), string([]byte{byte(b), 'a'}))
	}
	return l
}

// P10.1: what a byte makes of a sum.
func TestAdd(t *testing.T) {
	sums := []uint64{0, 1, 2, 255, 256, 1 << 24, Start, Start + 1, 1<<63 - 1, 1 << 63, math.MaxUint64}
	for i := range 64 {
		sums = append(sums, 1<<i, Start>>i, Start<<i)
	}
	for _, sum := range sums {
		for b := range 256 {
			if got, want := Add(sum, byte(b)), added(sum, byte(b)); got != want {
				t.Fatalf("Add(%d, %d): %d, not %d", sum, b, got, want)
			}
		}
	}
}

// P10.1: a text's sum is that of its bytes, from the first one on.
func TestSum(t *testing.T) {
	if Sum("a") != 12638187200555641996 {
		t.Errorf("the chapter's example: %d", Sum("a"))
	}
	if Start != 14695981039346656037 || Sum("") != Start {
		t.Errorf("no bytes: %d", Sum(""))
	}
	if Sum("ab") == Sum("ba") {
		t.Error("ab and ba: the bytes' order is not told")
	}
	for _, s := range texts() {
		want := Start
		for _, b := range []byte(s) {
			want = added(want, b)
		}
		if got := Sum(s); got != want || got != summed(s) {
			t.Fatalf("Sum(%.20q): %d, not %d", s, got, want)
		}
	}
}

// P10.1: what comes behind is added to the sum of what comes ahead.
func TestSumGoesOn(t *testing.T) {
	for _, s := range texts() {
		if got, want := Sum(s+"\xff"), Add(Sum(s), 255); got != want {
			t.Fatalf("%.20q and a byte: %d, not %d", s, got, want)
		}
	}
}

// P10.2: a text's bucket, of any number of them.
func TestBucket(t *testing.T) {
	for _, s := range texts() {
		sum := new(big.Int).SetUint64(summed(s))
		for _, n := range []int{1, 2, 3, 7, 16, 1000, 65536, math.MaxInt32, math.MaxInt - 1, math.MaxInt} {
			want := new(big.Int).Mod(sum, big.NewInt(int64(n))).Int64()
			if got := Bucket(s, n); int64(got) != want {
				t.Fatalf("Bucket(%.20q, %d): %d, not %d", s, n, got, want)
			}
		}
	}
}

// P10.2: of no bucket, or fewer, it is 0.
func TestBucketOfNone(t *testing.T) {
	for _, s := range texts() {
		for _, n := range []int{0, -1, -2, -1000, math.MinInt32, -math.MaxInt, math.MinInt} {
			if got := Bucket(s, n); got != 0 {
				t.Fatalf("Bucket(%.20q, %d): %d, not 0", s, n, got)
			}
		}
	}
}

// P10.3: one byte that differs, at any place, makes another sum.
func TestOneByteDiffers(t *testing.T) {
	for _, s := range []string{"a", "ab", "foobar", "/26/67108863/67108863.png", strings.Repeat("\x00", 40), strings.Repeat("\xff", 200)} {
		for at := range len(s) {
			seen := make(map[uint64]byte, 256)
			for b := range 256 {
				sum := Sum(s[:at] + string([]byte{byte(b)}) + s[at+1:])
				if other, is := seen[sum]; is {
					t.Fatalf("%q: %d and %d at place %d have one sum", s, other, b, at)
				}
				seen[sum] = byte(b)
			}
		}
	}
}

// P10.3: the bytes behind the one that differs keep the sums apart, as Add
// keeps any two apart that are unlike.
func TestAddKeepsApart(t *testing.T) {
	for _, sum := range []uint64{0, 1, Start, 1 << 63, math.MaxUint64} {
		for i := range 64 {
			if other := sum ^ 1<<i; Add(sum, 7) == Add(other, 7) {
				t.Fatalf("%d and %d: one sum", sum, other)
			}
		}
	}
}
