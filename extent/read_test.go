package extent_test

import (
	"bytes"
	"math"
	"testing"

	"refectory/api"
	"refectory/extent"
)

// P14.1: a new file has nothing.
func TestNew(t *testing.T) {
	d := extent.New()
	if d == nil || d.Size() != 0 || len(d.Extents()) != 0 {
		t.Fatalf("New: %v, %s", d, told(d))
	}
	for at := range 3 {
		if b, e := d.Read(at, 0); len(b) != 0 || e != api.OK {
			t.Errorf("Read(%d, 0) of a new one = %q, %d", at, b, e)
		}
		if b, e := d.Read(at, 1); len(b) != 0 || e != api.ErrEnd {
			t.Errorf("Read(%d, 1) of a new one = %q, %d", at, b, e)
		}
	}
}

// P14.1: what is read of a file with bytes that were written and bytes that were not, at each place that differs.
func TestRead(t *testing.T) {
	d := made(write(2, "abcd"), write(8, "e"), write(10, "fg"), cut(14))
	const end, arg = api.ErrEnd, api.ErrArg
	for _, c := range []struct {
		at, n int
		want  string
		e     api.Errno
	}{
		{0, 14, "00abcd00e0fg00", 0},
		{0, 13, "00abcd00e0fg0", 0},
		{0, 15, "00abcd00e0fg00", 0},
		{0, most, "00abcd00e0fg00", 0},
		{0, math.MaxInt, "00abcd00e0fg00", 0},
		{0, 1, "0", 0},
		{0, 2, "00", 0},
		{0, 3, "00a", 0},
		{1, 1, "0", 0},
		{1, 2, "0a", 0},
		{2, 1, "a", 0},
		{2, 4, "abcd", 0},
		{2, 5, "abcd0", 0},
		{3, 2, "bc", 0},
		{3, 3, "bcd", 0},
		{5, 1, "d", 0},
		{5, 3, "d00", 0},
		{5, 4, "d00e", 0},
		{6, 1, "0", 0},
		{6, 2, "00", 0},
		{6, 3, "00e", 0},
		{7, 2, "0e", 0},
		{8, 1, "e", 0},
		{8, 3, "e0f", 0},
		{9, 1, "0", 0},
		{9, 2, "0f", 0},
		{4, 7, "cd00e0f", 0},
		{11, 1, "g", 0},
		{11, 2, "g0", 0},
		{11, 3, "g00", 0},
		{11, 4, "g00", 0},
		{12, 2, "00", 0},
		{12, 9, "00", 0},
		{13, 1, "0", 0},
		{13, 2, "0", 0},
		{13, math.MaxInt - 1, "0", 0},
		{13, math.MaxInt, "0", 0},
		{14, 1, "", end},
		{14, 2, "", end},
		{14, math.MaxInt, "", end},
		{15, 1, "", end},
		{most, 1, "", end},
		{math.MaxInt, 1, "", end},
		{math.MaxInt, math.MaxInt, "", end},
		{0, 0, "", 0},
		{1, 0, "", 0},
		{2, 0, "", 0},
		{4, 0, "", 0},
		{6, 0, "", 0},
		{13, 0, "", 0},
		{14, 0, "", 0},
		{15, 0, "", 0},
		{most, 0, "", 0},
		{most + 1, 0, "", 0},
		{math.MaxInt, 0, "", 0},
		{-1, 1, "", arg},
		{-1, 0, "", arg},
		{-1, 14, "", arg},
		{0, -1, "", arg},
		{13, -1, "", arg},
		{14, -1, "", arg},
		{99, -1, "", arg},
		{-1, -1, "", arg},
		{math.MinInt, math.MaxInt, "", arg},
		{math.MaxInt, math.MinInt, "", arg},
		{math.MinInt, math.MinInt, "", arg},
	} {
		b, e := d.Read(c.at, c.n)
		if !bytes.Equal(b, write(0, c.want).b) || e != c.e {
			t.Errorf("Read(%d, %d) = %s, %d, want %s, %d", c.at, c.n, short(b), e, c.want, c.e)
		}
	}
}

// P14.1: each Read of each small file, and of the full ones at their ends; what is read changes nothing.
func TestEachRead(t *testing.T) {
	great, below := far()
	for why, acts := range files() {
		d, p := extent.New(), &plain{}
		for _, a := range acts {
			a.does(t, why, d, p)
		}
		size := d.Size()
		ats := []int{size - 2, size - 1, size, size + 1, size + 2}
		for at := range 16 {
			ats = append(ats, at, size-at)
		}
		ats = append(append(ats, great...), below...)
		for _, at := range ats {
			for n := -3; n < 16; n++ {
				reads(t, why, d, p, at, n)
			}
			for _, n := range append(append([]int{size - at - 1, size - at, size - at + 1}, great...), below...) {
				reads(t, why, d, p, at, n)
			}
		}
		stands(t, why, d, p)
	}
}

// P14.1: the size is that behind the last byte, written or not, whatever was done.
func TestSize(t *testing.T) {
	for _, c := range []struct {
		acts []act
		want int
	}{
		{nil, 0},
		{[]act{write(0, "a")}, 1},
		{[]act{write(0, "abc")}, 3},
		{[]act{write(7, "abc")}, 10},
		{[]act{write(7, "abc"), write(0, "abc")}, 10},
		{[]act{write(7, "abc"), write(9, "a")}, 10},
		{[]act{write(7, "abc"), write(9, "ab")}, 11},
		{[]act{write(7, "abc"), write(50, "")}, 10},
		{[]act{write(50, "")}, 0},
		{[]act{cut(5)}, 5},
		{[]act{cut(5), write(1, "a")}, 5},
		{[]act{cut(5), write(4, "ab")}, 6},
		{[]act{write(0, "abc"), cut(1)}, 1},
		{[]act{write(0, "abc"), cut(0)}, 0},
		{[]act{write(0, "abc"), cut(1), cut(9)}, 9},
		{[]act{cut(most)}, most},
		{[]act{cut(most), cut(most - 1)}, most - 1},
		{[]act{{at: 0, b: some(most)}}, most},
		{[]act{write(most-1, "a")}, most},
	} {
		if got := made(c.acts...).Size(); got != c.want {
			t.Errorf("%v: Size = %d, want %d", c.acts, got, c.want)
		}
	}
}
