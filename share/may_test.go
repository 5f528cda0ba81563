package share_test

import (
	"math"
	"slices"
	"testing"

	"refectory/share"
)

// asked is what May is asked of: access, sharing, way and options, in this order.
type asked [4]uint32

// may asks May of it.
func (a asked) may() bool {
	return share.May(a[0], a[1], a[2], a[3])
}

// has tells whether n has a bit, which is told by its number, from 0 on.
func has(n uint32, bit int) bool {
	for range bit {
		n /= 2
	}
	return n%2 == 1
}

// allowed tells whether such an opening may be, as the chapter's sentences have it, one by one.
func allowed(a asked) bool {
	access, sharing, way, options := a[0], a[1], a[2], a[3]
	ok := access != 0 && access <= 7 && sharing <= 7 && way >= 1 && way <= 5 && options <= 7
	if has(options, 0) && has(options, 1) {
		ok = false
	}
	if way == 4 || way == 5 {
		ok = ok && has(access, 1) && !has(options, 0)
	}
	if has(options, 2) {
		ok = ok && has(access, 2)
	}
	return ok
}

// all are all of access, sharing and options from 0 to 8 and of ways from 0 to 6.
func all() []asked {
	var l []asked
	for access := range uint32(9) {
		for sharing := range uint32(9) {
			for way := range uint32(7) {
				for options := range uint32(9) {
					l = append(l, asked{access, sharing, way, options})
				}
			}
		}
	}
	return l
}

// good are those of all that may be.
func good() []asked {
	return slices.DeleteFunc(all(), func(a asked) bool { return !allowed(a) })
}

// greater are numbers above all that may be; most of them have the low bits of n, which is 7 at most.
func greater(n uint32) []uint32 {
	l := []uint32{math.MaxUint32, math.MaxUint32 - 1, math.MaxUint32 - 7 + n, 1<<31 + n, 1 << 31, 256, 1 << 16}
	for bit := 3; bit < 32; bit++ {
		l = append(l, n|1<<bit)
	}
	return l
}

// P17.1: the chapter's row, and each of its words at its edge.
func TestMay(t *testing.T) {
	for _, c := range []struct {
		of   asked
		want bool
	}{
		{asked{3, 0, 4, 0}, true}, {asked{1, 0, 4, 0}, false},
		// Access: not 0, at most 7.
		{asked{0, 0, 1, 0}, false}, {asked{1, 0, 1, 0}, true}, {asked{2, 0, 1, 0}, true}, {asked{4, 0, 1, 0}, true}, {asked{7, 0, 1, 0}, true}, {asked{8, 0, 1, 0}, false}, {asked{9, 0, 1, 0}, false},
		// Sharing: at most 7, 0 too.
		{asked{1, 0, 1, 0}, true}, {asked{1, 7, 1, 0}, true}, {asked{1, 8, 1, 0}, false}, {asked{7, 7, 5, 6}, true}, {asked{7, 8, 5, 6}, false},
		// Ways: from 1 to 5.
		{asked{7, 0, 0, 0}, false}, {asked{7, 0, 1, 0}, true}, {asked{7, 0, 2, 0}, true}, {asked{7, 0, 3, 0}, true}, {asked{7, 0, 4, 0}, true}, {asked{7, 0, 5, 0}, true}, {asked{7, 0, 6, 0}, false},
		// Options: at most 7, not both 1 and 2.
		{asked{7, 0, 1, 1}, true}, {asked{7, 0, 1, 2}, true}, {asked{7, 0, 1, 3}, false}, {asked{7, 0, 1, 4}, true}, {asked{7, 0, 1, 5}, true}, {asked{7, 0, 1, 6}, true}, {asked{7, 0, 1, 7}, false}, {asked{7, 0, 1, 8}, false},
		{asked{7, 0, 5, 3}, false}, {asked{7, 0, 5, 7}, false}, {asked{1, 0, 2, 3}, false}, {asked{1, 0, 3, 3}, false},
		// The ways 4 and 5: the access bit 2, whatever beside it.
		{asked{1, 7, 4, 0}, false}, {asked{2, 7, 4, 0}, true}, {asked{4, 7, 4, 0}, false}, {asked{5, 7, 4, 0}, false}, {asked{6, 7, 4, 0}, true},
		{asked{1, 7, 5, 0}, false}, {asked{2, 7, 5, 0}, true}, {asked{4, 7, 5, 0}, false}, {asked{5, 7, 5, 0}, false}, {asked{6, 7, 5, 0}, true},
		// Not the option bit 1, which the others may have, without the access bit 2 too.
		{asked{7, 7, 4, 1}, false}, {asked{7, 7, 5, 1}, false}, {asked{7, 7, 4, 5}, false}, {asked{7, 7, 5, 5}, false}, {asked{7, 7, 4, 2}, true}, {asked{7, 7, 5, 2}, true},
		{asked{1, 7, 1, 1}, true}, {asked{1, 7, 2, 1}, true}, {asked{1, 7, 3, 1}, true},
		// The option bit 4: the access bit 4.
		{asked{3, 7, 1, 4}, false}, {asked{4, 7, 1, 4}, true}, {asked{5, 7, 2, 5}, true}, {asked{3, 7, 2, 5}, false}, {asked{3, 7, 3, 6}, false}, {asked{6, 7, 3, 6}, true},
		{asked{3, 7, 4, 4}, false}, {asked{6, 7, 4, 4}, true}, {asked{3, 7, 5, 6}, false}, {asked{6, 7, 5, 6}, true}, {asked{4, 7, 4, 4}, false}, {asked{3, 4, 1, 4}, false},
		// Without it the access bit 4 is neither needed nor barred.
		{asked{3, 7, 1, 0}, true}, {asked{4, 7, 1, 0}, true}, {asked{4, 7, 1, 1}, true}, {asked{4, 7, 1, 2}, true},
		// All at once, and nothing at all.
		{asked{}, false}, {asked{8, 8, 6, 8}, false}, {asked{math.MaxUint32, math.MaxUint32, math.MaxUint32, math.MaxUint32}, false},
	} {
		if c.of.may() != c.want {
			t.Errorf("May(%d) = %t", c.of, !c.want)
		}
	}
}

// P17.1: all of them together.
func TestMayAll(t *testing.T) {
	n := 0
	for _, a := range all() {
		if a.may() != allowed(a) {
			t.Errorf("May(%d) = %t", a, a.may())
		}
		if a.may() {
			n++
		}
	}
	// With 8 sharings each: the ways 1 to 3 have 7 accesses of 3 options and 4 of 3 that go, 4 and 5 have 4 of 2 and 2 of 2.
	if want := 8 * (3*(7*3+4*3) + 2*(4*2+2*2)); n != want {
		t.Errorf("%d may be, not %d", n, want)
	}
}

// P17.1: numbers whose low bits alone would do, in each place of each one that may be, and in several.
func TestMayGreat(t *testing.T) {
	for _, a := range good() {
		for i := range a {
			for _, n := range greater(a[i]) {
				b := a
				if b[i] = n; b.may() {
					t.Errorf("May(%d) = true", b)
				}
			}
		}
		for bit := 3; bit < 32; bit++ {
			b := a
			for i := range b {
				b[i] |= 1 << bit
			}
			if b.may() {
				t.Errorf("May(%d) = true", b)
			}
		}
	}
}

// P17.1: with more sharing, or less, the same may be; and the ways 4 and 5 are alike, as are 1 to 3.
func TestMayAlike(t *testing.T) {
	for _, a := range all() {
		b := a
		if a[1] <= 7 {
			b[1] = 7 - a[1]
		}
		if a[2] >= 1 && a[2] <= 5 {
			b[2] = []uint32{2, 3, 1, 5, 4}[a[2]-1]
		}
		if a.may() != b.may() {
			t.Errorf("May(%d) = %t, May(%d) = %t", a, a.may(), b, b.may())
		}
	}
}
