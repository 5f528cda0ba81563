package extent_test

import (
	"math"
	"testing"

	"refectory/api"
	"refectory/extent"
)

// refusal is a call that is refused, and by which error.
type refusal struct {
	call act
	e    api.Errno
}

// refusals are the calls that no file takes.
func refusals() []refusal {
	great, below := far()
	var l []refusal
	for _, at := range great {
		l = append(l, refusal{cut(at), api.ErrLimit})
		for _, n := range []int{1, 2, 5, most, most + 1} {
			l = append(l, refusal{act{at: at, b: some(n)}, api.ErrLimit})
		}
	}
	for _, at := range below {
		l = append(l, refusal{cut(at), api.ErrArg}, refusal{write(at, ""), api.ErrArg})
		// ErrArg is first, also of more than a file may have.
		for _, n := range []int{1, 2, 5, most, most + 1, most + 2, 2 * most} {
			l = append(l, refusal{act{at: at, b: some(n)}, api.ErrArg})
		}
	}
	for _, n := range []int{1, 2, 3, 256, 32768, most - 1, most} {
		l = append(l, refusal{act{at: most - n + 1, b: some(n)}, api.ErrLimit}, refusal{act{at: most, b: some(n)}, api.ErrLimit})
	}
	for _, at := range []int{0, 1, 7, most - 1, most} {
		l = append(l, refusal{act{at: at, b: some(most + 1)}, api.ErrLimit}, refusal{act{at: at, b: some(2 * most)}, api.ErrLimit})
	}
	// Bytes that are all 0 are bytes.
	return append(l, refusal{write(most, "0"), api.ErrLimit}, refusal{write(most-1, "00"), api.ErrLimit}, refusal{write(-1, "0"), api.ErrArg})
}

// P14.2: what is refused, by the error that is named first, changes nothing.
func TestRefused(t *testing.T) {
	for why, acts := range files() {
		d, p := extent.New(), &plain{}
		for _, a := range acts {
			a.does(t, why, d, p)
		}
		for i, r := range refusals() {
			if e := r.call.of(d); e != r.e {
				t.Errorf("%s: %v = %d, want %d", why, r.call, e, r.e)
			}
			if i%16 == 0 || d.Size() < 100 {
				stands(t, why, d, p)
			}
		}
		stands(t, why, d, p)
		// It takes what may be, as ever.
		write(1, "qq").does(t, why, d, p)
		cut(4).does(t, why, d, p)
		stands(t, why, d, p)
	}
}

// P14.1: a Read that is refused changes nothing, and tells no bytes.
func TestRefusedRead(t *testing.T) {
	great, below := far()
	for why, acts := range files() {
		d, p := extent.New(), &plain{}
		for _, a := range acts {
			a.does(t, why, d, p)
		}
		size := d.Size()
		for _, n := range append([]int{1, 2, size, most}, great...) {
			for _, at := range append([]int{size, size + 1, most}, great...) {
				want := api.ErrEnd
				if n == 0 {
					want = api.OK
				}
				if b, e := d.Read(at, n); len(b) != 0 || e != want {
					t.Errorf("%s: Read(%d, %d) = %s, %d, want %d", why, at, n, short(b), e, want)
				}
			}
			for _, at := range below {
				if b, e := d.Read(at, n); len(b) != 0 || e != api.ErrArg {
					t.Errorf("%s: Read(%d, %d) = %s, %d", why, at, n, short(b), e)
				}
			}
		}
		for _, n := range below {
			for _, at := range []int{0, 1, size, size + 1, math.MaxInt, -1, math.MinInt} {
				if b, e := d.Read(at, n); len(b) != 0 || e != api.ErrArg {
					t.Errorf("%s: Read(%d, %d) = %s, %d", why, at, n, short(b), e)
				}
			}
		}
		stands(t, why, d, p)
	}
}

// Rule 5: a file that is none, and one that no call made, stay so, whatever is asked of them; ErrNil is ahead of all else.
func TestNone(t *testing.T) {
	for _, d := range []*extent.Data{nil, {}, new(extent.Data)} {
		for _, r := range append(refusals(), refusal{write(0, "abc"), 0}, refusal{write(0, ""), 0}, refusal{write(9, "0"), 0}, refusal{cut(0), 0}, refusal{cut(5), 0}, refusal{cut(most), 0}) {
			if e := r.call.of(d); e != api.ErrNil {
				t.Errorf("%v of none = %d", r.call, e)
			}
		}
		for _, at := range []int{0, 1, -1, most, math.MaxInt, math.MinInt} {
			for _, n := range []int{0, 1, -1, most, math.MaxInt, math.MinInt} {
				if b, e := d.Read(at, n); len(b) != 0 || e != api.ErrNil {
					t.Errorf("Read(%d, %d) of none = %s, %d", at, n, short(b), e)
				}
			}
		}
		if d.Size() != 0 || len(d.Extents()) != 0 {
			t.Errorf("none: %s", told(d))
		}
		if c := d.Copy(); c != nil {
			t.Errorf("Copy of none = %s", told(c))
		}
	}
}
