package frame_test

import (
	"slices"
	"testing"

	"refectory/api"
	"refectory/frame"
)

// P13.2: nothing has come to a new one; what brings nothing changes nothing.
func TestNew(t *testing.T) {
	r := frame.New()
	if r == nil || r.Waits() != 0 {
		t.Fatalf("New = %v, Waits %d", r, r.Waits())
	}
	for range 3 {
		for _, none := range [][]byte{nil, {}, some(3)[:0]} {
			if l, e := r.Take(none); len(l) != 0 || e != api.OK || r.Waits() != 0 {
				t.Errorf("Take(none) = %x, %d, Waits %d", l, e, r.Waits())
			}
		}
	}
	if l, e := r.Take([]byte{0, 0, 0, 1, 5}); !sameFrames(l, [][]byte{{5}}) || e != api.OK || r.Waits() != 0 {
		t.Errorf("Take behind these = %x, %d, Waits %d", l, e, r.Waits())
	}
}

// P13.2, P13.3: frames at each edge, put and taken: whole, byte by byte, and with room for more of them in one Take.
func TestPutAndTaken(t *testing.T) {
	for _, n := range edges() {
		for _, own := range [][]byte{some(n), make([]byte, n)} {
			b, e := frame.Put(own)
			if e != api.OK {
				t.Fatalf("Put of %d bytes: %d", n, e)
			}
			r := frame.New()
			l, e := r.Take(b)
			if !sameFrames(l, [][]byte{own}) || e != api.OK || r.Waits() != 0 {
				t.Errorf("Take(a frame of %d) = %s, %d, Waits %d", n, list(l), e, r.Waits())
			}
			l, e = r.Take(slices.Concat(b, b, b[:len(b)-1]))
			if !sameFrames(l, [][]byte{own, own}) || e != api.OK || r.Waits() != n+3 {
				t.Errorf("Take(three frames of %d, but a byte) = %s, %d, Waits %d", n, list(l), e, r.Waits())
			}
			l, e = r.Take(b[len(b)-1:])
			if !sameFrames(l, [][]byte{own}) || e != api.OK || r.Waits() != 0 {
				t.Errorf("Take(the last byte) = %s, %d, Waits %d", list(l), e, r.Waits())
			}
		}
	}
}

// P13.2: Waits counts the four first bytes, too, byte by byte, till the frame is whole.
func TestWaits(t *testing.T) {
	r := frame.New()
	for i, b := range []byte{0, 0, 0, 3, 7, 0, 9} {
		l, e := r.Take([]byte{b})
		want, waits := [][]byte(nil), i+1
		if i == 6 {
			want, waits = [][]byte{{7, 0, 9}}, 0
		}
		if !sameFrames(l, want) || e != api.OK || r.Waits() != waits || r.Waits() != waits {
			t.Errorf("the byte %d: %x, %d, Waits %d; want %d", i, l, e, r.Waits(), waits)
		}
		if l, e := r.Take(nil); len(l) != 0 || e != api.OK || r.Waits() != waits {
			t.Errorf("none behind the byte %d: %x, %d, Waits %d; want %d", i, l, e, r.Waits(), waits)
		}
	}
}

// P13.2: many frames in one Take, in their order.
func TestMany(t *testing.T) {
	for _, many := range []int{2, 3, 8, 100, 5000} {
		var b []byte
		var want [][]byte
		for i := range many {
			own := some(1 + i%300)
			want = append(want, own)
			b = append(b, whole(own)...)
		}
		r := frame.New()
		l, e := r.Take(append(b, 0, 1))
		if !sameFrames(l, want) || e != api.OK || r.Waits() != 2 {
			t.Errorf("Take(%d frames) = %s, %d, Waits %d", many, list(l), e, r.Waits())
		}
	}
}

// P13.2: a frame in very many pieces, with frames behind it.
func TestLong(t *testing.T) {
	b := slices.Concat(whole(some(65536)), whole(some(1)), whole(some(65535)), []byte{0, 0})
	for _, n := range []int{1, 2, 3, 5, 255, 4096, 65535, 65536, 65539, 65540, 65541} {
		r := frame.New()
		var got [][]byte
		for p := range slices.Chunk(b, n) {
			l, e := r.Take(p)
			if e != api.OK {
				t.Fatalf("pieces of %d: %d", n, e)
			}
			got = append(got, l...)
		}
		if !sameFrames(got, [][]byte{some(65536), some(1), some(65535)}) || r.Waits() != 2 {
			t.Errorf("pieces of %d: %s, Waits %d", n, list(got), r.Waits())
		}
	}
}

// refuses tells that a receiver answers so to bytes, and that it takes none behind them, whatever they are.
func refuses(t *testing.T, r *frame.Receiver, b []byte, frames [][]byte, want api.Errno) {
	t.Helper()
	if l, e := r.Take(b); !sameFrames(l, frames) || e != want || r.Waits() != 0 {
		t.Errorf("Take(%s) = %s, %d, Waits %d; want %s, %d, 0", short(b), list(l), e, r.Waits(), list(frames), want)
	}
	for _, more := range [][]byte{nil, {}, {0}, {1}, whole(some(2)), {0, 0, 0, 0}, {0, 1, 0, 1}, nil} {
		if l, e := r.Take(more); len(l) != 0 || e != api.ErrState || r.Waits() != 0 {
			t.Errorf("Take(%x) behind %s = %s, %d, Waits %d; want ErrState alone", more, short(b), list(l), e, r.Waits())
		}
	}
}

// P13.2: what may not be: as the first frame and behind others, alone and with bytes behind it; the frames ahead of it are told beside the error.
func TestRefused(t *testing.T) {
	aheads := [][][]byte{nil, {{0x61}}, {{0}, {1, 0, 0}, some(300)}, {some(65536)}}
	for _, c := range beginnings() {
		for _, frames := range aheads {
			var b []byte
			for _, f := range frames {
				b = append(b, whole(f)...)
			}
			refuses(t, frame.New(), slices.Concat(b, c.b), frames, c.e)
			refuses(t, frame.New(), slices.Concat(b, c.b, []byte{0}), frames, c.e)
			refuses(t, frame.New(), slices.Concat(b, c.b, whole(some(9)), whole(some(1))), frames, c.e)
			refuses(t, frame.New(), slices.Concat(b, c.b, []byte{1, 1, 1, 1}), frames, c.e)
			r := frame.New()
			if l, e := r.Take(b); !sameFrames(l, frames) || e != api.OK {
				t.Errorf("Take(%s) = %s, %d", short(b), list(l), e)
			}
			refuses(t, r, c.b, nil, c.e)
		}
	}
}

// P13.2: all of a frame's bytes being there does not make it one, of 65537 of them.
func TestTooManyWhole(t *testing.T) {
	for _, n := range []int{65537, 65538, 1 << 17} {
		refuses(t, frame.New(), whole(some(n)), nil, api.ErrLimit)
		refuses(t, frame.New(), slices.Concat(whole(some(1)), whole(some(n)), whole(some(1))), [][]byte{some(1)}, api.ErrLimit)
	}
}

// P13.2: a first byte is refused when it comes; how many bytes there are, when all three that tell it have come, and not ahead of it.
func TestWhen(t *testing.T) {
	for _, ahead := range [][]byte{nil, whole(some(3))} {
		for first := 1; first < 256; first++ {
			r := frame.New()
			r.Take(ahead)
			refuses(t, r, []byte{byte(first)}, nil, api.ErrForm)
		}
		for _, c := range beginnings() {
			if c.b[0] != 0 {
				continue
			}
			r := frame.New()
			r.Take(ahead)
			for i := range 3 {
				if l, e := r.Take(c.b[i : i+1]); len(l) != 0 || e != api.OK || r.Waits() != i+1 {
					t.Errorf("%s: the byte %d: %x, %d, Waits %d", c.why, i, l, e, r.Waits())
				}
				if l, e := r.Take(nil); len(l) != 0 || e != api.OK || r.Waits() != i+1 {
					t.Errorf("%s: none behind the byte %d: %x, %d, Waits %d", c.why, i, l, e, r.Waits())
				}
			}
			refuses(t, r, c.b[3:], nil, c.e)
		}
	}
}

// P13.2: what is in a frame is no beginning of one, whatever it is.
func TestInside(t *testing.T) {
	for _, c := range beginnings() {
		takes(t, c.why, whole(c.b), whole(some(1)))
		takes(t, c.why, slices.Concat(whole(c.b), whole(c.b)), c.b)
	}
}

// P13.2: a receiver that is none, and one that no call made, stay so, whatever comes.
func TestNone(t *testing.T) {
	for _, r := range []*frame.Receiver{nil, {}, new(frame.Receiver)} {
		for _, b := range [][]byte{nil, {}, {0}, {1}, whole(some(1)), {0, 0, 0, 0}, {0, 1, 0, 1}, {0}, {0, 0, 0, 1, 5}} {
			if r.Waits() != 0 {
				t.Errorf("Waits of none = %d", r.Waits())
			}
			if l, e := r.Take(b); len(l) != 0 || e != api.ErrNil || r.Waits() != 0 {
				t.Errorf("Take(%x) of none = %x, %d, Waits %d; want ErrNil alone", b, l, e, r.Waits())
			}
		}
	}
}
