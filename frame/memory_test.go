package frame_test

import (
	"bytes"
	"slices"
	"testing"

	"refectory/api"
	"refectory/frame"
)

// spoil makes each byte of b, and of the room behind its end, another one.
func spoil(b []byte) {
	b = b[:cap(b)]
	for i := range b {
		b[i] ^= 0x5a
	}
}

// spoilAll spoils frames, and leaves their list, with the room behind its end, empty.
func spoilAll(frames [][]byte) {
	for _, f := range frames {
		spoil(f)
	}
	clear(frames[:cap(frames)])
}

// roomy tells bytes in new memory, and the whole of it, with room behind them that is not zero.
func roomy(b []byte) (own, room []byte) {
	room = slices.Concat(b, bytes.Repeat([]byte{0xee}, 24))
	return room[:len(b)], room
}

// Rule 5: bytes that are put stay as they are, the room behind their end too; the frame is new memory.
func TestPutMemory(t *testing.T) {
	for _, n := range []int{0, 1, 2, 3, 4, 28, 255, 256, 257, 65535, 65536, 65537} {
		own, room := roomy(some(n))
		before := slices.Clone(room)
		one, _ := frame.Put(own)
		two, _ := frame.Put(own)
		want := slices.Clone(two)
		spoil(one)
		if !bytes.Equal(room, before) || !bytes.Equal(two, want) {
			t.Errorf("Put of %d bytes: something else is left, or what is answered shares", n)
		}
		spoil(room)
		if !bytes.Equal(two, want) {
			t.Errorf("Put of %d bytes: the frame shares with them", n)
		}
	}
}

// Rule 5: bytes that are taken stay as they are, the room behind their end too, whether they are frames, wait or are refused.
func TestTakenStay(t *testing.T) {
	for _, s := range streams() {
		for i := range len(s.b) + 1 {
			r := frame.New()
			for _, p := range [][]byte{s.b[:i], s.b[i:], some(3)} {
				own, room := roomy(p)
				before := slices.Clone(room)
				r.Take(own)
				if !bytes.Equal(room, before) {
					t.Fatalf("%s, cut at %d: of %x is left %x", s.why, i, before, room)
				}
			}
		}
	}
}

// Rule 5: what was handed in may turn behind each Take, with the room behind its end: neither what is kept nor what was answered turns with it.
func TestTakenMayTurn(t *testing.T) {
	for _, s := range streams() {
		for i := range len(s.b) + 1 {
			for j := i; j <= len(s.b); j++ {
				r := frame.New()
				var got [][]byte
				var last api.Errno
				for _, p := range [][]byte{s.b[:i], s.b[i:j], s.b[j:]} {
					own, room := roomy(p)
					l, e := r.Take(own)
					got = append(got, l...)
					if last == api.OK {
						last = e
					}
					spoil(room)
				}
				frames, e, waits := wanted(s.b)
				if !sameFrames(got, frames) || last != e || r.Waits() != waits {
					t.Fatalf("%s, cut at %d and %d: %s, %d, Waits %d; want %s, %d, Waits %d", s.why, i, j, list(got), last, r.Waits(), list(frames), e, waits)
				}
			}
		}
	}
}

// Rule 5: one piece of memory, filled anew for each Take, as a caller's buffer is.
func TestOneBuffer(t *testing.T) {
	b := slices.Concat(whole(some(300)), whole(some(1)), whole(make([]byte, 70)), whole(some(65536)), []byte{0, 0, 1})
	for _, n := range []int{1, 3, 4, 5, 100, 1000} {
		buffer := make([]byte, n)
		r := frame.New()
		var got [][]byte
		for p := range slices.Chunk(b, n) {
			l, _ := r.Take(buffer[:copy(buffer, p)])
			got = append(got, l...)
		}
		if !sameFrames(got, [][]byte{some(300), some(1), make([]byte, 70), some(65536)}) || r.Waits() != 3 {
			t.Errorf("a buffer of %d: %s, Waits %d", n, list(got), r.Waits())
		}
	}
}

// Rule 5: what was answered may turn, with the room behind it: neither what is kept nor what is answered later turns with it.
func TestAnsweredMayTurn(t *testing.T) {
	for _, s := range streams() {
		b := slices.Concat(s.b, whole(some(2)))
		for i := range len(b) + 1 {
			for j := i; j <= len(b); j++ {
				r := frame.New()
				var got [][]byte
				for _, p := range [][]byte{b[:i], b[i:j], b[j:]} {
					own, room := roomy(p)
					before := slices.Clone(room)
					l, _ := r.Take(own)
					for _, f := range l {
						got = append(got, slices.Clone(f))
					}
					spoilAll(l)
					if !bytes.Equal(room, before) {
						t.Fatalf("%s, cut at %d and %d: an answer shares with what was handed in", s.why, i, j)
					}
				}
				frames, _, waits := wanted(b)
				if !sameFrames(got, frames) || r.Waits() != waits {
					t.Fatalf("%s, cut at %d and %d: %s, Waits %d; want %s, Waits %d", s.why, i, j, list(got), r.Waits(), list(frames), waits)
				}
			}
		}
	}
}

// Rule 5: frames of one answer, and those of several calls, lie apart, each with the room behind it; beside an error, too.
func TestFramesLieApart(t *testing.T) {
	owns := [][]byte{some(1), some(2), some(40), {0}, some(300), some(5)}
	var b []byte
	for _, own := range owns {
		b = append(b, whole(own)...)
	}
	for _, tail := range [][]byte{nil, {0, 0}, {1}, {0, 0, 0, 0}, {0, 1, 0, 1}, {0, 0, 0, 9, 1, 2}} {
		for i := range len(b) + 1 {
			r := frame.New()
			one, _ := r.Take(b[:i])
			two, _ := r.Take(slices.Concat(b[i:], tail))
			all := slices.Concat(one, two)
			if !sameFrames(all, owns) {
				t.Fatalf("cut at %d: %s", i, list(all))
			}
			for j, f := range all {
				spoil(f)
				if !sameFrames(all[j+1:], owns[j+1:]) {
					t.Fatalf("cut at %d: the frame %d shares with one behind it", i, j)
				}
			}
			for j, f := range all {
				spoil(f)
				if !bytes.Equal(f, owns[j]) {
					t.Fatalf("cut at %d: the frame %d shares with another one", i, j)
				}
			}
			clear(one[:cap(one)])
			if !sameFrames(two, owns[len(one):]) {
				t.Fatalf("cut at %d: the lists of two answers share", i)
			}
		}
	}
}

// Rule 5: two receivers share nothing: neither what is kept, nor what is refused, nor what is answered, also of the same bytes.
func TestTwoReceivers(t *testing.T) {
	for _, s := range streams() {
		for i := range len(s.b) + 1 {
			one, two, three := frame.New(), frame.New(), frame.New()
			ahead, behind := s.b[:i], s.b[i:]
			first, _ := one.Take(ahead)
			second, _ := two.Take(ahead)
			spoilAll(first)
			other, e := three.Take(whole(some(7)))
			if !sameFrames(other, [][]byte{some(7)}) || e != api.OK || three.Waits() != 0 {
				t.Fatalf("%s, cut at %d: another receiver: %s, %d, Waits %d", s.why, i, list(other), e, three.Waits())
			}
			third, _ := one.Take(behind)
			spoilAll(third)
			one.Take([]byte{1})
			fourth, _ := two.Take(behind)
			got := slices.Concat(second, fourth)
			frames, _, waits := wanted(s.b)
			if !sameFrames(got, frames) || two.Waits() != waits {
				t.Fatalf("%s, cut at %d: %s, Waits %d; want %s, Waits %d", s.why, i, list(got), two.Waits(), list(frames), waits)
			}
		}
	}
}

// Rule 5: two receivers that are refused and filled by turns, each with another stream.
func TestByTurns(t *testing.T) {
	one, two := frame.New(), frame.New()
	left, right := whole(some(50)), whole(bytes.Repeat([]byte{0xaa}, 50))
	for i := range left {
		l, e := one.Take(left[i : i+1])
		m, f := two.Take(right[i : i+1])
		last := i == len(left)-1
		if e != api.OK || f != api.OK || last != (len(l) == 1) || last != (len(m) == 1) || one.Waits() != two.Waits() {
			t.Fatalf("the byte %d: %s, %d; %s, %d", i, list(l), e, list(m), f)
		}
		if last && (!bytes.Equal(l[0], some(50)) || !bytes.Equal(m[0], bytes.Repeat([]byte{0xaa}, 50))) {
			t.Errorf("the frames: %s; %s", list(l), list(m))
		}
	}
	refuses(t, one, []byte{9}, nil, api.ErrForm)
	if l, e := two.Take(right[:7]); len(l) != 0 || e != api.OK || two.Waits() != 7 {
		t.Errorf("behind the other one's refusal: %s, %d, Waits %d", list(l), e, two.Waits())
	}
}
