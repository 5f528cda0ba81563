package frame_test

import (
	"bytes"
	"encoding/binary"
	"fmt"
	"slices"
	"testing"

	"refectory/api"
	"refectory/frame"
)

// some tells n bytes, none of them 0, in which no part of 255 comes again at once.
func some(n int) []byte {
	b := make([]byte, n)
	for i := range b {
		b[i] = byte(1 + (i*7+i>>8)%255)
	}
	return b
}

// laid tells a frame's bytes by the language's own library; n may be another number than there are.
func laid(n uint32, b []byte) []byte {
	return append(binary.BigEndian.AppendUint32(nil, n), b...)
}

// whole tells the frame of bytes.
func whole(b []byte) []byte {
	return laid(uint32(len(b)), b)
}

// edges are the lengths of frames at the edges that the chapter names, and at those of each byte of the number.
func edges() []int {
	return []int{1, 2, 3, 4, 5, 127, 128, 254, 255, 256, 257, 511, 512, 513, 32767, 32768, 32769, 65279, 65280, 65281, 65534, 65535, 65536}
}

// broken is four bytes, or fewer, that no frame begins with, and the error of them.
type broken struct {
	why string
	b   []byte
	e   api.Errno
}

// beginnings are those of frames that may not be: by each byte that is not 0, alone and with each kind of number behind it, by no bytes, and by too many.
func beginnings() []broken {
	var l []broken
	add := func(e api.Errno, b ...byte) {
		l = append(l, broken{fmt.Sprintf("%x", b), b, e})
	}
	for first := 1; first < 256; first++ {
		add(api.ErrForm, byte(first))
		add(api.ErrForm, byte(first), 0, 0, 1)
	}
	for _, first := range []byte{1, 2, 127, 128, 254, 255} {
		add(api.ErrForm, first, 0)
		add(api.ErrForm, first, 0, 0)
		add(api.ErrForm, first, 0, 0, 0)
		add(api.ErrForm, first, 1, 0, 0)
		add(api.ErrForm, first, 1, 0, 1)
		add(api.ErrForm, first, 255, 255, 255)
	}
	add(api.ErrForm, 0, 0, 0, 0)
	for _, n := range []uint32{65537, 65538, 65791, 65792, 65793, 1 << 17, 1<<17 + 1, 1 << 18, 1 << 20, 1 << 23, 1<<24 - 256, 1<<24 - 1} {
		add(api.ErrLimit, laid(n, nil)...)
	}
	return l
}

// stream is bytes that come.
type stream struct {
	why string
	b   []byte
}

// streams are short ones of all kinds: whole frames, parts of one, what may not be, ahead of and behind frames.
func streams() []stream {
	one, two, three := whole([]byte{0x61}), whole([]byte{0, 0}), whole([]byte{0, 0, 0})
	tails := []stream{
		{"nothing", nil},
		{"a 0", []byte{0}},
		{"two of four", []byte{0, 0}},
		{"three of four", []byte{0, 0, 0}},
		{"three of four, of the limit", []byte{0, 1, 0}},
		{"four alone", []byte{0, 0, 0, 2}},
		{"one of two", []byte{0, 0, 0, 2, 0}},
		{"of the limit", []byte{0, 1, 0, 0, 0}},
		{"a first byte", []byte{1}},
		{"a first byte, and a frame", append([]byte{1}, one...)},
		{"a first byte, and no bytes", []byte{0xff, 0, 0, 0}},
		{"a first byte, and too many", []byte{1, 1, 0, 1, 7}},
		{"no bytes", []byte{0, 0, 0, 0}},
		{"no bytes, and a frame", append([]byte{0, 0, 0, 0}, one...)},
		{"too many", []byte{0, 1, 0, 1}},
		{"too many, and a frame", append([]byte{0, 1, 0, 1}, two...)},
		{"very many", []byte{0, 0xff, 0xff, 0xff, 5}},
	}
	var l []stream
	for _, ahead := range []stream{{"nothing", nil}, {"one", one}, {"two", two}, {"one, one", slices.Concat(one, one)}, {"three, one", slices.Concat(three, one)}} {
		for _, tail := range tails {
			l = append(l, stream{ahead.why + "; " + tail.why, slices.Concat(ahead.b, tail.b)})
		}
	}
	return l
}

// wanted tells what a receiver has answered in all, when these bytes have come: the frames, the error, and how many it keeps.
func wanted(b []byte) (frames [][]byte, e api.Errno, waits int) {
	for len(b) > 0 {
		if b[0] != 0 {
			return frames, api.ErrForm, 0
		}
		if len(b) < 4 {
			return frames, api.OK, len(b)
		}
		n := int(binary.BigEndian.Uint32(b))
		switch {
		case n == 0:
			return frames, api.ErrForm, 0
		case n > 65536:
			return frames, api.ErrLimit, 0
		case n > len(b)-4:
			return frames, api.OK, len(b)
		}
		frames = append(frames, b[4:4+n])
		b = b[4+n:]
	}
	return frames, api.OK, 0
}

// takes hands pieces to a receiver of its own, and holds each answer, and Waits behind it, against what has come till then.
func takes(t *testing.T, why any, pieces ...[]byte) {
	t.Helper()
	r := frame.New()
	var came []byte
	told, refused := 0, false
	for i, p := range pieces {
		came = append(came, p...)
		frames, e, waits := wanted(came)
		if refused {
			e = api.ErrState
		}
		got, g := r.Take(p)
		if g != e || !sameFrames(got, frames[told:]) || r.Waits() != waits {
			t.Fatalf("%v: the piece %d of %d, %s: Take = %s, %d, Waits %d; want %s, %d, Waits %d", why, i, len(pieces), short(p), list(got), g, r.Waits(), list(frames[told:]), e, waits)
		}
		told, refused = len(frames), refused || e != api.OK
	}
}

// sameFrames tells whether two lists have the same bytes, frame by frame.
func sameFrames(a, b [][]byte) bool {
	return slices.EqualFunc(a, b, bytes.Equal)
}

// list tells how many frames there are, and the first ones.
func list(frames [][]byte) string {
	s := fmt.Sprint(len(frames), " frames")
	for _, f := range frames[:min(len(frames), 4)] {
		s += " " + short(f)
	}
	return s
}

// short tells bytes, or the first of many.
func short(b []byte) string {
	if len(b) > 40 {
		return fmt.Sprintf("%x.. (%d)", b[:40], len(b))
	}
	return fmt.Sprintf("%x", b)
}

// P13.1, P13.2: the chapter's examples.
func TestExamples(t *testing.T) {
	if b, e := frame.Put([]byte{0x61}); !bytes.Equal(b, []byte{0, 0, 0, 1, 0x61}) || e != api.OK {
		t.Errorf("Put(61) = %x, %d", b, e)
	}
	r := frame.New()
	if l, e := r.Take([]byte{0, 0}); len(l) != 0 || e != api.OK {
		t.Errorf("Take(00 00) = %x, %d", l, e)
	}
	if l, e := r.Take([]byte{0, 1, 0x61, 0}); !sameFrames(l, [][]byte{{0x61}}) || e != api.OK || r.Waits() != 1 {
		t.Errorf("Take(00 01 61 00) = %x, %d, Waits %d", l, e, r.Waits())
	}
	r = frame.New()
	if l, e := r.Take([]byte{1, 0, 0, 1, 0x61}); len(l) != 0 || e != api.ErrForm {
		t.Errorf("Take(01 ..) = %x, %d", l, e)
	}
	if l, e := r.Take(nil); len(l) != 0 || e != api.ErrState {
		t.Errorf("Take(none) of that = %x, %d", l, e)
	}
}
