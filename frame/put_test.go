package frame_test

import (
	"bytes"
	"testing"

	"refectory/api"
	"refectory/frame"
)

// P13.1: frames byte by byte.
func TestPutBytes(t *testing.T) {
	for _, c := range []struct {
		n     int
		ahead [4]byte
	}{
		{1, [4]byte{0, 0, 0, 1}},
		{2, [4]byte{0, 0, 0, 2}},
		{255, [4]byte{0, 0, 0, 255}},
		{256, [4]byte{0, 0, 1, 0}},
		{257, [4]byte{0, 0, 1, 1}},
		{0x1234, [4]byte{0, 0, 0x12, 0x34}},
		{65535, [4]byte{0, 0, 255, 255}},
		{65536, [4]byte{0, 1, 0, 0}},
	} {
		b, e := frame.Put(some(c.n))
		if e != api.OK || len(b) != 4+c.n || [4]byte(b) != c.ahead || !bytes.Equal(b[4:], some(c.n)) {
			t.Errorf("Put of %d bytes = %s, %d", c.n, short(b), e)
		}
	}
}

// P13.1: each length up to some hundreds, and each at an edge; bytes of 0 and of 255, too.
func TestPut(t *testing.T) {
	lengths := edges()
	for n := 1; n < 600; n++ {
		lengths = append(lengths, n)
	}
	for _, n := range lengths {
		for _, own := range [][]byte{some(n), make([]byte, n), bytes.Repeat([]byte{255}, n)} {
			if b, e := frame.Put(own); !bytes.Equal(b, whole(own)) || e != api.OK {
				t.Errorf("Put(%s) = %s, %d; want %s", short(own), short(b), e, short(whole(own)))
			}
		}
	}
}

// P13.1: a frame put is bytes as any other ones: it may be put again.
func TestPutAgain(t *testing.T) {
	once, _ := frame.Put(some(3))
	if twice, e := frame.Put(once); !bytes.Equal(twice, []byte{0, 0, 0, 7, 0, 0, 0, 3, 1, 8, 15}) || e != api.OK {
		t.Errorf("Put of Put = %x, %d", twice, e)
	}
}

// P13.1: of no bytes, and of more than may be.
func TestPutRefused(t *testing.T) {
	for _, c := range []struct {
		b    []byte
		want api.Errno
	}{
		{nil, api.ErrForm},
		{[]byte{}, api.ErrForm},
		{some(5)[:0], api.ErrForm},
		{make([]byte, 65537), api.ErrLimit},
		{some(65538), api.ErrLimit},
		{some(1 << 17), api.ErrLimit},
		{some(1<<24 - 1), api.ErrLimit},
		{some(1 << 24), api.ErrLimit},
		{some(1<<24 + 1), api.ErrLimit},
	} {
		if b, e := frame.Put(c.b); len(b) != 0 || e != c.want {
			t.Errorf("Put(%s) = %s, %d; want %d alone", short(c.b), short(b), e, c.want)
		}
	}
}
