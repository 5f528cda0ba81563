package ends

import (
	"bytes"
	"math"
	"testing"

	"refectory/api"
)

// noSizes are sizes that are none: those beside the four, and those that a careless shift or sum would let through.
var noSizes = []int{0, 3, 5, 6, 7, 9, 16, 64, 256, -1, -2, -4, -8, math.MaxInt, math.MinInt, math.MinInt + 1, 1<<32 + 1, 1<<61 + 1}

var sizes = []int{1, 2, 4, 8}

// greatest is the greatest number of a size.
func greatest(size int) uint64 {
	n := uint64(0)
	for range size {
		n = n<<8 + 255
	}
	return n
}

// some are numbers of a size: its ends, each single bit, and bytes that are all different.
func some(size int) []uint64 {
	l := []uint64{0, 1, greatest(size), greatest(size) - 1, 0x0807060504030201 & greatest(size), 0xf1e2d3c4b5a69788 & greatest(size)}
	for i := range 8 * size {
		l = append(l, 1<<i)
	}
	return l
}

// count is a row of n bytes 1, 2, 3, and on.
func count(n int) []byte {
	b := make([]byte, n)
	for i := range b {
		b[i] = byte(i + 1)
	}
	return b
}

// P1.1: ordinary numbers, the chapter's examples among them, and the edges of each size.
func TestPut(t *testing.T) {
	for _, c := range []struct {
		n    uint64
		size int
		want []byte
		e    api.Errno
	}{
		{258, 2, []byte{2, 1}, api.OK},
		{256, 1, nil, api.ErrArg},
		{1, 3, nil, api.ErrArg},
		{0, 1, []byte{0}, api.OK},
		{255, 1, []byte{255}, api.OK},
		{1, 2, []byte{1, 0}, api.OK},
		{65535, 2, []byte{255, 255}, api.OK},
		{65536, 2, nil, api.ErrArg},
		{0x01020304, 4, []byte{4, 3, 2, 1}, api.OK},
		{1<<32 - 1, 4, []byte{255, 255, 255, 255}, api.OK},
		{1 << 32, 4, nil, api.ErrArg},
		{1 << 63, 4, nil, api.ErrArg},
		{1 << 63, 1, nil, api.ErrArg},
		{0, 8, []byte{0, 0, 0, 0, 0, 0, 0, 0}, api.OK},
		{1 << 32, 8, []byte{0, 0, 0, 0, 1, 0, 0, 0}, api.OK},
		{0x0102030405060708, 8, []byte{8, 7, 6, 5, 4, 3, 2, 1}, api.OK},
		{math.MaxUint64, 8, []byte{255, 255, 255, 255, 255, 255, 255, 255}, api.OK},
	} {
		b, e := Put(c.n, c.size)
		if !bytes.Equal(b, c.want) || e != c.e {
			t.Errorf("Put(%d, %d) = %x, %d; want %x, %d", c.n, c.size, b, e, c.want, c.e)
		}
	}
}

// P1.1: no other size is one, whatever the number.
func TestPutSizes(t *testing.T) {
	for _, size := range noSizes {
		for _, n := range []uint64{0, 1, 255, math.MaxUint64} {
			if b, e := Put(n, size); len(b) != 0 || e != api.ErrArg {
				t.Errorf("Put(%d, %d) = %x, %d; want ErrArg", n, size, b, e)
			}
		}
	}
}

// P1.1: the chapter's examples, each size, each end of the bytes.
func TestGet(t *testing.T) {
	for _, c := range []struct {
		b        []byte
		at, size int
		want     uint64
		e        api.Errno
	}{
		{[]byte{2, 1, 5}, 0, 2, 258, api.OK},
		{[]byte{2, 1}, 1, 2, 0, api.ErrShort},
		{nil, 1, 1, 0, api.ErrArg},
		{[]byte{2, 1, 5}, 1, 2, 1281, api.OK},
		{[]byte{2, 1, 5}, 2, 1, 5, api.OK},
		{[]byte{2, 1, 5}, 2, 2, 0, api.ErrShort},
		{[]byte{2, 1, 5}, 3, 1, 0, api.ErrShort},
		{[]byte{2, 1, 5}, 4, 1, 0, api.ErrArg},
		{[]byte{2, 1, 5}, -1, 1, 0, api.ErrArg},
		{[]byte{2, 1, 5}, math.MaxInt, 8, 0, api.ErrArg},
		{[]byte{2, 1, 5}, math.MinInt, 8, 0, api.ErrArg},
		{nil, 0, 1, 0, api.ErrShort},
		{[]byte{}, 0, 8, 0, api.ErrShort},
		{[]byte{1, 2, 3, 4}, 0, 4, 0x04030201, api.OK},
		{[]byte{0, 0, 0, 128}, 0, 4, 1 << 31, api.OK},
		{[]byte{1, 2, 3, 4, 5, 6, 7, 8}, 0, 8, 0x0807060504030201, api.OK},
		{[]byte{1, 2, 3, 4, 5, 6, 7, 8}, 1, 8, 0, api.ErrShort},
		{[]byte{0, 0, 0, 0, 0, 0, 0, 128}, 0, 8, 1 << 63, api.OK},
		{bytes.Repeat([]byte{255}, 9), 1, 8, math.MaxUint64, api.OK},
	} {
		n, e := Get(c.b, c.at, c.size)
		if n != c.want || e != c.e {
			t.Errorf("Get(%x, %d, %d) = %d, %d; want %d, %d", c.b, c.at, c.size, n, e, c.want, c.e)
		}
	}
}

// P1.1: a size that is none is ErrArg wherever it is asked for, also where bytes are missing.
func TestGetSizes(t *testing.T) {
	for _, size := range noSizes {
		for _, at := range []int{0, 1, 9, 10, -1, math.MaxInt, math.MinInt} {
			if n, e := Get(count(9), at, size); n != 0 || e != api.ErrArg {
				t.Errorf("Get(9 bytes, %d, %d) = %d, %d; want ErrArg", at, size, n, e)
			}
		}
	}
}

// P1.1, P1.2: room behind the end holds no bytes that stand there.
func TestRoomBehindIsNone(t *testing.T) {
	b := count(16)[:3]
	if n, e := Get(b, 2, 2); n != 0 || e != api.ErrShort {
		t.Errorf("Get = %d, %d; want ErrShort", n, e)
	}
	if p, e := Part(b, 1, 3); len(p) != 0 || e != api.ErrShort {
		t.Errorf("Part = %x, %d; want ErrShort", p, e)
	}
	if Zero(make([]byte, 16)[:3], 0, 4) {
		t.Error("Zero: yes, of bytes behind the end")
	}
	if p := Pad(b); !bytes.Equal(p, []byte{1, 2, 3, 0, 0, 0, 0, 0}) {
		t.Errorf("Pad = %x", p)
	}
}

// partCases are P1.2's, for Part, and for Zero, which says no where Part refuses.
var partCases = []struct {
	b     []byte
	at, n int
	want  []byte
	e     api.Errno
}{
	{[]byte{1, 2, 3}, 1, 2, []byte{2, 3}, api.OK},
	{[]byte{1}, 0, 2, nil, api.ErrShort},
	{[]byte{1, 2, 3}, 0, 3, []byte{1, 2, 3}, api.OK},
	{[]byte{1, 2, 3}, 0, 4, nil, api.ErrShort},
	{[]byte{1, 2, 3}, 2, 2, nil, api.ErrShort},
	{[]byte{1, 2, 3}, 1, 0, nil, api.OK},
	{[]byte{1, 2, 3}, 3, 0, nil, api.OK},
	{[]byte{1, 2, 3}, 3, 1, nil, api.ErrShort},
	{[]byte{1, 2, 3}, 4, 0, nil, api.ErrArg},
	{[]byte{1, 2, 3}, 4, 1, nil, api.ErrArg},
	{[]byte{1, 2, 3}, -1, 1, nil, api.ErrArg},
	{[]byte{1, 2, 3}, -1, 9, nil, api.ErrArg},
	{[]byte{1, 2, 3}, 0, -1, nil, api.ErrArg},
	{[]byte{1, 2, 3}, 3, -1, nil, api.ErrArg},
	{[]byte{1, 2, 3}, 1, math.MaxInt, nil, api.ErrShort},
	{[]byte{1, 2, 3}, 3, math.MaxInt, nil, api.ErrShort},
	{[]byte{1, 2, 3}, math.MaxInt, math.MaxInt, nil, api.ErrArg},
	{[]byte{1, 2, 3}, math.MinInt, math.MinInt, nil, api.ErrArg},
	{[]byte{1, 2, 3}, 1, math.MinInt, nil, api.ErrArg},
	{nil, 0, 0, nil, api.OK},
	{nil, 0, 1, nil, api.ErrShort},
	{nil, 1, 0, nil, api.ErrArg},
	{nil, 0, -1, nil, api.ErrArg},
}

func TestPart(t *testing.T) {
	for _, c := range partCases {
		p, e := Part(c.b, c.at, c.n)
		if !bytes.Equal(p, c.want) || e != c.e {
			t.Errorf("Part(%x, %d, %d) = %x, %d; want %x, %d", c.b, c.at, c.n, p, e, c.want, c.e)
		}
	}
}

// P1.2: where Part refuses, Zero says no, also where all bytes that there are, are 0.
func TestZeroAsPart(t *testing.T) {
	for _, c := range partCases {
		if got := Zero(make([]byte, len(c.b)), c.at, c.n); got != (c.e == api.OK) {
			t.Errorf("Zero(%d bytes 0, %d, %d) = %v", len(c.b), c.at, c.n, got)
		}
	}
}

func TestZero(t *testing.T) {
	for _, c := range []struct {
		b     []byte
		at, n int
		want  bool
	}{
		{[]byte{0, 0, 1}, 0, 2, true},
		{[]byte{0}, 0, 2, false},
		{[]byte{0, 0, 1}, 0, 3, false},
		{[]byte{0, 0, 1}, 1, 2, false},
		{[]byte{0, 0, 1}, 2, 1, false},
		{[]byte{1, 0, 0}, 1, 2, true},
		{[]byte{1, 0, 0}, 0, 3, false},
		{[]byte{0, 1, 0}, 0, 3, false},
		{[]byte{0, 128, 0}, 0, 3, false},
		{[]byte{1, 1}, 1, 0, true},
	} {
		if got := Zero(c.b, c.at, c.n); got != c.want {
			t.Errorf("Zero(%x, %d, %d) = %v", c.b, c.at, c.n, got)
		}
	}
}

func TestPad(t *testing.T) {
	for _, c := range []struct{ b, want []byte }{
		{[]byte{1}, []byte{1, 0, 0, 0, 0, 0, 0, 0}},
		{nil, nil},
		{[]byte{}, nil},
		{[]byte{0}, []byte{0, 0, 0, 0, 0, 0, 0, 0}},
		{count(7), []byte{1, 2, 3, 4, 5, 6, 7, 0}},
		{count(8), count(8)},
		{count(9), append(count(9), 0, 0, 0, 0, 0, 0, 0)},
	} {
		if p := Pad(c.b); !bytes.Equal(p, c.want) {
			t.Errorf("Pad(%x) = %x; want %x", c.b, p, c.want)
		}
	}
}

// P1.3: what is put is got, wherever it stands, and whatever stands around it.
func TestPutIsGot(t *testing.T) {
	for _, size := range sizes {
		for _, n := range some(size) {
			b, e := Put(n, size)
			if e != api.OK || len(b) != size {
				t.Fatalf("Put(%d, %d) = %x, %d", n, size, b, e)
			}
			for at := range 10 {
				for behind := range 3 {
					row := bytes.Repeat([]byte{170}, at+size+behind)
					copy(row[at:], b)
					if m, e := Get(row, at, size); m != n || e != api.OK {
						t.Errorf("Get(%x, %d, %d) = %d, %d; want %d", row, at, size, m, e, n)
					}
				}
			}
		}
	}
}

// P1.3: a number has one row of bytes of a size: what is got is put as the same bytes, and two rows are two numbers.
func TestOneRow(t *testing.T) {
	for n := range 1 << 16 {
		row := []byte{byte(n), byte(n >> 8)}
		got, e := Get(row, 0, 2)
		if e != api.OK {
			t.Fatalf("Get(%x) = %d", row, e)
		}
		if b, e := Put(got, 2); !bytes.Equal(b, row) || e != api.OK {
			t.Fatalf("Put(%d, 2) = %x, %d; want %x", got, b, e, row)
		}
	}
	for _, size := range sizes {
		seen := map[uint64]int{}
		for i := range 8 * size {
			row := make([]byte, size)
			row[i/8] = 1 << (i % 8)
			n, _ := Get(row, 0, size)
			seen[n]++
			if b, e := Put(n, size); !bytes.Equal(b, row) || e != api.OK {
				t.Errorf("Put(%d, %d) = %x, %d; want %x", n, size, b, e, row)
			}
		}
		if len(seen) != 8*size {
			t.Errorf("size %d: %d rows of one bit are %d numbers", size, 8*size, len(seen))
		}
	}
}

// P1.3: a padded length is a multiple of 8, less than 8 above b's; it begins with b, and only noughts follow.
func TestPadFollows(t *testing.T) {
	for n := range 300 {
		b := bytes.Repeat([]byte{255}, n)
		p := Pad(b)
		if len(p)%8 != 0 || len(p) < n || len(p)-n >= 8 {
			t.Errorf("Pad of %d bytes has %d", n, len(p))
		}
		if !bytes.HasPrefix(p, b) || !Zero(p, n, len(p)-n) {
			t.Errorf("Pad of %d bytes 255 = %x", n, p)
		}
		if q := Pad(p); !bytes.Equal(q, p) {
			t.Errorf("Pad of a padded row of %d bytes = %x", len(p), q)
		}
	}
}

// What is handed in stays as it is, the room behind its end too; what is answered is new memory.
func TestNewMemory(t *testing.T) {
	for _, n := range []int{1, 5, 8, 16} {
		room := count(32)
		b := room[:n]
		part, _ := Part(b, 0, n)
		again, _ := Part(b, 0, n)
		answers := [][]byte{part, again, Pad(b), Pad(b)}
		Get(b, 0, 1)
		Zero(b, 0, n)
		if !bytes.Equal(room, count(32)) {
			t.Fatalf("%d bytes: a call changed what it was handed: %x", n, room)
		}
		for i, a := range answers {
			mark(a, byte(100+i))
		}
		if !bytes.Equal(room, count(32)) {
			t.Errorf("%d bytes: an answer shares with what was handed in: %x", n, room)
		}
		for i, a := range answers {
			if !bytes.Equal(a, bytes.Repeat([]byte{byte(100 + i)}, len(a))) {
				t.Errorf("%d bytes: the answer %d shares with another one: %x", n, i, a)
			}
		}
	}
	one, _ := Put(1, 8)
	two, _ := Put(1, 8)
	mark(one, 7)
	if n, _ := Get(two, 0, 8); n != 1 {
		t.Errorf("two answers of Put share: %d", n)
	}
}

// mark writes over an answer, and over the room behind its end.
func mark(b []byte, x byte) {
	b = b[:cap(b)]
	for i := range b {
		b[i] = x
	}
}
