package extent_test

import (
	"bytes"
	"slices"
	"testing"

	"refectory/api"
	"refectory/extent"
)

// P14.2, P14.3: bytes written where nothing was.
func TestFirstWrite(t *testing.T) {
	rows(t, nil, []row{
		{nil, "0: "},
		{[]act{write(0, "a")}, "1: 0 a"},
		{[]act{write(0, "abc")}, "3: 0 abc"},
		{[]act{write(1, "a")}, "2: 1 a"},
		{[]act{write(5, "abc")}, "8: 5 abc"},
		{[]act{write(0, "0")}, "1: 0 0"},
		{[]act{write(3, "000")}, "6: 3 000"},
		{[]act{write(3, "0a0")}, "6: 3 0a0"},
		{[]act{write(0, "")}, "0: "},
		{[]act{write(5, "")}, "0: "},
		{[]act{write(most, "")}, "0: "},
		{[]act{write(most+1, "")}, "0: "},
		{[]act{write(most-1, "a")}, "65536: 65535 a"},
		{[]act{write(most-3, "abc")}, "65536: 65533 abc"},
	})
}

// P14.2, P14.3: bytes written beside two extents, over them, and between them, at each place that differs.
func TestWriteBeside(t *testing.T) {
	rows(t, []act{write(4, "abcd"), write(12, "efgh"), cut(20)}, []row{
		{nil, "20: 4 abcd, 12 efgh"},
		// ahead of the first one, away from it, so that it touches, and over its beginning
		{[]act{write(0, "x")}, "20: 0 x, 4 abcd, 12 efgh"},
		{[]act{write(0, "xyz")}, "20: 0 xyz, 4 abcd, 12 efgh"},
		{[]act{write(2, "x")}, "20: 2 x, 4 abcd, 12 efgh"},
		{[]act{write(3, "x")}, "20: 3 xabcd, 12 efgh"},
		{[]act{write(0, "wxyz")}, "20: 0 wxyzabcd, 12 efgh"},
		{[]act{write(3, "xy")}, "20: 3 xybcd, 12 efgh"},
		{[]act{write(0, "vwxyz")}, "20: 0 vwxyzbcd, 12 efgh"},
		{[]act{write(2, "uvwxy")}, "20: 2 uvwxyd, 12 efgh"},
		// in its midst
		{[]act{write(4, "x")}, "20: 4 xbcd, 12 efgh"},
		{[]act{write(5, "x")}, "20: 4 axcd, 12 efgh"},
		{[]act{write(5, "xy")}, "20: 4 axyd, 12 efgh"},
		{[]act{write(5, "00")}, "20: 4 a00d, 12 efgh"},
		{[]act{write(7, "x")}, "20: 4 abcx, 12 efgh"},
		{[]act{write(4, "wxyz")}, "20: 4 wxyz, 12 efgh"},
		{[]act{write(4, "0000")}, "20: 4 0000, 12 efgh"},
		{[]act{write(4, "abcd")}, "20: 4 abcd, 12 efgh"},
		// over its end, right behind it, and away from it
		{[]act{write(5, "wxyz")}, "20: 4 awxyz, 12 efgh"},
		{[]act{write(7, "xy")}, "20: 4 abcxy, 12 efgh"},
		{[]act{write(8, "x")}, "20: 4 abcdx, 12 efgh"},
		{[]act{write(8, "xyz")}, "20: 4 abcdxyz, 12 efgh"},
		{[]act{write(8, "0")}, "20: 4 abcd0, 12 efgh"},
		{[]act{write(9, "x")}, "20: 4 abcd, 9 x, 12 efgh"},
		{[]act{write(9, "xy")}, "20: 4 abcd, 9 xy, 12 efgh"},
		{[]act{write(9, "00")}, "20: 4 abcd, 9 00, 12 efgh"},
		// up to the second one
		{[]act{write(9, "xyz")}, "20: 4 abcd, 9 xyzefgh"},
		{[]act{write(11, "x")}, "20: 4 abcd, 11 xefgh"},
		{[]act{write(11, "xy")}, "20: 4 abcd, 11 xyfgh"},
		{[]act{write(10, "x")}, "20: 4 abcd, 10 x, 12 efgh"},
		// all that is between them, and over both
		{[]act{write(8, "wxyz")}, "20: 4 abcdwxyzefgh"},
		{[]act{write(8, "0000")}, "20: 4 abcd0000efgh"},
		{[]act{write(7, "uvwxyz")}, "20: 4 abcuvwxyzfgh"},
		{[]act{write(4, "abcdefghijkl")}, "20: 4 abcdefghijkl"},
		{[]act{write(5, "0000000000")}, "20: 4 a0000000000h"},
		{[]act{write(3, "mnopqrstuvwxyz")}, "20: 3 mnopqrstuvwxyz"},
		{[]act{write(0, "ABCDEFGHIJKLMNOPQRST")}, "20: 0 ABCDEFGHIJKLMNOPQRST"},
		{[]act{write(0, "ABCDEFGHIJKLMNOPQRSTU")}, "21: 0 ABCDEFGHIJKLMNOPQRSTU"},
		// behind the second one, at the size and behind it
		{[]act{write(15, "xy")}, "20: 4 abcd, 12 efgxy"},
		{[]act{write(16, "x")}, "20: 4 abcd, 12 efghx"},
		{[]act{write(17, "x")}, "20: 4 abcd, 12 efgh, 17 x"},
		{[]act{write(19, "x")}, "20: 4 abcd, 12 efgh, 19 x"},
		{[]act{write(19, "xy")}, "21: 4 abcd, 12 efgh, 19 xy"},
		{[]act{write(20, "x")}, "21: 4 abcd, 12 efgh, 20 x"},
		{[]act{write(16, "vwxyz")}, "21: 4 abcd, 12 efghvwxyz"},
		{[]act{write(30, "x")}, "31: 4 abcd, 12 efgh, 30 x"},
	})
}

// P14.2, P14.3: bytes written over several extents and over what is between them.
func TestWriteOverSeveral(t *testing.T) {
	rows(t, []act{write(1, "a"), write(3, "b"), write(5, "c"), write(7, "d"), write(9, "e")}, []row{
		{nil, "10: 1 a, 3 b, 5 c, 7 d, 9 e"},
		{[]act{write(2, "x")}, "10: 1 axb, 5 c, 7 d, 9 e"},
		{[]act{write(3, "x")}, "10: 1 a, 3 x, 5 c, 7 d, 9 e"},
		{[]act{write(3, "xyz")}, "10: 1 a, 3 xyz, 7 d, 9 e"},
		{[]act{write(2, "vwxyz")}, "10: 1 avwxyzd, 9 e"},
		{[]act{write(4, "x"), write(6, "y")}, "10: 1 a, 3 bxcyd, 9 e"},
		{[]act{write(4, "xyz")}, "10: 1 a, 3 bxyzd, 9 e"},
		{[]act{write(1, "rstuvwxyz")}, "10: 1 rstuvwxyz"},
		{[]act{write(2, "tuvwxyz")}, "10: 1 atuvwxyze"},
		{[]act{write(0, "tuvwxyz")}, "10: 0 tuvwxyzd, 9 e"},
		{[]act{write(0, "0000000000")}, "10: 0 0000000000"},
		{[]act{write(0, "qrstuvwxyz"), write(4, "0")}, "10: 0 qrst0vwxyz"},
		{[]act{write(2, "v"), write(4, "x"), write(6, "y"), write(8, "z")}, "10: 1 avbxcydze"},
		{[]act{write(8, "z"), write(6, "y"), write(4, "x"), write(2, "v"), write(0, "u")}, "10: 0 uavbxcydze"},
		{[]act{write(8, "wxyz")}, "12: 1 a, 3 b, 5 c, 7 dwxyz"},
	})
}

// P14.2: of no bytes nothing changes, at each place that there is and at those behind.
func TestWriteNone(t *testing.T) {
	great, _ := far()
	for why, acts := range files() {
		d, p := extent.New(), &plain{}
		for _, a := range acts {
			a.does(t, why, d, p)
		}
		for _, none := range [][]byte{nil, {}, some(4)[4:], make([]byte, 0, 9)} {
			for _, at := range slices.Concat([]int{0, 1, 2, 3, 4, 5, 6, 7, 8, 9, 10, 11, 12, 13, most - 1, most}, great) {
				if e := d.Write(at, none); e != api.OK {
					t.Fatalf("%s: Write(%d, none) = %d", why, at, e)
				}
			}
			stands(t, why, d, p)
		}
	}
}

// P14.2: up to MaxFile bytes exactly, of each length at each end, in each file.
func TestWriteToLimit(t *testing.T) {
	for why, acts := range files() {
		for _, n := range []int{1, 2, 3, 255, 256, 32768, most - 13, most - 2, most - 1, most} {
			for _, more := range []int{1, 0} {
				if at := most - n + more; at >= 0 {
					d, p := extent.New(), &plain{}
					for _, a := range acts {
						a.does(t, why, d, p)
					}
					act{at: at, b: some(n)}.does(t, why, d, p)
					stands(t, why, d, p)
				}
			}
		}
	}
	d := extent.New()
	if e := d.Write(0, some(most+1)); e != api.ErrLimit || told(d) != "0: " {
		t.Errorf("Write(0) of %d bytes = %d: %s", most+1, e, told(d))
	}
	if e := d.Write(1, some(most)); e != api.ErrLimit || told(d) != "0: " {
		t.Errorf("Write(1) of %d bytes = %d: %s", most, e, told(d))
	}
	if e := d.Write(0, some(most)); e != api.OK || d.Size() != most {
		t.Errorf("Write(0) of %d bytes = %d: %s", most, e, told(d))
	}
	if b, e := d.Read(0, most+1); e != api.OK || !bytes.Equal(b, some(most)) {
		t.Errorf("what was read of it: %s, %d", short(b), e)
	}
}

// P14.2, P14.3: as many extents as there may be, made from the first on, from the last on, and from the midst; then filled up.
func TestMostExtents(t *testing.T) {
	const n = most / 2
	for why, place := range map[string]func(i int) int{
		"from the first on": func(i int) int { return i },
		"from the last on":  func(i int) int { return n - 1 - i },
		"by leaps":          func(i int) int { return i * 12289 % n },
	} {
		d := extent.New()
		for i := range n {
			at := place(i)
			if e := d.Write(2*at, []byte{byte(1 + at%255)}); e != api.OK {
				t.Fatalf("%s: Write(%d) = %d", why, 2*at, e)
			}
		}
		l := d.Extents()
		if len(l) != n || d.Size() != most-1 {
			t.Fatalf("%s: %d extents, Size %d", why, len(l), d.Size())
		}
		for i, x := range l {
			if x.At != 2*i || len(x.Bytes) != 1 || x.Bytes[0] != byte(1+i%255) {
				t.Fatalf("%s: the extent %d: %s", why, i, list(l[i:]))
			}
		}
		if e := d.Write(1, some(most-3)); e != api.OK {
			t.Fatalf("%s: Write over them = %d", why, e)
		}
		want := slices.Concat([]byte{1}, some(most-3), []byte{byte(1 + (n-1)%255)})
		if got := d.Extents(); !same(got, []api.Extent{{At: 0, Bytes: want}}) {
			t.Fatalf("%s: behind it %s", why, list(got))
		}
	}
}

// P14.2, P14.3: bytes that come one by one are one extent, in whatever order.
func TestByteByByte(t *testing.T) {
	const n = 3000
	for why, place := range map[string]func(i int) int{
		"from the first on": func(i int) int { return i },
		"from the last on":  func(i int) int { return n - 1 - i },
		"by leaps":          func(i int) int { return i * 1777 % n },
	} {
		d, p := extent.New(), &plain{}
		for i := range n {
			act{at: place(i), b: some(n)[place(i) : place(i)+1]}.does(t, why, d, p)
			if i%500 == 0 {
				stands(t, why, d, p)
			}
		}
		if got := d.Extents(); !same(got, []api.Extent{{At: 0, Bytes: some(n)}}) {
			t.Errorf("%s: %s", why, list(got))
		}
	}
}
