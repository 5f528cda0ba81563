package extent_test

import (
	"testing"

	"refectory/extent"
)

// P14.2, P14.3: cuts at each place that differs, of a file with two extents.
func TestCut(t *testing.T) {
	rows(t, []act{write(3, "abcd"), write(10, "efg"), cut(16)}, []row{
		{[]act{cut(16)}, "16: 3 abcd, 10 efg"},
		{[]act{cut(17)}, "17: 3 abcd, 10 efg"},
		{[]act{cut(100)}, "100: 3 abcd, 10 efg"},
		{[]act{cut(most - 1)}, "65535: 3 abcd, 10 efg"},
		{[]act{cut(most)}, "65536: 3 abcd, 10 efg"},
		{[]act{cut(15)}, "15: 3 abcd, 10 efg"},
		{[]act{cut(14)}, "14: 3 abcd, 10 efg"},
		{[]act{cut(13)}, "13: 3 abcd, 10 efg"},
		{[]act{cut(12)}, "12: 3 abcd, 10 ef"},
		{[]act{cut(11)}, "11: 3 abcd, 10 e"},
		{[]act{cut(10)}, "10: 3 abcd"},
		{[]act{cut(9)}, "9: 3 abcd"},
		{[]act{cut(8)}, "8: 3 abcd"},
		{[]act{cut(7)}, "7: 3 abcd"},
		{[]act{cut(6)}, "6: 3 abc"},
		{[]act{cut(5)}, "5: 3 ab"},
		{[]act{cut(4)}, "4: 3 a"},
		{[]act{cut(3)}, "3: "},
		{[]act{cut(2)}, "2: "},
		{[]act{cut(1)}, "1: "},
		{[]act{cut(0)}, "0: "},
		{[]act{cut(12), cut(6), cut(4)}, "4: 3 a"},
		{[]act{cut(12), cut(6), cut(5), cut(4), cut(3), cut(2)}, "2: "},
	})
}

// P14.2, P14.3: cuts of a file in which nothing was written, and of one that is all written.
func TestCutOthers(t *testing.T) {
	rows(t, nil, []row{
		{[]act{cut(0)}, "0: "},
		{[]act{cut(1)}, "1: "},
		{[]act{cut(5), cut(2)}, "2: "},
		{[]act{cut(5), cut(5)}, "5: "},
		{[]act{cut(most)}, "65536: "},
		{[]act{cut(most), cut(0)}, "0: "},
		{[]act{write(0, "abc"), cut(3)}, "3: 0 abc"},
		{[]act{write(0, "abc"), cut(1)}, "1: 0 a"},
		{[]act{write(0, "abc"), cut(0)}, "0: "},
		{[]act{write(0, "000"), cut(1)}, "1: 0 0"},
		{[]act{write(0, "a"), write(2, "b"), write(4, "c"), write(6, "d"), cut(4)}, "4: 0 a, 2 b"},
		{[]act{write(0, "a"), write(2, "b"), write(4, "c"), write(6, "d"), cut(5)}, "5: 0 a, 2 b, 4 c"},
		{[]act{write(0, "a"), write(2, "b"), write(4, "c"), write(6, "d"), cut(1)}, "1: 0 a"},
	})
}

// P14.4: what is cut off, and grown again, is 0, and is in no extent: by Cut and by Write, at each place that differs.
func TestGrownAgain(t *testing.T) {
	rows(t, []act{write(2, "abcdef"), write(10, "ghi"), cut(14)}, []row{
		{[]act{cut(5), cut(14)}, "14: 2 abc"},
		{[]act{cut(5), cut(6)}, "6: 2 abc"},
		{[]act{cut(5), cut(8), cut(14)}, "14: 2 abc"},
		{[]act{cut(2), cut(14)}, "14: "},
		{[]act{cut(0), cut(14)}, "14: "},
		{[]act{cut(0), cut(most)}, "65536: "},
		{[]act{cut(11), cut(14)}, "14: 2 abcdef, 10 g"},
		{[]act{cut(9), cut(14)}, "14: 2 abcdef"},
		{[]act{cut(8), cut(14)}, "14: 2 abcdef"},
		{[]act{cut(10), cut(13)}, "13: 2 abcdef"},
		{[]act{cut(5), write(5, "x")}, "6: 2 abcx"},
		{[]act{cut(5), write(5, "x"), cut(8)}, "8: 2 abcx"},
		{[]act{cut(5), write(6, "x")}, "7: 2 abc, 6 x"},
		{[]act{cut(5), write(7, "x")}, "8: 2 abc, 7 x"},
		{[]act{cut(5), write(13, "x")}, "14: 2 abc, 13 x"},
		{[]act{cut(5), write(4, "xy")}, "6: 2 abxy"},
		{[]act{cut(5), write(2, "x")}, "5: 2 xbc"},
		{[]act{cut(5), write(2, "x"), cut(8)}, "8: 2 xbc"},
		{[]act{cut(5), write(20, "")}, "5: 2 abc"},
		{[]act{cut(0), write(3, "x")}, "4: 3 x"},
		{[]act{cut(0), write(13, "x")}, "14: 13 x"},
		{[]act{cut(2), write(2, "x")}, "3: 2 x"},
		{[]act{cut(2), write(3, "x")}, "4: 3 x"},
		{[]act{cut(11), write(13, "x")}, "14: 2 abcdef, 10 g, 13 x"},
		{[]act{cut(9), write(10, "x")}, "11: 2 abcdef, 10 x"},
		{[]act{cut(8), write(8, "xy"), cut(14)}, "14: 2 abcdefxy"},
		{[]act{cut(5), cut(14), write(5, "xyz")}, "14: 2 abcxyz"},
		{[]act{cut(5), cut(14), write(6, "x")}, "14: 2 abc, 6 x"},
		{[]act{cut(5), cut(14), write(9, "x"), cut(9), cut(14)}, "14: 2 abc"},
		{[]act{cut(3), cut(14), cut(4), cut(14)}, "14: 2 a"},
	})
	d := made(act{at: 0, b: some(most)}, cut(1), cut(most))
	if b, _ := d.Read(1, most); len(b) != most-1 || string(b) != string(make([]byte, most-1)) {
		t.Errorf("a full one, cut to 1 and grown: %s", short(b))
	}
}

// P14.2, P14.4: each cut of each file, grown again to each size at an edge.
func TestEachCut(t *testing.T) {
	for why, acts := range files() {
		for _, size := range []int{0, 1, 2, 3, 4, 5, 6, 7, 8, 9, 10, 11, 12, 13, 255, 32768, most - 2, most - 1, most} {
			for _, again := range []act{cut(0), cut(9), cut(14), cut(most), write(3, "xyz"), write(8, "x"), write(20, "x"), write(most-1, "x"), write(12, "")} {
				d, p := extent.New(), &plain{}
				for _, a := range acts {
					a.does(t, why, d, p)
				}
				cut(size).does(t, why, d, p)
				again.does(t, why, d, p)
				stands(t, why, d, p)
			}
		}
	}
}
