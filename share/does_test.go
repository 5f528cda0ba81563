package share_test

import (
	"math"
	"testing"

	"refectory/api"
	"refectory/share"
)

// P17.2: each way from 0 to 6, there and not there, and the chapter's row.
func TestDoes(t *testing.T) {
	for _, c := range []struct {
		way   uint32
		there bool
		made  api.Made
		e     api.Errno
	}{
		{0, false, 0, api.ErrArg}, {0, true, 0, api.ErrArg},
		{1, false, 0, api.ErrNone}, {1, true, api.MadeOpened, api.OK},
		{2, false, api.MadeNew, api.OK}, {2, true, 0, api.ErrTwice},
		{3, false, api.MadeNew, api.OK}, {3, true, api.MadeOpened, api.OK},
		{4, false, 0, api.ErrNone}, {4, true, api.MadeCut, api.OK},
		{5, false, api.MadeNew, api.OK}, {5, true, api.MadeCut, api.OK},
		{6, false, 0, api.ErrArg}, {6, true, 0, api.ErrArg},
	} {
		// Twice: what it answers hangs on nothing that was asked ahead of it.
		for range 2 {
			if made, e := share.Does(c.way, c.there); made != c.made || e != c.e {
				t.Errorf("Does(%d, %t) = %d, %d", c.way, c.there, made, e)
			}
		}
	}
}

// P17.2: greater numbers are no ways, whatever their low bits, and that is told ahead of what is there.
func TestDoesGreat(t *testing.T) {
	none := []uint32{7, 8, 9, 10, 12, 15, 16, 255, math.MaxInt32, math.MaxUint32 - 5}
	for way := range uint32(8) {
		none = append(none, greater(way)...)
	}
	for _, way := range none {
		for _, there := range []bool{false, true} {
			if made, e := share.Does(way, there); made != 0 || e != api.ErrArg {
				t.Errorf("Does(%d, %t) = %d, %d", way, there, made, e)
			}
		}
	}
}

// P17.1, P17.2: the ways by which something may be opened are those that do something, and those that cut need the access bit 2.
func TestDoesMay(t *testing.T) {
	ways := []uint32{0, 1, 2, 3, 4, 5, 6, 7, 8, 1 << 8, 1<<8 + 1, 1 << 31, 1<<31 + 5, math.MaxUint32}
	for _, way := range ways {
		_, e := share.Does(way, true)
		if is := e != api.ErrArg; share.May(7, 0, way, 0) != is || share.May(2, 7, way, 2) != is {
			t.Errorf("May of the way %d, of which Does tells %d", way, e)
		}
		made, e := share.Does(way, true)
		if want := e != api.ErrArg && made != api.MadeCut; share.May(1, 0, way, 0) != want || share.May(5, 7, way, 1) != want {
			t.Errorf("May of the way %d, of which Does tells %d, %d", way, made, e)
		}
	}
}
