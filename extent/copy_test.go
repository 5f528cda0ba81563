package extent_test

import (
	"fmt"
	"slices"
	"testing"

	"refectory/api"
	"refectory/extent"
)

// P14.3: a Copy stands as the file does, and is another one.
func TestCopy(t *testing.T) {
	for why, acts := range files() {
		d, p := extent.New(), &plain{}
		for _, a := range acts {
			a.does(t, why, d, p)
		}
		c := d.Copy()
		if c == nil || c == d {
			t.Fatalf("%s: Copy = %p of %p", why, c, d)
		}
		stands(t, why, c, p)
		stands(t, why, d, p)
		again := c.Copy()
		if again == nil || again == c || again == d {
			t.Fatalf("%s: Copy of a Copy = %p of %p of %p", why, again, c, d)
		}
		stands(t, why, again, p)
	}
}

// twin is a copy of plain bytes.
func (p *plain) twin() *plain {
	return &plain{slices.Clone(p.b), slices.Clone(p.written)}
}

// P14.3: a Copy goes its own way, and so does the file: whatever is done to the one, the other stands as it did.
func TestCopyGoes(t *testing.T) {
	for why, acts := range files() {
		for _, pair := range pairs() {
			d, p := extent.New(), &plain{}
			for _, a := range acts {
				a.does(t, why, d, p)
			}
			c, q := d.Copy(), p.twin()
			told := fmt.Sprint(why, pair)
			pair[0].does(t, told, d, p)
			stands(t, told, c, q)
			pair[1].does(t, told, c, q)
			stands(t, told, d, p)
			pair[1].does(t, told, d, p)
			pair[0].does(t, told, c, q)
			stands(t, told, c, q)
			stands(t, told, d, p)
		}
	}
}

// P14.3, rule 5: what the Copy answers may turn without the file, and the other way round.
func TestCopyAnswers(t *testing.T) {
	for why, acts := range files() {
		d, p := extent.New(), &plain{}
		for _, a := range acts {
			a.does(t, why, d, p)
		}
		c := d.Copy()
		for _, one := range []*extent.Data{d, c} {
			b, _ := one.Read(0, most)
			spoil(b)
			spoilAll(one.Extents())
			stands(t, why, d, p)
			stands(t, why, c, p)
		}
	}
}

// P14.3: a Copy of a cut file does not have what was cut off, nor does it lay it bare when either grows.
func TestCopyOfCut(t *testing.T) {
	for size := range 9 {
		d, p := extent.New(), &plain{}
		write(0, "abcdefgh").does(t, size, d, p)
		before, q := d.Copy(), p.twin()
		cut(size).does(t, size, d, p)
		c, r := d.Copy(), p.twin()
		cut(8).does(t, size, d, p)
		write(9, "x").does(t, size, c, r)
		stands(t, size, d, p)
		stands(t, size, c, r)
		stands(t, size, before, q)
	}
}

// Rule 5: two files share nothing, also where the same bytes are written to both, and by turns.
func TestTwoFiles(t *testing.T) {
	for why, acts := range files() {
		for _, pair := range pairs() {
			told := fmt.Sprint(why, pair)
			one, p := extent.New(), &plain{}
			two, q := extent.New(), &plain{}
			for _, a := range acts {
				a.does(t, told, one, p)
				a.does(t, told, two, q)
			}
			pair[0].does(t, told, one, p)
			stands(t, told, two, q)
			pair[1].does(t, told, two, q)
			stands(t, told, one, p)
			spoilAll(one.Extents())
			b, _ := one.Read(0, most)
			spoil(b)
			stands(t, told, two, q)
			stands(t, told, one, p)
		}
	}
	if d := extent.New(); d.Size() != 0 || len(d.Extents()) != 0 || d == extent.New() {
		t.Errorf("a new one behind all these: %s", told(d))
	}
	if e := made().Write(0, nil); e != api.OK {
		t.Errorf("Write of no bytes to a new one = %d", e)
	}
}
