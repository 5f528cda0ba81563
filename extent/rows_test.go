package extent_test

import (
	"bytes"
	"fmt"
	"math/rand"
	"testing"

	"refectory/api"
	"refectory/extent"
)

// lawful tells what is wrong of a file's extents by the chapter's words alone: that they rise, have a byte each, do not meet or touch, stand within the size, and have what is read there; what is in none of them is 0.
func lawful(d *extent.Data) string {
	all, e := d.Read(0, most)
	if d.Size() == 0 && e == api.ErrEnd {
		e = api.OK
	}
	if e != api.OK || len(all) != d.Size() {
		return fmt.Sprint("of ", d.Size(), " bytes ", len(all), " are read, error ", int(e))
	}
	behind := -1
	for i, x := range d.Extents() {
		switch end := x.At + len(x.Bytes); {
		case len(x.Bytes) == 0:
			return fmt.Sprint("the extent ", i, " has no byte")
		case x.At <= behind:
			return fmt.Sprint("the extent ", i, " is not behind the one ahead of it")
		case end > d.Size():
			return fmt.Sprint("the extent ", i, " goes beyond the size")
		case !bytes.Equal(all[x.At:end], x.Bytes):
			return fmt.Sprint("the extent ", i, " has not what is read there")
		default:
			clear(all[x.At:end])
			behind = end
		}
	}
	if i := bytes.IndexFunc(all, func(r rune) bool { return r != 0 }); i >= 0 {
		return fmt.Sprint("the byte ", i, " is in no extent, and is not 0")
	}
	return ""
}

// smallActs are the writes of up to 3 bytes, and the cuts, within 7 bytes.
func smallActs() []act {
	var l []act
	for size := range 8 {
		l = append(l, cut(size))
	}
	for _, s := range []string{"a", "bc", "def", "0"} {
		for at := range 8 - len(s) {
			l = append(l, write(at, s))
		}
	}
	return l
}

// turned is an act whose bytes are others, so that those of the act number i differ from all others.
func turned(a act, i int) act {
	b := bytes.Clone(a.b)
	for j := range b {
		if b[j] != 0 {
			b[j] += byte(6 * i)
		}
	}
	a.b = b
	return a
}

// P14.1 to P14.4: each row of up to three small acts, and each Read behind it.
func TestEachRow(t *testing.T) {
	acts := smallActs()
	var deeper func(done []act)
	deeper = func(done []act) {
		d, p := extent.New(), &plain{}
		for _, a := range done {
			a.does(t, done, d, p)
		}
		stands(t, done, d, p)
		if wrong := lawful(d); wrong != "" {
			t.Fatalf("%v: %s: %s", done, told(d), wrong)
		}
		for at := range 8 {
			for n := range 9 - at {
				reads(t, done, d, p, at, n)
			}
		}
		if len(done) < 3 {
			for _, a := range acts {
				deeper(append(done[:len(done):len(done)], turned(a, len(done))))
			}
		}
	}
	deeper(nil)
}

// drawn is an act, of bytes and places up to a size, now and then behind it.
func drawn(r *rand.Rand, size int) act {
	switch r.Intn(8) {
	case 0:
		return cut(r.Intn(size + 1))
	case 1:
		return act{at: r.Intn(size + 9), b: make([]byte, r.Intn(9))}
	case 2:
		// A place or a number that may not be.
		return act{cuts: r.Intn(2) == 0, at: r.Intn(size) - size, b: some(r.Intn(5))}
	case 3:
		return act{at: r.Intn(most + 9), b: nil}
	}
	n := r.Intn(1 + r.Intn(1+r.Intn(1+size/4)))
	b := make([]byte, n)
	r.Read(b)
	return act{at: r.Intn(size), b: b}
}

// P14.4: files of many acts, drawn, read as plain bytes do that are written and cut in the same way; the acts that are refused are among them.
func TestDrawn(t *testing.T) {
	for _, c := range []struct{ seed, size, acts int }{{1, 8, 4000}, {2, 30, 4000}, {3, 200, 3000}, {4, 3000, 1500}, {5, most, 300}, {6, most, 300}} {
		r := rand.New(rand.NewSource(int64(c.seed)))
		d, p := extent.New(), &plain{}
		for i := range c.acts {
			a := drawn(r, c.size)
			why := fmt.Sprint("seed ", c.seed, ", act ", i, ", ", a)
			a.does(t, why, d, p)
			stands(t, why, d, p)
			for range 6 {
				reads(t, why, d, p, r.Intn(c.size+2), r.Intn(c.size+2))
			}
			if wrong := lawful(d); wrong != "" {
				t.Fatalf("%s: %s: %s", why, told(d), wrong)
			}
		}
	}
}

// P14.4: what a Write lays is read at once, and no other byte has changed.
func TestNothingElse(t *testing.T) {
	r := rand.New(rand.NewSource(7))
	for why, acts := range files() {
		for range 60 {
			d := made(acts...)
			size := d.Size()
			at, n := r.Intn(size+9), 1+r.Intn(20)
			if at+n > most {
				continue
			}
			before, _ := d.Read(0, most)
			b := make([]byte, n)
			r.Read(b)
			if e := d.Write(at, b); e != api.OK {
				t.Fatalf("%s: Write(%d) of %d = %d", why, at, n, e)
			}
			want := append(before, make([]byte, max(size, at+n)-size)...)
			copy(want[at:], b)
			if got, _ := d.Read(0, most); !bytes.Equal(got, want) {
				t.Fatalf("%s: Write(%d, %x): %s, want %s", why, at, b, short(got), short(want))
			}
		}
	}
}
