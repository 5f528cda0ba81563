package extent_test

import (
	"bytes"
	"fmt"
	"slices"
	"testing"

	"refectory/api"
	"refectory/extent"
)

// spoil makes each byte of b, and of the room behind its end, another one.
func spoil(b []byte) {
	b = b[:cap(b)]
	for i := range b {
		b[i] ^= 0x5a
	}
}

// spoilAll spoils extents, and leaves their list, with the room behind its end, empty.
func spoilAll(l []api.Extent) {
	for _, x := range l {
		spoil(x.Bytes)
	}
	clear(l[:cap(l)])
}

// roomy tells bytes in new memory, and the whole of it, with room behind them that is not zero.
func roomy(b []byte) (own, room []byte) {
	room = slices.Concat(b, bytes.Repeat([]byte{0xee}, 24))
	return room[:len(b)], room
}

// twins are the same extents in new memory.
func twins(l []api.Extent) []api.Extent {
	own := slices.Clone(l)
	for i := range own {
		own[i].Bytes = slices.Clone(own[i].Bytes)
	}
	return own
}

// pairs are two acts each, of those that meet, touch, cut and grow.
func pairs() [][]act {
	l := []act{write(0, "ab"), write(1, "cdef"), write(2, "gh"), write(3, "i"), write(5, "jkl"), write(8, "mn"), write(4, ""), write(-1, "op"), write(most, "qr"), cut(0), cut(2), cut(4), cut(9)}
	var all [][]act
	for _, a := range l {
		for _, b := range l {
			all = append(all, []act{a, b})
		}
	}
	return all
}

// Rule 5: bytes that are written stay as they are, the room behind their end too, whatever is done to the file behind it; they may turn, and the file does not turn with them.
func TestWritten(t *testing.T) {
	for why, acts := range files() {
		for _, pair := range pairs() {
			d, p := extent.New(), &plain{}
			var rooms, befores [][]byte
			for _, a := range slices.Concat(acts, pair) {
				own, room := roomy(a.b)
				rooms, befores = append(rooms, room), append(befores, slices.Clone(room))
				a.b = own
				a.does(t, why, d, p)
			}
			for i, room := range rooms {
				if !bytes.Equal(room, befores[i]) {
					t.Fatalf("%s, %v: of %x is left %x", why, pair, befores[i], room)
				}
				spoil(room)
			}
			stands(t, fmt.Sprint(why, pair), d, p)
		}
	}
}

// Rule 5: one piece of memory, filled anew for each Write, as a caller's buffer is.
func TestOneBuffer(t *testing.T) {
	buffer := make([]byte, 7)
	d, p := extent.New(), &plain{}
	for _, at := range []int{0, 7, 20, 14, 3, 40, 33, 47, 26, 0, 50} {
		for i := range buffer {
			buffer[i] = byte(1 + at + i)
		}
		p.write(at, slices.Clone(buffer))
		if e := d.Write(at, buffer); e != api.OK {
			t.Fatalf("Write(%d) = %d", at, e)
		}
		clear(buffer)
		stands(t, at, d, p)
	}
}

// Rule 5: what was read may turn, with the room behind it: neither the file nor another answer turns with it.
func TestReadMayTurn(t *testing.T) {
	for why, acts := range files() {
		d, p := extent.New(), &plain{}
		for _, a := range acts {
			a.does(t, why, d, p)
		}
		for at := range 14 {
			for _, n := range []int{0, 1, 2, 3, 5, 14, most} {
				one, _ := d.Read(at, n)
				two, _ := d.Read(at, n)
				want, _ := p.read(at, n)
				spoil(one)
				if !bytes.Equal(two, want) {
					t.Fatalf("%s: two answers of Read(%d, %d) share", why, at, n)
				}
				spoil(two)
				reads(t, why, d, p, at, n)
			}
		}
		stands(t, why, d, p)
	}
}

// Rule 5: what was read stays as it was answered, whatever is done to the file behind it.
func TestReadStays(t *testing.T) {
	for why, acts := range files() {
		for _, pair := range pairs() {
			d := made(acts...)
			got, _ := d.Read(0, most)
			part, _ := d.Read(1, 3)
			l := d.Extents()
			before, beforePart, beforeList := slices.Clone(got), slices.Clone(part), twins(l)
			for _, a := range pair {
				a.of(d)
			}
			if !bytes.Equal(got, before) || !bytes.Equal(part, beforePart) || !same(l, beforeList) {
				t.Fatalf("%s, %v: what was answered turns with the file", why, pair)
			}
		}
	}
}

// Rule 5: extents that were told may turn, with the room behind them, and their list too: neither the file nor another answer turns with them.
func TestExtentsMayTurn(t *testing.T) {
	for why, acts := range files() {
		d, p := extent.New(), &plain{}
		for _, a := range acts {
			a.does(t, why, d, p)
		}
		one, two := d.Extents(), d.Extents()
		spoilAll(one)
		if !same(two, p.extents()) {
			t.Fatalf("%s: two answers share: %s", why, list(two))
		}
		for i := range two {
			two[i].At += 100
			two[i].Bytes = append(two[i].Bytes, 1, 2, 3, 4)
		}
		stands(t, why, d, p)
	}
}

// Rule 5: extents of one answer lie apart, each with the room behind it.
func TestExtentsLieApart(t *testing.T) {
	d := made(write(0, "a"), write(2, "bc"), write(5, "def"), write(20, "ghijklmnopqrs"), write(40, "t"), write(42, "u"), cut(43))
	want := d.Extents()
	l := d.Extents()
	for i, x := range l {
		spoil(x.Bytes)
		if !same(l[i+1:], want[i+1:]) {
			t.Fatalf("the extent %d shares with one behind it", i)
		}
	}
	for i, x := range l {
		spoil(x.Bytes)
		if !bytes.Equal(x.Bytes, want[i].Bytes) {
			t.Fatalf("the extent %d shares with another one", i)
		}
	}
}

// P14.4: what the file answered may be written to it again, elsewhere, over itself, and turn then.
func TestOwnAnswers(t *testing.T) {
	for why, acts := range files() {
		for _, at := range []int{0, 1, 3, 20} {
			d, p := extent.New(), &plain{}
			for _, a := range acts {
				a.does(t, why, d, p)
			}
			got, _ := d.Read(1, 5)
			act{at: at, b: got}.does(t, why, d, p)
			spoil(got)
			stands(t, why, d, p)
			for _, x := range d.Extents() {
				act{at: at, b: x.Bytes}.does(t, why, d, p)
				spoil(x.Bytes)
			}
			stands(t, why, d, p)
		}
	}
}
