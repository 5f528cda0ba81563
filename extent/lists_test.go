package extent_test

import (
	"bytes"
	"fmt"
	"math"
	"slices"
	"strconv"
	"strings"
	"testing"

	"refectory/api"
	"refectory/extent"
)

// most is how many bytes a file may have.
const most = 65536

// some tells n bytes, none of them 0, in which no part of 255 comes again at once.
func some(n int) []byte {
	b := make([]byte, n)
	for i := range b {
		b[i] = byte(1 + (i*7+i>>8)%255)
	}
	return b
}

// plain is a file as bytes, and for each of them whether it was written, and not cut off since.
type plain struct {
	b       []byte
	written []bool
}

// write is Write of plain bytes.
func (p *plain) write(at int, b []byte) api.Errno {
	switch {
	case at < 0:
		return api.ErrArg
	case len(b) == 0:
		return api.OK
	case at > most || at+len(b) > most:
		return api.ErrLimit
	}
	for len(p.b) < at+len(b) {
		p.b, p.written = append(p.b, 0), append(p.written, false)
	}
	for i, c := range b {
		p.b[at+i], p.written[at+i] = c, true
	}
	return api.OK
}

// cut is Cut of plain bytes.
func (p *plain) cut(size int) api.Errno {
	switch {
	case size < 0:
		return api.ErrArg
	case size > most:
		return api.ErrLimit
	}
	b, written := make([]byte, size), make([]bool, size)
	copy(b, p.b)
	copy(written, p.written)
	p.b, p.written = b, written
	return api.OK
}

// read is Read of plain bytes.
func (p *plain) read(at, n int) ([]byte, api.Errno) {
	switch {
	case at < 0 || n < 0:
		return nil, api.ErrArg
	case n == 0:
		return nil, api.OK
	case at >= len(p.b):
		return nil, api.ErrEnd
	case n > len(p.b)-at:
		return p.b[at:], api.OK
	}
	return p.b[at : at+n], api.OK
}

// extents are the rows of bytes that were written, each as long as it goes.
func (p *plain) extents() []api.Extent {
	var l []api.Extent
	for i, written := range p.written {
		switch {
		case !written:
		case i > 0 && p.written[i-1]:
			last := &l[len(l)-1]
			last.Bytes = append(last.Bytes, p.b[i])
		default:
			l = append(l, api.Extent{At: i, Bytes: []byte{p.b[i]}})
		}
	}
	return l
}

// same tells whether two lists have the same extents.
func same(a, b []api.Extent) bool {
	return slices.EqualFunc(a, b, func(x, y api.Extent) bool {
		return x.At == y.At && bytes.Equal(x.Bytes, y.Bytes)
	})
}

// stands holds all that may be asked of a file against plain bytes: the size, all of it read, its extents.
func stands(t *testing.T, why any, d *extent.Data, p *plain) {
	t.Helper()
	if d.Size() != len(p.b) {
		t.Fatalf("%v: Size = %d, want %d", why, d.Size(), len(p.b))
	}
	if got := d.Extents(); !same(got, p.extents()) {
		t.Fatalf("%v: Extents = %s, want %s", why, list(got), list(p.extents()))
	}
	reads(t, why, d, p, 0, most)
}

// reads holds one Read against plain bytes.
func reads(t *testing.T, why any, d *extent.Data, p *plain, at, n int) {
	t.Helper()
	got, e := d.Read(at, n)
	want, f := p.read(at, n)
	if e != f || !bytes.Equal(got, want) {
		t.Fatalf("%v: Read(%d, %d) = %s, %d, want %s, %d", why, at, n, short(got), e, short(want), f)
	}
}

// told tells a file's size and its extents, such as 4: 2 ab; a byte 0 is told as the digit.
func told(d *extent.Data) string {
	return fmt.Sprint(d.Size(), ": ", list(d.Extents()))
}

// list tells extents, or the first of many.
func list(l []api.Extent) string {
	s := ""
	for i, x := range l {
		switch {
		case i == 8:
			return fmt.Sprint(s, ", .. (", len(l), ")")
		case i > 0:
			s += ", "
		}
		s += fmt.Sprint(x.At, " ", short(x.Bytes))
	}
	return s
}

// short tells bytes, or the first of many, as letters; a byte 0 is told as the digit.
func short(b []byte) string {
	if len(b) > 40 {
		return fmt.Sprint(short(b[:40]), ".. (", len(b), ")")
	}
	return strings.Trim(strconv.QuoteToASCII(string(bytes.ReplaceAll(b, []byte{0}, []byte("0")))), `"`)
}

// act is what is done to a file: b is written at a place, or, where cuts is true, it is cut to the size at.
type act struct {
	cuts bool
	at   int
	b    []byte
}

// String tells an act.
func (a act) String() string {
	if a.cuts {
		return fmt.Sprintf("Cut(%d)", a.at)
	}
	return fmt.Sprintf("Write(%d, %s)", a.at, short(a.b))
}

// write is a Write of a text, in which the digit 0 is a byte 0.
func write(at int, s string) act {
	return act{at: at, b: bytes.ReplaceAll([]byte(s), []byte("0"), []byte{0})}
}

// cut is a Cut.
func cut(size int) act {
	return act{cuts: true, at: size}
}

// of does an act to a file.
func (a act) of(d *extent.Data) api.Errno {
	if a.cuts {
		return d.Cut(a.at)
	}
	return d.Write(a.at, a.b)
}

// does does an act to a file and to plain bytes, and holds the answers against each other.
func (a act) does(t *testing.T, why any, d *extent.Data, p *plain) {
	t.Helper()
	var want api.Errno
	if a.cuts {
		want = p.cut(a.at)
	} else {
		want = p.write(a.at, a.b)
	}
	if e := a.of(d); e != want {
		t.Fatalf("%v: %v = %d, want %d", why, a, e, want)
	}
}

// made tells a new file to which acts were done, none of which is refused.
func made(acts ...act) *extent.Data {
	d := extent.New()
	for _, a := range acts {
		if e := a.of(d); e != api.OK {
			panic(fmt.Sprint(a, " is refused: ", e))
		}
	}
	return d
}

// row is acts, and what a file is told as behind them.
type row struct {
	acts []act
	want string
}

// rows does each row's acts to the file that these first ones make.
func rows(t *testing.T, first []act, l []row) {
	t.Helper()
	for _, r := range l {
		d, p := extent.New(), &plain{}
		for _, a := range slices.Concat(first, r.acts) {
			a.does(t, r.acts, d, p)
		}
		if told(d) != r.want {
			t.Errorf("%v: %s, want %s", r.acts, told(d), r.want)
		}
		stands(t, r.acts, d, p)
	}
}

// files are such as a test may ask each thing of: with no bytes, with some that were written and some that were not, full ones.
func files() map[string][]act {
	return map[string][]act{
		"of no bytes":         nil,
		"of no bytes again":   {write(0, "abc"), cut(0)},
		"of one byte":         {write(0, "a")},
		"none written":        {cut(9)},
		"one extent":          {write(0, "abcdef")},
		"two":                 {write(2, "ab"), write(6, "cde"), cut(12)},
		"many":                {write(1, "a"), write(3, "b"), write(5, "c"), write(7, "d"), write(9, "e"), write(11, "f")},
		"grown again":         {write(0, "abcdefgh"), cut(3), cut(8), write(6, "x")},
		"full":                {{at: 0, b: some(most)}},
		"full, none written":  {cut(most)},
		"full, the last byte": {write(most-1, "z")},
	}
}

// far are places, sizes and numbers that are very great, or below 0.
func far() (great, below []int) {
	great = []int{most + 1, most + 2, 1 << 17, 1<<31 - 1, 1 << 31, 1<<32 - 1, 1 << 32, 1<<32 + 1, 1 << 62, math.MaxInt - most, math.MaxInt - 3, math.MaxInt - 1, math.MaxInt}
	below = []int{-1, -2, -9, -most, -most - 1, -1 << 31, -1 << 32, -math.MaxInt, math.MinInt + 1, math.MinInt}
	return great, below
}

// P14.1, P14.2, P14.3: the chapter's examples, and the document's.
func TestExamples(t *testing.T) {
	d := extent.New()
	if e := d.Write(2, []byte("ab")); e != api.OK {
		t.Errorf("Write(2, ab) = %d", e)
	}
	if b, e := d.Read(0, 9); string(b) != "\x00\x00ab" || e != api.OK {
		t.Errorf("Read(0, 9) = %q, %d", b, e)
	}
	if b, e := d.Read(4, 1); len(b) != 0 || e != api.ErrEnd {
		t.Errorf("Read(4, 1) = %q, %d", b, e)
	}
	if b, e := d.Read(4, 0); len(b) != 0 || e != api.OK {
		t.Errorf("Read(4, 0) = %q, %d", b, e)
	}
	if told(d) != "4: 2 ab" {
		t.Errorf("behind Write(2, ab): %s", told(d))
	}
	if e := d.Write(4, []byte("c")); e != api.OK || told(d) != "5: 2 abc" {
		t.Errorf("Write(4, c) = %d: %s", e, told(d))
	}
	if e := d.Cut(3); e != api.OK || told(d) != "3: 2 a" {
		t.Errorf("Cut(3) = %d: %s", e, told(d))
	}
	if e := d.Cut(5); e != api.OK || told(d) != "5: 2 a" {
		t.Errorf("Cut(5) = %d: %s", e, told(d))
	}
	if b, e := d.Read(0, 9); string(b) != "\x00\x00a\x00\x00" || e != api.OK {
		t.Errorf("Read(0, 9) = %q, %d", b, e)
	}
}
