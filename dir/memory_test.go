package dir_test

import (
	"fmt"
	"slices"
	"testing"
	"unsafe"

	"refectory/api"
	"refectory/dir"
)

// loose tells a text whose letters are those bytes: they may turn, as no text's do that the language made.
func loose(b []byte) string {
	return unsafe.String(unsafe.SliceData(b), len(b))
}

// spoil makes each byte another one.
func spoil(b []byte) {
	for i := range b {
		b[i] ^= 0x15
	}
}

// shared tells whether two texts have bytes in common, in memory.
func shared(a, b string) bool {
	from, with := uintptr(unsafe.Pointer(unsafe.StringData(a))), uintptr(unsafe.Pointer(unsafe.StringData(b)))
	return from < with+uintptr(len(b)) && with < from+uintptr(len(a))
}

// Rule 5: names that are handed in stay as they are, and are not kept: the directory does not turn with them.
func TestHandedIn(t *testing.T) {
	for why, acts := range dirs() {
		d, p := dir.New(), &plain{}
		for _, a := range append(acts, rename("a", "t0"), add("New", 3), rename("new", "NEW"), add("older", 4), remove("OLDER")) {
			name, to := []byte(a.name), []byte(a.to)
			given := a
			given.name, given.to = loose(name), loose(to)
			want := a.ofPlain(p)
			if e := given.of(d); e != want {
				t.Fatalf("%s: %v = %d, want %d", why, a, e, want)
			}
			if string(name) != a.name || string(to) != a.to {
				t.Fatalf("%s: %v leaves %q, %q", why, a, name, to)
			}
			spoil(name)
			spoil(to)
			stands(t, why, d, p)
		}
	}
}

// Rule 5: what List and Find are handed stays as it is, and what they answer does not turn with it.
func TestAsked(t *testing.T) {
	d, p := grown(t, "", dirs()["many"])
	for _, pattern := range []string{"*", "A*", "aa", "?"} {
		for _, after := range []string{"", "a", "Q"} {
			b, c := []byte(pattern), []byte(after)
			got, _, _ := d.List(loose(b), loose(c), 99)
			if string(b) != pattern || string(c) != after {
				t.Fatalf("List(%s, %s) leaves %q, %q", pattern, after, b, c)
			}
			spoil(b)
			spoil(c)
			if want, _, _ := p.list(pattern, after, 99); !slices.Equal(got, want) {
				t.Fatalf("List(%s, %s) = %q, want %q", pattern, after, got, want)
			}
		}
	}
	for _, name := range []string{"AB", "ab", "É", "m"} {
		b := []byte(name)
		_, own, _ := d.Find(loose(b))
		if string(b) != name {
			t.Fatalf("Find(%s) leaves %q", name, b)
		}
		spoil(b)
		if _, want, _ := p.find(name); own != want {
			t.Fatalf("Find(%s) = %q, want %q", name, own, want)
		}
	}
	stands(t, "", d, p)
}

// Rule 5: a list that was told may turn, with the room behind its end: neither the directory nor another answer turns with it.
func TestListMayTurn(t *testing.T) {
	for why, acts := range dirs() {
		d, p := grown(t, why, acts)
		for most := range d.Len() + 2 {
			for _, pattern := range []string{"*", "a*", "?"} {
				one, _, _ := d.List(pattern, "", most)
				two, _, _ := d.List(pattern, "", most)
				want, _, _ := p.list(pattern, "", most)
				for i := range one[:cap(one)] {
					one[:cap(one)][i] = "turned"
				}
				if !slices.Equal(two, want) {
					t.Fatalf("%s: two answers share", why)
				}
				two = append(two, "more")
				two[0] = "turned, too"
				stands(t, why, d, p)
			}
		}
	}
}

// Rule 5: what was told stays as it was answered, whatever is done to the directory behind it.
func TestToldStays(t *testing.T) {
	for why, acts := range dirs() {
		for _, a := range slices.Concat(smallActs(), []act{rename("ab", "0"), remove("AA"), rename("m", "M"), rename("x", "y")}) {
			d, p := grown(t, why, acts)
			l, _, _ := d.List("*", "", 99)
			part, _, _ := d.List("*", "a", 2)
			_, own, _ := d.Find("b")
			a.of(d)
			want, _, _ := p.list("*", "", 99)
			wantPart, _, _ := p.list("*", "a", 2)
			_, wantOwn, _ := p.find("b")
			if !slices.Equal(l, want) || !slices.Equal(part, wantPart) || own != wantOwn {
				t.Fatalf("%s, %v: what was told turns with the directory", why, a)
			}
		}
	}
}

// Rule 5: texts that are answered are new memory, each of them: they share no letters with what was handed in, nor with each other.
func TestNewMemory(t *testing.T) {
	given := []string{"first name", "Second name", "third"}
	asked := []string{"FIRST name", "second NAME", "THIRD"}
	d := of(given...)
	all := slices.Concat(given, asked)
	for range 2 {
		for _, name := range asked {
			_, own, _ := d.Find(name)
			all = append(all, own)
		}
		for _, pattern := range append(asked, "*") {
			l, _, _ := d.List(pattern, "", 9)
			all = append(all, l...)
		}
	}
	if len(all) != 24 {
		t.Fatalf("%d texts: %q", len(all), all)
	}
	for i, s := range all {
		for _, z := range all[i+1:] {
			if shared(s, z) {
				t.Errorf("%q and %q share their letters", s, z)
			}
		}
	}
}

// Rule 5: two directories share nothing, also where the same names are given to both, and by turns.
func TestTwoDirs(t *testing.T) {
	for why, acts := range dirs() {
		for _, a := range smallActs() {
			for _, b := range []act{add("b", 5), remove("B"), rename("a", "A"), rename("b", "n")} {
				told := fmt.Sprint(why, ", ", a, ", ", b)
				one, p := dir.New(), &plain{}
				two, q := dir.New(), &plain{}
				for _, x := range acts {
					x.does(t, told, one, p)
					x.does(t, told, two, q)
				}
				a.does(t, told, one, p)
				stands(t, told, two, q)
				b.does(t, told, two, q)
				stands(t, told, one, p)
				stands(t, told, two, q)
			}
		}
	}
	if d := dir.New(); d.Len() != 0 || d == dir.New() {
		t.Errorf("a new one behind all these has %d names", d.Len())
	}
	if l, more, e := dir.New().List("*", "", 9); len(l) != 0 || more || e != api.OK {
		t.Errorf("a new one behind all these tells %q, %v, %d", l, more, e)
	}
}
