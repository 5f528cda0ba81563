package dir_test

import (
	"math"
	"strings"
	"testing"

	"refectory/api"
	"refectory/dir"
)

// P15.1: Find tells the number, and the name as it was given, by whatever letters it is asked for.
func TestFind(t *testing.T) {
	for _, c := range []struct{ own, asked string }{
		{"b", "b"}, {"b", "B"}, {"B", "b"}, {"B", "B"},
		{"Readme.TXT", "README.txt"}, {"Readme.TXT", "readme.txt"}, {"Readme.TXT", "rEADME.tXT"}, {"Readme.TXT", "Readme.TXT"},
		{"aZ", "Az"}, {"AZ", "az"}, {"az", "AZ"},
		{"AbÉ", "aBÉ"}, {"abé", "ABé"}, {"Ж1", "Ж1"}, {"\U00010348A", "\U00010348a"}, {"\ufffdA", "\ufffda"},
		{"a\x00B", "A\x00b"}, {" ", " "}, {"*?A", "*?a"}, {`a\B`, `A\b`}, {"a.", "A."},
	} {
		d := made(add("0", 5), add(c.own, 7), add("zz", 9))
		if n, own, e := d.Find(c.asked); n != 7 || own != c.own || e != api.OK {
			t.Errorf("of %q: Find(%q) = %d, %q, %d", c.own, c.asked, n, own, e)
		}
		if n, own, e := d.Find(c.own); n != 7 || own != c.own || e != api.OK {
			t.Errorf("of %q: Find(%q) = %d, %q, %d", c.own, c.own, n, own, e)
		}
	}
}

// unlike are pairs of names that are not alike: letters beyond a byte and beyond a to z have no great ones here, one letter differs, one name is the beginning of another.
func unlike() [][2]string {
	return [][2]string{
		{"a", "b"}, {"ab", "ac"}, {"ab", "bb"}, {"abc", "abd"}, {"abc", "axc"}, {"a", "ab"}, {"ab", "a"}, {"ab", "b"}, {"aa", "a"}, {"a", "a "}, {"a", " a"}, {"a", "a\x00"}, {"a.b", "a_b"},
		{"é", "É"}, {"ж", "Ж"}, {"σ", "Σ"}, {"σ", "ς"}, {"k", "\u212a"}, {"K", "\u212a"}, {"s", "\u017f"}, {"S", "\u017f"}, {"i", "\u0130"}, {"I", "\u0131"}, {"å", "\u212b"}, {"ａ", "Ａ"}, {"a", "ａ"}, {"é", "e\u0301"}, {"ß", "ss"},
		{"[", "{"}, {"@", "`"}, {"]", "}"}, {"^", "~"}, {"\\", "|"}, {"_", "\x7f"}, {"0", "P"}, {"\U00010400", "\U00010428"}, {"\ufffd", "\U00010348"}, {"\u0100", "\x01"}, {"\u0161", "a"}, {"\u0141", "A"},
		{"*", "a"}, {"?", "a"}, {"a*", "ab"}, {"*", "?"}, {"\ufffd", "?"},
	}
}

// P15.1: names that are not alike stand beside each other, and none is found, removed or renamed for the other.
func TestUnlike(t *testing.T) {
	for _, c := range unlike() {
		for _, pair := range [][2]string{{c[0], c[1]}, {c[1], c[0]}} {
			one, two := pair[0], pair[1]
			for _, acts := range [][]act{
				{add(one, 1)},
				{add(one, 1), add(two, 2)},
				{add(one, 1), remove(two)},
				{add(one, 1), rename(two, one)},
				{add(one, 1), rename(two, "q")},
				{add(one, 1), rename(one, two)},
				{add(one, 1), add(two, 2), remove(one)},
				{add(one, 1), add(two, 2), rename(one, two)},
				{add(one, 1), add(two, 2), rename(one, "q"), rename(two, one)},
			} {
				d, p := grown(t, acts, acts)
				finds(t, acts, d, p, one)
				finds(t, acts, d, p, two)
				stands(t, acts, d, p)
			}
			if e := of(one).Add(two, 2); e != api.OK {
				t.Errorf("Add(%q) beside %q = %d", two, one, e)
			}
			if n, own, e := of(one).Find(two); n != 0 || own != "" || e != api.ErrNone {
				t.Errorf("of %q: Find(%q) = %d, %q, %d", one, two, n, own, e)
			}
		}
	}
}

// P15.1: each letter below 300 is alike to itself, and A to Z to a to z; no two others are.
func TestEachLetter(t *testing.T) {
	for a := range rune(300) {
		d := of("x" + string(a))
		for b := range rune(300) {
			want := api.ErrNone
			if a == b || max(a, b) == min(a, b)+32 && min(a, b) >= 'A' && min(a, b) <= 'Z' {
				want = api.OK
			}
			if _, _, e := d.Find("X" + string(b)); e != want {
				t.Errorf("of x%q: Find(X%q) = %d, want %d", a, b, e, want)
			}
		}
	}
}

// P15.1: a name is added at the beginning, in the midst and at the end of the order.
func TestAdd(t *testing.T) {
	rows(t, nil, []row{
		{add("a", 1), api.OK, "a=1"},
		{add("A", 1), api.OK, "A=1"},
		{add(" ", 1), api.OK, " =1"},
		{add("*", 1), api.OK, "*=1"},
		{add("é", 1), api.OK, "é=1"},
	})
	rows(t, []act{add("Mb", 1), add("d", 2), add("T", 3)}, []row{
		{add("a", 4), api.OK, "a=4 d=2 Mb=1 T=3"},
		{add("A", 4), api.OK, "A=4 d=2 Mb=1 T=3"},
		{add("_", 4), api.OK, "_=4 d=2 Mb=1 T=3"},
		{add("Z", 4), api.OK, "d=2 Mb=1 T=3 Z=4"},
		{add("[", 4), api.OK, "[=4 d=2 Mb=1 T=3"},
		{add("{", 4), api.OK, "d=2 Mb=1 T=3 {=4"},
		{add("D ", 4), api.OK, "d=2 D =4 Mb=1 T=3"},
		{add("c", 4), api.OK, "c=4 d=2 Mb=1 T=3"},
		{add("E", 4), api.OK, "d=2 E=4 Mb=1 T=3"},
		{add("m", 4), api.OK, "d=2 m=4 Mb=1 T=3"},
		{add("MA", 4), api.OK, "d=2 MA=4 Mb=1 T=3"},
		{add("mbA", 4), api.OK, "d=2 Mb=1 mbA=4 T=3"},
		{add("mC", 4), api.OK, "d=2 Mb=1 mC=4 T=3"},
		{add("s", 4), api.OK, "d=2 Mb=1 s=4 T=3"},
		{add("t0", 4), api.OK, "d=2 Mb=1 T=3 t0=4"},
		{add("u", 4), api.OK, "d=2 Mb=1 T=3 u=4"},
		{add("é", 4), api.OK, "d=2 Mb=1 T=3 é=4"},
		{add("d", 4), api.ErrTwice, "d=2 Mb=1 T=3"},
		{add("D", 4), api.ErrTwice, "d=2 Mb=1 T=3"},
		{add("mb", 4), api.ErrTwice, "d=2 Mb=1 T=3"},
		{add("MB", 4), api.ErrTwice, "d=2 Mb=1 T=3"},
		{add("mB", 4), api.ErrTwice, "d=2 Mb=1 T=3"},
		{add("t", 3), api.ErrTwice, "d=2 Mb=1 T=3"},
	})
}

// P15.1: numbers are as they were given; two names may have the same one.
func TestNumbers(t *testing.T) {
	l := []int{0, 1, -1, 2, 255, 256, -256, 1<<31 - 1, 1 << 31, -1 << 31, 1 << 32, 1<<32 + 1, 1 << 62, math.MaxInt - 1, math.MaxInt, math.MinInt + 1, math.MinInt}
	for _, n := range l {
		for _, m := range l {
			d, p := grown(t, n, []act{add("b", n), add("a", m), add("C", n)})
			stands(t, n, d, p)
			for _, a := range []act{rename("A", "x"), rename("b", "0"), remove("c"), rename("x", "B"), rename("0", "C"), rename("c", "c")} {
				a.does(t, n, d, p)
				stands(t, a, d, p)
			}
			if n1, _, _ := d.Find("c"); n1 != n {
				t.Errorf("the number %d is %d", n, n1)
			}
		}
	}
}

// P15.1: names are removed: the only one, the first, one in the midst, the last; none is that is not there.
func TestRemove(t *testing.T) {
	rows(t, []act{add("B", 1)}, []row{
		{remove("b"), api.OK, ""},
		{remove("B"), api.OK, ""},
		{remove("a"), api.ErrNone, "B=1"},
		{remove("c"), api.ErrNone, "B=1"},
		{remove("bb"), api.ErrNone, "B=1"},
	})
	rows(t, nil, []row{{remove("a"), api.ErrNone, ""}, {remove("*"), api.ErrNone, ""}})
	rows(t, []act{add("m", 1), add("B", 2), add("x", 3), add("Q", 4), add("mm", 5)}, []row{
		{remove("b"), api.OK, "m=1 mm=5 Q=4 x=3"},
		{remove("M"), api.OK, "B=2 mm=5 Q=4 x=3"},
		{remove("MM"), api.OK, "B=2 m=1 Q=4 x=3"},
		{remove("q"), api.OK, "B=2 m=1 mm=5 x=3"},
		{remove("X"), api.OK, "B=2 m=1 mm=5 Q=4"},
		{remove("a"), api.ErrNone, "B=2 m=1 mm=5 Q=4 x=3"},
		{remove("mmm"), api.ErrNone, "B=2 m=1 mm=5 Q=4 x=3"},
		{remove("z"), api.ErrNone, "B=2 m=1 mm=5 Q=4 x=3"},
		{remove("*"), api.ErrNone, "B=2 m=1 mm=5 Q=4 x=3"},
		{remove("?"), api.ErrNone, "B=2 m=1 mm=5 Q=4 x=3"},
	})
}

// P15.1, P15.3: a name that was removed is not there, and is not removed again; it may be added again, by other letters, with another number.
func TestRemoveAgain(t *testing.T) {
	for _, name := range []string{"B", "m", "MM", "q", "x", "É"} {
		d, p := grown(t, name, []act{add("m", 1), add("B", 2), add("x", 3), add("Q", 4), add("mm", 5), add("É", 6)})
		for _, a := range []act{remove(name), remove(name), remove(strings.ToLower(name)), rename(name, "y"), add(strings.ToUpper(name), 9), add(name, 10), remove(name), add(name, 11), add(name, 12)} {
			a.does(t, name, d, p)
			finds(t, a, d, p, name)
			stands(t, a, d, p)
		}
		if n, _, e := d.Find(name); n != 11 || e != api.OK {
			t.Errorf("Find(%s) = %d, %d", name, n, e)
		}
	}
}

// P15.1: a name is renamed to the same one, to one that is alike, to one that stands elsewhere; not to another's.
func TestRename(t *testing.T) {
	rows(t, []act{add("B", 1)}, []row{
		{rename("B", "B"), api.OK, "B=1"},
		{rename("b", "B"), api.OK, "B=1"},
		{rename("B", "b"), api.OK, "b=1"},
		{rename("b", "b"), api.OK, "b=1"},
		{rename("b", "c"), api.OK, "c=1"},
		{rename("b", "A"), api.OK, "A=1"},
		{rename("b", "bb"), api.OK, "bb=1"},
		{rename("c", "B"), api.ErrNone, "B=1"},
		{rename("c", "c"), api.ErrNone, "B=1"},
		{rename("c", "d"), api.ErrNone, "B=1"},
		{rename("*", "d"), api.ErrNone, "B=1"},
	})
	rows(t, nil, []row{{rename("a", "b"), api.ErrNone, ""}, {rename("a", "a"), api.ErrNone, ""}})
	rows(t, []act{add("m", 1), add("Bc", 2), add("x", 3), add("mm", 5)}, []row{
		// alike to the old one
		{rename("bc", "Bc"), api.OK, "Bc=2 m=1 mm=5 x=3"},
		{rename("bc", "BC"), api.OK, "BC=2 m=1 mm=5 x=3"},
		{rename("BC", "bC"), api.OK, "bC=2 m=1 mm=5 x=3"},
		{rename("M", "M"), api.OK, "Bc=2 M=1 mm=5 x=3"},
		{rename("mm", "mM"), api.OK, "Bc=2 m=1 mM=5 x=3"},
		{rename("x", "X"), api.OK, "Bc=2 m=1 mm=5 X=3"},
		// elsewhere: from the beginning, out of the midst, from the end; and where it stood
		{rename("bc", "z"), api.OK, "m=1 mm=5 x=3 z=2"},
		{rename("bc", "ML"), api.OK, "m=1 ML=2 mm=5 x=3"},
		{rename("bc", "c"), api.OK, "c=2 m=1 mm=5 x=3"},
		{rename("bc", "A"), api.OK, "A=2 m=1 mm=5 x=3"},
		{rename("m", "a"), api.OK, "a=1 Bc=2 mm=5 x=3"},
		{rename("m", "mmm"), api.OK, "Bc=2 mm=5 mmm=1 x=3"},
		{rename("m", "Y"), api.OK, "Bc=2 mm=5 x=3 Y=1"},
		{rename("MM", "b"), api.OK, "b=5 Bc=2 m=1 x=3"},
		{rename("MM", "mn"), api.OK, "Bc=2 m=1 mn=5 x=3"},
		{rename("X", "a"), api.OK, "a=3 Bc=2 m=1 mm=5"},
		{rename("X", "ma"), api.OK, "Bc=2 m=1 ma=3 mm=5"},
		{rename("X", "é"), api.OK, "Bc=2 m=1 mm=5 é=3"},
		// another's
		{rename("bc", "M"), api.ErrTwice, "Bc=2 m=1 mm=5 x=3"},
		{rename("m", "BC"), api.ErrTwice, "Bc=2 m=1 mm=5 x=3"},
		{rename("m", "mm"), api.ErrTwice, "Bc=2 m=1 mm=5 x=3"},
		{rename("mm", "m"), api.ErrTwice, "Bc=2 m=1 mm=5 x=3"},
		{rename("x", "Mm"), api.ErrTwice, "Bc=2 m=1 mm=5 x=3"},
		{rename("x", "Bc"), api.ErrTwice, "Bc=2 m=1 mm=5 x=3"},
		// none, also where the new one is there
		{rename("y", "x"), api.ErrNone, "Bc=2 m=1 mm=5 x=3"},
		{rename("b", "Bc"), api.ErrNone, "Bc=2 m=1 mm=5 x=3"},
		{rename("y", "y"), api.ErrNone, "Bc=2 m=1 mm=5 x=3"},
	})
}

// P15.1: what was renamed is found under the new name alone, and the old one may be another's.
func TestRenamed(t *testing.T) {
	d, p := grown(t, "", []act{add("a", 1), add("b", 2), add("c", 3)})
	for _, a := range []act{rename("a", "x"), rename("b", "A"), rename("c", "B"), rename("X", "c"), add("x", 4), remove("a"), rename("c", "a"), rename("a", "C"), rename("b", "a"), rename("C", "b")} {
		a.does(t, a, d, p)
		for _, name := range []string{"a", "b", "c", "x", "A", "B", "C", "X"} {
			finds(t, a, d, p, name)
		}
		stands(t, a, d, p)
	}
	if told(d) != "a=3 b=1 x=4" {
		t.Errorf("behind all: %s", told(d))
	}
}

// P15.2: Len, behind each act.
func TestLen(t *testing.T) {
	d := dir.New()
	for i, c := range []struct {
		act  act
		want int
	}{
		{remove("a"), 0}, {rename("a", "b"), 0}, {add("", 1), 0}, {add("a", 0), 1}, {add("A", 2), 1}, {add("b", 2), 2}, {rename("a", "b"), 2}, {rename("a", "A"), 2}, {rename("a", "c"), 2},
		{add("a", 3), 3}, {remove("z"), 3}, {remove("\xff"), 3}, {remove("B"), 2}, {remove("b"), 2}, {remove("a"), 1}, {remove("C"), 0}, {remove("c"), 0}, {add("c", -1), 1},
	} {
		c.act.of(d)
		if d.Len() != c.want {
			t.Errorf("%d, %v: Len = %d, want %d", i, c.act, d.Len(), c.want)
		}
	}
}
