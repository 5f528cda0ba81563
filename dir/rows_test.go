package dir_test

import (
	"fmt"
	"math/rand"
	"strings"
	"testing"

	"refectory/dir"
)

// smallActs are the acts of few names, two of which are alike, and one of which begins with another one.
func smallActs() []act {
	names := []string{"b", "B", "a", "ba"}
	l := []act{add("", 9), rename("b", "")}
	for i, name := range names {
		l = append(l, add(name, i), remove(name))
		for _, to := range names {
			l = append(l, rename(name, to))
		}
	}
	return l
}

// fewActs are such that long rows of them can be gone through.
func fewActs() []act {
	return []act{add("b", 1), add("A", 2), rename("B", "a"), rename("a", "B"), rename("A", "c"), remove("b"), remove("C")}
}

// P15.1 to P15.3: each row of up to three small acts, and of up to five of a few: what each answers, and all that may be asked behind it.
func TestEachRow(t *testing.T) {
	for _, c := range []struct {
		acts []act
		most int
	}{{smallActs(), 3}, {fewActs(), 5}} {
		var deeper func(done []act)
		deeper = func(done []act) {
			behind(t, done)
			if len(done) < c.most {
				for _, a := range c.acts {
					a.n += 10 * len(done)
					deeper(append(done[:len(done):len(done)], a))
				}
			}
		}
		deeper(nil)
	}
}

// behind does acts, and holds what may be asked behind them against a plain list.
func behind(t *testing.T, done []act) {
	t.Helper()
	d, p := grown(t, done, done)
	if d.Len() != len(p.l) {
		t.Fatalf("%v: Len = %d, want %d", done, d.Len(), len(p.l))
	}
	for _, name := range []string{"b", "B", "a", "A", "ba", "c", ""} {
		finds(t, done, d, p, name)
	}
	for most := range 4 {
		for _, after := range []string{"", "A", "b", "c"} {
			lists(t, done, d, p, "*", after, most)
			lists(t, done, d, p, "B*", after, most)
		}
	}
	if wrong := lawful(d); wrong != "" {
		t.Fatalf("%v: %s", done, wrong)
	}
}

// P15.3: names that are added in each order that there is stand in one.
func TestEachOrder(t *testing.T) {
	var deeper func(done, rest []string)
	deeper = func(done, rest []string) {
		if len(rest) == 0 {
			if d := of(done...); d.Len() != len(done) || lawful(d) != "" {
				t.Errorf("%q: %s", done, told(d))
			} else {
				asks(t, d, []asked{{"*", "", 99, "_ a A0 ab B É", false}})
			}
		}
		for i, name := range rest {
			left := append(rest[:i:i], rest[i+1:]...)
			deeper(append(done[:len(done):len(done)], name), left)
		}
	}
	deeper(nil, []string{"a", "B", "_", "ab", "É", "A0"})
}

// drawnName is a name of few letters, so that some are alike; now and then it is none.
func drawnName(r *rand.Rand, letters []rune, most int) string {
	var s strings.Builder
	for range 1 + r.Intn(most) {
		s.WriteRune(letters[r.Intn(len(letters))])
	}
	switch r.Intn(60) {
	case 0:
		return ""
	case 1:
		return s.String() + "\xff"
	}
	return s.String()
}

// drawnAct is an act of such names.
func drawnAct(r *rand.Rand, name func() string) act {
	switch r.Intn(8) {
	case 0, 1, 2, 3:
		return add(name(), r.Int()-r.Int())
	case 4, 5:
		return remove(name())
	}
	from := name()
	if r.Intn(3) == 0 {
		return rename(from, greatened(from))
	}
	return rename(from, name())
}

// P15.1 to P15.3: directories of many acts, drawn, answer as plain lists of names do; the acts that are refused are among them.
func TestDrawn(t *testing.T) {
	for _, c := range []struct {
		seed, most, acts int
		letters          string
	}{
		{1, 1, 2000, "aAbBcC"},
		{2, 2, 2000, "aAbB"},
		{3, 3, 2000, "abcABC_."},
		{4, 2, 2000, "aAéÉ\u212aK\ufffd\U00010348"},
		{5, 4, 600, "aB*?"},
		{6, 9, 600, "abcdefgHIJKLMN"},
	} {
		r := rand.New(rand.NewSource(int64(c.seed)))
		letters := []rune(c.letters)
		name := func() string { return drawnName(r, letters, c.most) }
		d, p := dir.New(), &plain{}
		for i := range c.acts {
			a := drawnAct(r, name)
			why := fmt.Sprint("seed ", c.seed, ", act ", i, ", ", a)
			a.does(t, why, d, p)
			if d.Len() != len(p.l) {
				t.Fatalf("%s: Len = %d, want %d", why, d.Len(), len(p.l))
			}
			finds(t, why, d, p, name())
			lists(t, why, d, p, name(), "", 9)
			lists(t, why, d, p, "*", name(), r.Intn(9)-1)
			lists(t, why, d, p, name()+"*", name(), r.Intn(9))
			lists(t, why, d, p, "*"+name(), "", r.Intn(3))
			if i%20 == 0 {
				stands(t, why, d, p)
				if wrong := lawful(d); wrong != "" {
					t.Fatalf("%s: %s", why, wrong)
				}
			}
		}
		on(t, c.seed, d, p)
	}
}

// P15.1 to P15.3: a directory of very many names: all are found, told once, and removed.
func TestMany(t *testing.T) {
	const many = 3000
	name := func(i int) string { return fmt.Sprintf("%s%04d", []string{"f", "F"}[i%2], i) }
	d := dir.New()
	for i := range many {
		if e := d.Add(name(i*7%many), i*7%many); e != 0 {
			t.Fatalf("Add(%s) = %d", name(i*7%many), e)
		}
	}
	after, seen := "", 0
	for more := true; more; {
		var l []string
		l, more, _ = d.List("*", after, 700)
		for _, own := range l {
			if n, _, e := d.Find(greatened(own)); own != name(seen) || n != seen || e != 0 {
				t.Fatalf("the name %d is %s, and found as %d, %d", seen, own, n, e)
			}
			seen, after = seen+1, own
		}
	}
	if seen != many || d.Len() != many {
		t.Errorf("%d names are told, of %d", seen, d.Len())
	}
	for i := range many {
		if e := d.Remove(greatened(name(i * 11 % many))); e != 0 || d.Len() != many-1-i {
			t.Fatalf("Remove(%s) = %d, and %d are left", name(i*11%many), e, d.Len())
		}
	}
}
