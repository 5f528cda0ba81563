package vol_test

import (
	"fmt"
	"math"
	"math/rand"
	"slices"
	"strings"
	"testing"

	"refectory/api"
	"refectory/path"
	"refectory/vol"
)

// lawful tells what of a volume is not as it has to be by the chapter's words alone: its nodes rise from the root on, each is found by its path, and told just once by the directory of its path's parent, with its kind and size; Used is the sum of the sizes, at most the quota.
func lawful(v *vol.Vol, quota int) string {
	l, sum, told := v.Nodes(), 0, 1
	if len(l) == 0 || len(l) > mostNodes || l[0] != 1 || !slices.IsSorted(l) || len(slices.Compact(slices.Clone(l))) != len(l) {
		return fmt.Sprint("Nodes are ", l)
	}
	for _, n := range l {
		s, e := v.Path(n)
		stat, f := v.Stat(n)
		found, g := v.Find(greatened(s))
		if e != api.OK || f != api.OK || g != api.OK || found != n {
			return fmt.Sprintf("Path(%d) = %s, %d, found as %d, %d, Stat: %d", n, s, e, found, g, f)
		}
		sum += stat.Size
		if n != 1 && !listed(v, s, stat) {
			return fmt.Sprintf("%d at %s is not listed where it stands", n, s)
		}
		if stat.Kind == api.KindDir {
			in, _, _ := v.List(n, "*", "", math.MaxInt)
			told += len(in)
		}
	}
	if told != len(l) || sum != v.Used() || sum > quota {
		return fmt.Sprintf("%d nodes, told: %d; %d bytes, Used = %d, of %d", len(l), told, sum, v.Used(), quota)
	}
	return ""
}

// listed tells whether a path's directory lists its last name, just so, with that kind and size.
func listed(v *vol.Vol, s string, stat api.Stat) bool {
	over, name, _ := path.Parent(s)
	up, _ := v.Find(over)
	l, _, e := v.List(up, "*", "", math.MaxInt)
	return e == api.OK && slices.Contains(l, api.Entry{Name: name, Stat: stat})
}

// smallActs are acts of few names, two of which are alike, with few bytes.
func smallActs() []act {
	paths := []string{"a", "A", "b", `a\b`, `b\A`}
	l := []act{file(""), made("b", 0), move(2, ""), remove(1), write(2, 0, "ab"), write(3, 2, "c"), cut(2, 1), cut(3, 2), cut(3, 4)}
	for _, s := range paths {
		l = append(l, file(s), dir(s), over(2, s), over(3, s), move(3, s))
	}
	return append(l, remove(2), remove(3), move(2, "b"), move(4, `a\b`))
}

// fewActs are such that long rows of them can be gone through.
func fewActs() []act {
	return []act{dir("a"), file(`A\b`), file("b"), over(3, "B"), move(2, `b\a`), over(4, `a\B`), move(3, "c"), remove(2), cut(3, 2)}
}

// P16.1 to P16.4: each row of up to three small acts, and of up to five of a few: what each answers, and all that may be asked behind it.
func TestEachRow(t *testing.T) {
	const quota = 3
	for _, c := range []struct {
		acts []act
		most int
	}{{smallActs(), 3}, {fewActs(), 5}} {
		var deeper func(done []act)
		deeper = func(done []act) {
			v, p := grown(t, done, quota, done...)
			stands(t, done, v, p)
			if wrong := lawful(v, quota); wrong != "" {
				t.Fatalf("%v: %s", done, wrong)
			}
			if len(done) < c.most {
				for _, a := range c.acts {
					deeper(append(done[:len(done):len(done)], a))
				}
			}
		}
		deeper(nil)
	}
}

// drawing draws acts of few names, so that many meet.
type drawing struct {
	*rand.Rand
	p       *plain
	letters []rune
	bytes   int
}

// name is a name of one or two letters; now and then it is none.
func (r drawing) name() string {
	s := string(r.letters[r.Intn(len(r.letters))])
	switch r.Intn(40) {
	case 0:
		return ""
	case 1:
		return s + "\xff"
	case 2, 3, 4:
		return s + string(r.letters[r.Intn(len(r.letters))])
	}
	return s
}

// node is the number of a node, or, now and then, nobody's.
func (r drawing) node() int {
	if r.Intn(15) == 0 {
		return r.Intn(r.p.last+2) - 1
	}
	return r.p.l[r.Intn(len(r.p.l))].n
}

// path is a node's path, or one under it, or one of names that are drawn.
func (r drawing) path() string {
	s, _ := r.p.path(r.p.l[r.Intn(len(r.p.l))].n)
	if r.Intn(2) == 0 {
		s = greatened(s)
	}
	switch r.Intn(6) {
	case 0:
		return s
	case 1:
		var names []string
		for range r.Intn(4) {
			names = append(names, r.name())
		}
		return strings.Join(names, `\`)
	}
	if s == "" {
		return r.name()
	}
	return s + `\` + r.name()
}

// act is an act that is drawn.
func (r drawing) act() act {
	switch r.Intn(12) {
	case 0, 1:
		return file(r.path())
	case 2, 3:
		return dir(r.path())
	case 4:
		return made(r.path(), api.Kind(r.Intn(4)))
	case 5:
		return remove(r.node())
	case 6, 7:
		return over(r.node(), r.path())
	case 8:
		return move(r.node(), r.path())
	case 9:
		return cut(r.node(), r.Intn(r.bytes+3)-1)
	}
	return write(r.node(), r.Intn(r.bytes+2)-1, some(r.Intn(r.bytes/2+2)))
}

// P16.1 to P16.4: volumes of many acts, drawn, answer as plain lists of nodes, each with its parent and its name, do; the acts that are refused are among them.
func TestDrawn(t *testing.T) {
	for _, c := range []struct {
		seed, acts, quota, bytes int
		letters                  string
	}{
		{1, 3000, 20, 6, "aAbB"},
		{2, 3000, 100, 12, "abcdeABCDE"},
		{3, 2000, 0, 3, "aAéÉ\u212aK"},
		{4, 2000, mostQuota, 40, "abcdefghijklmnopqrstuvwxyz"},
		{5, 400, 200000, 60000, "abAB"},
		{6, 4000, 50, 9, "ab"},
	} {
		v, p := grown(t, c.seed, c.quota)
		r := drawing{rand.New(rand.NewSource(int64(c.seed))), p, []rune(c.letters), c.bytes}
		for i := range c.acts {
			a := r.act()
			why := fmt.Sprint("seed ", c.seed, ", act ", i, ", ", a)
			a.does(t, why, v, p)
			finds(t, why, v, p, r.path())
			looks(t, why, v, p, r.node())
			reads(t, why, v, p, r.node(), r.Intn(c.bytes+2)-1, r.Intn(c.bytes+2)-1)
			lists(t, why, v, p, r.node(), r.name()+"*", r.name(), r.Intn(5)-1)
			if v.Used() != p.used() || !slices.Equal(v.Nodes(), p.nodes()) {
				t.Fatalf("%s: %d bytes of %v, want %d of %v", why, v.Used(), v.Nodes(), p.used(), p.nodes())
			}
			if i%20 == 0 {
				stands(t, why, v, p)
				if wrong := lawful(v, c.quota); wrong != "" {
					t.Fatalf("%s: %s", why, wrong)
				}
			}
		}
		stands(t, c.seed, v, p)
	}
}
