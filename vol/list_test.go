package vol_test

import (
	"fmt"
	"math"
	"slices"
	"strings"
	"testing"

	"refectory/api"
)

// entries tells entries, a directory with \ behind it, a file with its size, such as a\ b:5.
func entries(l []api.Entry) string {
	var s []string
	for _, x := range l {
		switch x.Stat.Kind {
		case api.KindDir:
			s = append(s, fmt.Sprint(x.Name, `\`))
		case api.KindFile:
			s = append(s, fmt.Sprint(x.Name, ":", x.Stat.Size))
		default:
			s = append(s, fmt.Sprint(x.Name, " of kind ", x.Stat.Kind))
		}
		if x.Stat.Kind == api.KindDir && x.Stat.Size != 0 {
			s = append(s, fmt.Sprint("of size ", x.Stat.Size))
		}
	}
	return strings.Join(s, " ")
}

// P16.3: the names that a pattern fits and to which after is ahead, most at most, each with its kind and size.
func TestList(t *testing.T) {
	v, p := grown(t, "", mostQuota, append(tree(), file("A.TXT"), file("b.txt"), dir("c.txt"), write(8, 6, "x"), cut(9, 600), file(`c.txt\In`))...)
	for _, c := range []struct {
		n              int
		pattern, after string
		most           int
		want           string
		more           bool
	}{
		{1, "*", "", 99, `A.TXT:7 b.txt:600 c.txt\ d\ g:5 H\`, false}, {1, "*", "", 6, `A.TXT:7 b.txt:600 c.txt\ d\ g:5 H\`, false}, {1, "*", "", 5, `A.TXT:7 b.txt:600 c.txt\ d\ g:5`, true}, {1, "*", "", 1, `A.TXT:7`, true}, {1, "*", "", 0, "", true}, {1, "*", "", math.MaxInt, `A.TXT:7 b.txt:600 c.txt\ d\ g:5 H\`, false},
		{2, "*", "", 9, `E\ k:0`, false}, {3, "*", "", 9, "f:4", false}, {6, "*", "", 9, "", false}, {6, "*", "", 0, "", false}, {10, "*", "", 9, "In:0", false},
		{1, "*.txt", "", 9, `A.TXT:7 b.txt:600 c.txt\`, false}, {1, "*.TXT", "", 2, `A.TXT:7 b.txt:600`, true}, {1, "*.txt", "a.txt", 2, `b.txt:600 c.txt\`, false}, {1, "*.txt", "B.TXT", 1, `c.txt\`, false}, {1, "*.txt", "c.txt", 1, "", false}, {1, "*.txt", "c.tx", 1, `c.txt\`, false},
		{1, "?", "", 9, `d\ g:5 H\`, false}, {1, "?", "D", 9, `g:5 H\`, false}, {1, "?", "dd", 1, "g:5", true}, {1, "h", "", 9, `H\`, false}, {1, "h", "", 0, "", true}, {1, "x", "", 0, "", false}, {1, "", "", 9, "", false}, {2, "E", "", 9, `E\`, false}, {2, "f", "", 9, "", false},
		{1, "*", "\x00", 9, `A.TXT:7 b.txt:600 c.txt\ d\ g:5 H\`, false}, {1, "*", `c\`, 9, `d\ g:5 H\`, false}, {1, "*", "h", 9, "", false}, {1, "*", "\U0010ffff", 9, "", false}, {1, "*", "*", 2, `A.TXT:7 b.txt:600`, true},
	} {
		l, more, e := v.List(c.n, c.pattern, c.after, c.most)
		if entries(l) != c.want || more != c.more || e != api.OK {
			t.Errorf("List(%d, %q, %q, %d) = %s, %v, %d, want %s, %v", c.n, c.pattern, c.after, c.most, entries(l), more, e, c.want, c.more)
		}
		lists(t, "", v, p, c.n, c.pattern, c.after, c.most)
	}
}

// P16.3: each pattern, after and most, of each node of volumes of all kinds.
func TestListEach(t *testing.T) {
	for why, acts := range vols() {
		v, p := grown(t, why, mostQuota, acts...)
		for _, n := range append(p.nodes(), nobodys()...) {
			for _, pattern := range []string{"*", "", "?", "a", "A*", "*a", "??", "é", "*k*", "\xff", strings.Repeat("*", 64), strings.Repeat("*", 65)} {
				for _, after := range []string{"", "a", "B", "é", "~", `\`, "\xff", strings.Repeat("z", 300)} {
					for _, most := range []int{-1, 0, 1, 2, len(p.in(n)) - 1, len(p.in(n)), len(p.in(n)) + 1, math.MaxInt, math.MinInt} {
						lists(t, why, v, p, n, pattern, after, most)
					}
				}
			}
		}
		stands(t, why, v, p)
	}
}

// P16.3: what List refuses, and by which error first: nobody, a file, then dir's.
func TestListRefused(t *testing.T) {
	v, p := grown(t, "", mostQuota, tree()...)
	long := strings.Repeat("a", 65)
	for _, c := range []struct {
		n              int
		pattern, after string
		most           int
		e              api.Errno
	}{
		{99, "*", "", 9, api.ErrNone}, {0, "\xff", "\xff", -1, api.ErrNone}, {-1, long, "", -1, api.ErrNone},
		{5, "*", "", 9, api.ErrKind}, {4, "\xff", "\xff", -1, api.ErrKind}, {7, long, "", 0, api.ErrKind},
		{1, "*", "", -1, api.ErrArg}, {2, "\xff", "\xff", -1, api.ErrArg}, {6, long, "", math.MinInt, api.ErrArg},
		{1, "\xff", "", 9, api.ErrForm}, {6, "a\x80", "\xff", 0, api.ErrForm}, {2, long, "", 9, api.ErrLimit}, {2, long + "\xff", "", 9, api.ErrForm}, {6, long, "\xff", 0, api.ErrLimit}, {3, "*", "\xff", 9, api.ErrForm}, {6, "", "\xed\xa0\x80", 0, api.ErrForm},
	} {
		if l, more, e := v.List(c.n, c.pattern, c.after, c.most); len(l) != 0 || more || e != c.e {
			t.Errorf("List(%d, %s, %s, %d) = %v, %v, %d, want %d", c.n, short(c.pattern), short(c.after), c.most, l, more, e, c.e)
		}
		lists(t, "", v, p, c.n, c.pattern, c.after, c.most)
	}
	stands(t, "", v, p)
}

// P16.3: kinds and sizes are those by now, behind each act.
func TestListTurns(t *testing.T) {
	v, p := grown(t, "", 100, tree()...)
	for _, c := range []struct {
		act       act
		root, ofD string
	}{
		{cut(5, 50), `d\ g:50 H\`, `E\ k:0`}, {write(7, 9, "x"), `d\ g:50 H\`, `E\ k:10`}, {cut(7, 99), `d\ g:50 H\`, `E\ k:10`}, {move(7, "K"), `d\ g:50 H\ K:10`, `E\`}, {move(6, `d\e2`), `d\ g:50 K:10`, `E\ e2\`}, {move(3, "a"), `a\ d\ g:50 K:10`, `e2\`}, {over(5, "k"), `a\ d\ k:50`, `e2\`}, {move(4, `d\f`), `a\ d\ k:50`, `e2\ f:4`}, {remove(3), `d\ k:50`, `e2\ f:4`}, {move(4, `d\F`), `d\ k:50`, `e2\ F:4`}, {move(4, "f"), `d\ f:4 k:50`, `e2\`}, {file(`d\e2\x`), `d\ f:4 k:50`, `e2\`}, {dir("k2"), `d\ f:4 k:50 k2\`, `e2\`}, {move(5, `d\b`), `d\ f:4 k2\`, `b:50 e2\`},
	} {
		c.act.ofPlain(p)
		c.act.of(v)
		root, _, _ := v.List(1, "*", "", 99)
		d, _, _ := v.List(2, "*", "", 99)
		if entries(root) != c.root || entries(d) != c.ofD {
			t.Errorf("behind %v: %s and %s, want %s and %s", c.act, entries(root), entries(d), c.root, c.ofD)
		}
		stands(t, c.act, v, p)
	}
}

// P16.3: a directory of as many names as there may be nodes, told on from the last name, so many at once.
func TestListMany(t *testing.T) {
	var acts []act
	for i := range mostNodes - 1 {
		acts = append(acts, []act{file(fmt.Sprint("n", i)), dir(fmt.Sprint("N", i))}[i%2])
	}
	v, p := grown(t, "", mostQuota, acts...)
	for _, most := range []int{1, 2, 50, 127, 254, 255, 256} {
		var all []api.Entry
		after, more := "", true
		for more {
			var l []api.Entry
			l, more, _ = v.List(1, "n*", after, most)
			if len(l) == 0 || more != (len(all)+len(l) < mostNodes-1) {
				t.Fatalf("%d at once, %d told: %d, %v", most, len(all), len(l), more)
			}
			all = append(all, l...)
			after = l[len(l)-1].Name
		}
		if want, _, _ := p.list(1, "*", "", math.MaxInt); !slices.Equal(all, want) {
			t.Errorf("%d at once: %v", most, all)
		}
	}
}
