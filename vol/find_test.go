package vol_test

import (
	"fmt"
	"math"
	"slices"
	"strings"
	"testing"

	"refectory/api"
	"refectory/vol"
)

// P16.1: New of quotas at the edges and beyond them; of the root alone there is nothing but it.
func TestNew(t *testing.T) {
	for _, quota := range []int{-1, -2, -5, mostQuota + 1, mostQuota + 2, 2 * mostQuota, 1 << 31, 1 << 32, 1<<32 + 5, math.MaxInt, math.MinInt, -mostQuota} {
		if v, e := vol.New(quota); v != nil || e != api.ErrArg {
			t.Errorf("New(%d) = %p, %d", quota, v, e)
		}
	}
	for _, quota := range []int{0, 1, 5, 65536, mostQuota - 1, mostQuota} {
		v, p := grown(t, quota, quota)
		stands(t, quota, v, p)
		if l := v.Nodes(); !slices.Equal(l, []int{1}) || v.Used() != 0 {
			t.Errorf("New(%d) has %v, %d bytes", quota, l, v.Used())
		}
		if stat, e := v.Stat(1); stat != (api.Stat{Kind: api.KindDir}) || e != api.OK {
			t.Errorf("New(%d): Stat(1) = %v, %d", quota, stat, e)
		}
		if n, e := v.Find(""); n != 1 || e != api.OK {
			t.Errorf("New(%d): Find of the root = %d, %d", quota, n, e)
		}
		if l, more, e := v.List(1, "*", "", 9); len(l) != 0 || more || e != api.OK {
			t.Errorf("New(%d): List(1) = %v, %v, %d", quota, l, more, e)
		}
	}
}

// P16.1: what is found, by which letters, and why what is not is not.
func TestFind(t *testing.T) {
	v, p := grown(t, "", mostQuota, append(tree(), file("é"), dir("É"), dir(`É\k`), file("d E"))...)
	for _, c := range []struct {
		path string
		n    int
		e    api.Errno
	}{
		{"", 1, api.OK}, {"d", 2, api.OK}, {"D", 2, api.OK}, {`d\E`, 3, api.OK}, {`d\e`, 3, api.OK}, {`D\E`, 3, api.OK}, {`D\e`, 3, api.OK}, {`d\E\f`, 4, api.OK}, {`D\e\F`, 4, api.OK}, {"g", 5, api.OK}, {"G", 5, api.OK}, {"h", 6, api.OK}, {"H", 6, api.OK}, {`D\K`, 7, api.OK},
		{"é", 8, api.OK}, {"É", 9, api.OK}, {`É\k`, 10, api.OK}, {`É\K`, 10, api.OK}, {"D e", 11, api.OK},
		// Through a file, whether or not that name were there, and however many stand behind it.
		{`g\x`, 0, api.ErrKind}, {`G\x`, 0, api.ErrKind}, {`g\x\y`, 0, api.ErrKind}, {`d\E\f\f`, 0, api.ErrKind}, {`d\k\g\g\g\g\g\g`, 0, api.ErrKind}, {`é\k`, 0, api.ErrKind},
		// Not there.
		{"x", 0, api.ErrNone}, {"E", 0, api.ErrNone}, {"f", 0, api.ErrNone}, {"k", 0, api.ErrNone}, {"dd", 0, api.ErrNone}, {`d\x`, 0, api.ErrNone}, {`d\g`, 0, api.ErrNone}, {`d\d`, 0, api.ErrNone}, {`d\E\x`, 0, api.ErrNone}, {`h\x`, 0, api.ErrNone}, {`E\f`, 0, api.ErrNone}, {`d\E\E`, 0, api.ErrNone},
		// Through a name that is not there.
		{`x\d`, 0, api.ErrNone}, {`x\g\y`, 0, api.ErrNone}, {`d\x\f`, 0, api.ErrNone}, {`h\g\y\z`, 0, api.ErrNone}, {`x\x\x\x\x\x\x\x`, 0, api.ErrNone},
		// A letter K that is not k, nor K.
		{"d\\\u212a", 0, api.ErrNone}, {"d\u0301", 0, api.ErrNone}, {"e\u0301", 0, api.ErrNone},
	} {
		if n, e := v.Find(c.path); n != c.n || e != c.e {
			t.Errorf("Find(%s) = %d, %d, want %d, %d", short(c.path), n, e, c.n, c.e)
		}
		finds(t, "", v, p, c.path)
	}
	stands(t, "", v, p)
}

// P16.1: a path that is none is refused by Parse's error ahead of what is there, or is not.
func TestFindOfNoPath(t *testing.T) {
	for why, acts := range vols() {
		v, p := grown(t, why, mostQuota, acts...)
		for s, want := range noPaths() {
			if n, e := v.Find(s); n != 0 || e != want {
				t.Errorf("%s: Find(%s) = %d, %d, want %d", why, short(s), n, e, want)
			}
		}
		stands(t, why, v, p)
	}
}

// P16.1: what is made, where, and what it is numbered.
func TestMake(t *testing.T) {
	made7 := treeTold + ", "
	rows(t, mostQuota, tree(), []row{
		{[]act{file("x")}, 8, api.OK, made7 + "8 x:"},
		{[]act{dir("x")}, 8, api.OK, made7 + `8 x\`},
		{[]act{file("X y.Z")}, 8, api.OK, made7 + "8 X y.Z:"},
		{[]act{dir(`d\x`)}, 8, api.OK, made7 + `8 d\x\`},
		{[]act{file(`D\e\X`)}, 8, api.OK, made7 + `8 d\E\X:`},
		{[]act{file(`h\f`)}, 8, api.OK, made7 + `8 H\f:`},
		{[]act{file(`h\h`)}, 8, api.OK, made7 + `8 H\h:`},
		{[]act{file(`d\d`)}, 8, api.OK, made7 + `8 d\d:`},
		{[]act{dir("é"), file("É")}, 9, api.OK, made7 + `8 é\, 9 É:`},
		{[]act{file("\u212a")}, 8, api.OK, made7 + "8 \u212a:"},
		{[]act{dir("x"), dir(`X\y`), dir(`x\Y\z`), file(`X\y\Z\e`)}, 11, api.OK, made7 + `8 x\, 9 x\y\, 10 x\y\z\, 11 x\y\z\e:`},
		// Numbers that are gone are not used again, the last one neither.
		{[]act{remove(4), file("x")}, 8, api.OK, `2 d\, 3 d\E\, 5 g:fives, 6 H\, 7 d\k:, 8 x:`},
		{[]act{remove(7), file(`d\k`)}, 8, api.OK, `2 d\, 3 d\E\, 4 d\E\f:four, 5 g:fives, 6 H\, 8 d\k:`},
		{[]act{file("x"), remove(8), dir("x")}, 9, api.OK, made7 + `9 x\`},
		{[]act{over(5, `d\k`), file("g")}, 8, api.OK, `2 d\, 3 d\E\, 4 d\E\f:four, 5 d\k:fives, 6 H\, 8 g:`},
		{[]act{move(5, `d\g`), file("g")}, 8, api.OK, `2 d\, 3 d\E\, 4 d\E\f:four, 5 d\g:fives, 6 H\, 7 d\k:, 8 g:`},
		// A number is not used by what is refused.
		{[]act{file("g"), file(`x\y`), file(`g\x`), made("x", 0), file(""), file("."), file("x")}, 8, api.OK, made7 + "8 x:"},
		// The root.
		is(api.ErrTwice, treeTold, file("")), is(api.ErrTwice, treeTold, dir("")), is(api.ErrTwice, treeTold, made("", 0)), is(api.ErrTwice, treeTold, made("", 77)),
		// Under a file, and under what is not there.
		is(api.ErrKind, treeTold, file(`g\x`)), is(api.ErrKind, treeTold, dir(`d\e\F\x`)), is(api.ErrKind, treeTold, dir(`G\x\y`)), is(api.ErrKind, treeTold, file(`d\k\k`)),
		is(api.ErrNone, treeTold, file(`x\y`)), is(api.ErrNone, treeTold, dir(`d\x\y`)), is(api.ErrNone, treeTold, dir(`x\g\y`)), is(api.ErrNone, treeTold, file(`E\f\x`)),
		// A name that is there, whatever it is, and whatever is to be made.
		is(api.ErrTwice, treeTold, file("g")), is(api.ErrTwice, treeTold, dir("G")), is(api.ErrTwice, treeTold, file("D")), is(api.ErrTwice, treeTold, dir("d")), is(api.ErrTwice, treeTold, file(`D\e`)), is(api.ErrTwice, treeTold, dir(`d\E\F`)), is(api.ErrTwice, treeTold, file(`d\K`)),
		// Kinds that are none.
		is(api.ErrArg, treeTold, made("x", 0)), is(api.ErrArg, treeTold, made("x", 3)), is(api.ErrArg, treeTold, made(`d\x`, 255)), is(api.ErrArg, treeTold, made(`h\x`, 128)),
	})
}

// P16.1: which error of Make is first, of each kind, each path, and a volume that has room or none.
func TestMakeOrder(t *testing.T) {
	paths := map[string]api.Errno{
		"": api.ErrTwice, "x": api.OK, `d\x`: api.OK, `H\x`: api.OK,
		"g": api.ErrTwice, "D": api.ErrTwice, `d\E`: api.ErrTwice, `D\e\F`: api.ErrTwice,
		`g\x`: api.ErrKind, `g\x\y`: api.ErrKind, `d\k\x`: api.ErrKind, `x\y`: api.ErrNone, `d\x\y`: api.ErrNone,
		`x\.`: api.ErrArg, `g\*`: api.ErrArg, `g\`: api.ErrArg,
		`g\` + strings.Repeat(`a\`, 8) + "a": api.ErrLimit, `x\` + strings.Repeat(`a\`, 7) + "a": api.ErrLimit,
	}
	for s, e := range noPaths() {
		paths[s] = e
	}
	full := slices.Clone(tree())
	for i := range mostNodes - 7 {
		full = append(full, file(fmt.Sprint(`h\n`, i)))
	}
	for _, c := range []struct {
		acts []act
		e    api.Errno
	}{{tree(), api.OK}, {full, api.ErrLimit}} {
		v, p := grown(t, c.e, mostQuota, c.acts...)
		for s, want := range paths {
			for _, k := range []api.Kind{0, 1, 2, 3, 4, 77, 254, 255} {
				// What the path has is ahead of the kind, and that ahead of there being no room.
				all := []api.Errno{want, c.e}
				if k != api.KindDir && k != api.KindFile {
					all = []api.Errno{want, api.ErrArg, c.e}
				}
				n, e := v.Make(s, k)
				if e != first(all) || (n == 0) != (e != api.OK) {
					t.Errorf("%d nodes: Make(%s, %d) = %d, %d, want %d", len(v.Nodes()), short(s), k, n, e, first(all))
				}
				p.make(s, k)
				if e == api.OK {
					remove(n).does(t, s, v, p)
				}
			}
		}
		stands(t, c.e, v, p)
	}
}

// first is the first error of those that apply.
func first(l []api.Errno) api.Errno {
	for _, e := range l {
		if e != api.OK {
			return e
		}
	}
	return api.OK
}

// P16.1: as deep as a path goes, and not deeper.
func TestMakeDeep(t *testing.T) {
	for _, kind := range []api.Kind{api.KindDir, api.KindFile} {
		v, p := grown(t, kind, mostQuota, deep(7)...)
		if n, e := v.Make(deepPath(8), kind); n != 9 || e != api.OK {
			t.Fatalf("Make of 8 names = %d, %d", n, e)
		}
		p.make(deepPath(8), kind)
		stands(t, kind, v, p)
		for _, s := range []string{deepPath(9), greatened(deepPath(9)), deepPath(10), `x\` + deepPath(8)} {
			for _, k := range []api.Kind{0, 1, 2} {
				if n, e := v.Make(s, k); n != 0 || e != api.ErrLimit {
					t.Errorf("Make(%s, %d) = %d, %d", s, k, n, e)
				}
			}
		}
		if n, e := v.Find(deepPath(9)); n != 0 || e != api.ErrLimit {
			t.Errorf("Find of 9 names = %d, %d", n, e)
		}
		stands(t, kind, v, p)
	}
	// Names of 32 letters, of one byte and of four.
	for _, letter := range []string{"n", "é", "\U00010348"} {
		long := strings.Repeat(letter, 32)
		var acts []act
		for i := range 8 {
			acts = append(acts, dir(long+strings.Repeat(`\`+long, i)))
		}
		v, p := grown(t, letter, mostQuota, acts...)
		if s, e := v.Path(9); s != long+strings.Repeat(`\`+long, 7) || e != api.OK {
			t.Errorf("Path(9) = %s, %d", short(s), e)
		}
		stands(t, letter, v, p)
	}
}

// P16.1: there are at most MaxNodes nodes, the root among them; those that are gone don't count, and their numbers are not used again.
func TestMakeMany(t *testing.T) {
	v, p := grown(t, "", mostQuota, dir("d"), dir(`d\e`))
	for i := 4; i <= mostNodes; i++ {
		s, k := fmt.Sprint([]string{"", `d\`, `D\e\`}[i%3], "n", i), []api.Kind{api.KindDir, api.KindFile}[i%2]
		if n, e := v.Make(s, k); n != i || e != api.OK {
			t.Fatalf("Make(%s, %d) = %d, %d, want %d", s, k, n, e, i)
		}
		p.make(s, k)
	}
	stands(t, "full", v, p)
	full := func() {
		t.Helper()
		for _, s := range []string{"none", `d\none`, `d\e\none`} {
			for _, a := range []act{file(s), dir(s)} {
				if n, e := a.of(v); n != 0 || e != api.ErrLimit || len(v.Nodes()) != mostNodes {
					t.Fatalf("%v = %d, %d, with %d nodes", a, n, e, len(v.Nodes()))
				}
				a.ofPlain(p)
			}
		}
	}
	full()
	for i, s := range []string{"x", `d\y`, `d\e\z`} {
		remove(250+i).does(t, i, v, p)
		if n, e := v.Make(s, api.KindFile); n != mostNodes+1+i || e != api.OK {
			t.Fatalf("Make(%s) with one gone = %d, %d", s, n, e)
		}
		p.make(s, api.KindFile)
		full()
	}
	// One is gone, too, where another one takes its name.
	over(p.last, `d\n7`).does(t, "over", v, p)
	if n, e := v.Make("last", api.KindDir); n != mostNodes+4 || e != api.OK {
		t.Fatalf("Make(last) with one moved over = %d, %d", n, e)
	}
	p.make("last", api.KindDir)
	full()
	stands(t, "full again", v, p)
}

// P16.1: one place, made and removed again and again: each time a number of its own, and there is always room.
func TestMakeAgain(t *testing.T) {
	v, p := grown(t, "", 10, dir("d"))
	for i := range 3 * mostNodes {
		s := []string{"a", `d\a`, `D\B`}[i%3]
		if n, e := v.Make(s, api.KindFile); n != 3+i || e != api.OK {
			t.Fatalf("Make(%s) = %d, %d, want %d", s, n, e, 3+i)
		}
		p.make(s, api.KindFile)
		write(3+i, 0, "0123456789").does(t, i, v, p)
		if i%50 == 0 {
			stands(t, i, v, p)
		}
		remove(3+i).does(t, i, v, p)
	}
	stands(t, "", v, p)
	if told(v) != `2 d\` {
		t.Errorf("behind all these: %s", told(v))
	}
}
