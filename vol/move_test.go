package vol_test

import (
	"fmt"
	"strings"
	"testing"

	"refectory/api"
)

// P16.2: what may be removed, what then is left, and what may not.
func TestRemove(t *testing.T) {
	rows(t, mostQuota, tree(), []row{
		is(api.OK, `2 d\, 3 d\E\, 4 d\E\f:four, 6 H\, 7 d\k:`, remove(5)),
		is(api.OK, `2 d\, 3 d\E\, 4 d\E\f:four, 5 g:fives, 7 d\k:`, remove(6)),
		is(api.OK, `2 d\, 3 d\E\, 4 d\E\f:four, 5 g:fives, 6 H\`, remove(7)),
		is(api.OK, `2 d\, 3 d\E\, 5 g:fives, 6 H\, 7 d\k:`, remove(4)),
		// From below up.
		is(api.OK, `2 d\, 5 g:fives, 6 H\, 7 d\k:`, remove(4), remove(3)),
		is(api.OK, `5 g:fives, 6 H\`, remove(7), remove(4), remove(3), remove(2)),
		is(api.OK, "", remove(4), remove(3), remove(7), remove(2), remove(6), remove(5)),
		// With names in it, of each kind, and with as few as there may be.
		is(api.ErrBusy, treeTold, remove(2)), is(api.ErrBusy, treeTold, remove(3)),
		is(api.ErrBusy, `2 d\, 3 d\E\, 5 g:fives, 6 H\, 7 d\k:`, remove(4), remove(2)),
		is(api.ErrBusy, `2 d\, 5 g:fives, 6 H\, 7 d\k:`, remove(4), remove(3), remove(2)),
		is(api.ErrBusy, treeTold+`, 8 H\x\`, dir(`h\x`), remove(6)),
		// The root, also with nothing in it.
		is(api.ErrArg, treeTold, remove(1)),
		is(api.ErrArg, "", remove(4), remove(3), remove(7), remove(2), remove(6), remove(5), remove(1)),
		// The same one again, also where its path has a node again.
		is(api.ErrNone, `2 d\, 3 d\E\, 4 d\E\f:four, 6 H\, 7 d\k:`, remove(5), remove(5)),
		is(api.ErrNone, `2 d\, 3 d\E\, 4 d\E\f:four, 6 H\, 7 d\k:, 8 g:`, remove(5), file("g"), remove(5)),
		is(api.ErrNone, `2 d\, 3 d\E\, 4 d\E\f:four, 5 d\k:fives, 6 H\`, over(5, `d\k`), remove(7)),
		// Those that were moved: where they stand is asked, not where they stood.
		is(api.OK, `2 d\, 3 d\E\, 5 g:fives, 6 H\, 7 d\k:`, move(4, `h\F`), remove(4)),
		is(api.OK, `2 d\, 4 f:four, 5 g:fives, 6 H\, 7 d\k:`, move(4, "f"), remove(3)),
		is(api.ErrBusy, `2 d\, 3 d\E\, 4 H\f:four, 5 g:fives, 6 H\, 7 d\k:`, move(4, `h\f`), remove(6)),
		// What is gone is not found, nor what stands there anew with what it had.
		is(api.OK, `2 d\, 3 d\E\, 4 d\E\f:four, 6 H\, 7 d\k:, 8 G:00000`, remove(5), file("G"), cut(8, 5)),
		{[]act{remove(6), dir("h"), file(`H\x`)}, 9, api.OK, `2 d\, 3 d\E\, 4 d\E\f:four, 5 g:fives, 7 d\k:, 8 h\, 9 h\x:`},
	})
	for why, acts := range vols() {
		v, p := grown(t, why, mostQuota, acts...)
		for _, n := range nobodys() {
			if e := v.Remove(n); e != api.ErrNone {
				t.Errorf("%s: Remove(%d) = %d", why, n, e)
			}
		}
		stands(t, why, v, p)
	}
}

// P16.2: another name, another directory, and what a node that is moved has.
func TestMove(t *testing.T) {
	rows(t, mostQuota, tree(), []row{
		// Another name in the same directory.
		is(api.OK, `2 d\, 3 d\E\, 4 d\E\f:four, 5 x:fives, 6 H\, 7 d\k:`, move(5, "x")),
		is(api.OK, `2 d\, 3 d\E\, 4 d\E\Long name.txt:four, 5 g:fives, 6 H\, 7 d\k:`, move(4, `D\e\Long name.txt`)),
		is(api.OK, `2 x\, 3 x\E\, 4 x\E\f:four, 5 g:fives, 6 H\, 7 x\k:`, move(2, "x")),
		is(api.OK, `2 d\, 3 d\x\, 4 d\x\f:four, 5 g:fives, 6 H\, 7 d\k:`, move(3, `d\x`)),
		is(api.OK, `2 dd\, 3 dd\E\, 4 dd\E\f:four, 5 g:fives, 6 H\, 7 dd\k:`, move(2, "dd")),
		// The same path, and one that is alike to it: the new letters stand, of the last name alone.
		is(api.OK, treeTold, move(5, "g")), is(api.OK, treeTold, over(5, "g")), is(api.OK, treeTold, move(2, "d")), is(api.OK, treeTold, over(2, "d")), is(api.OK, treeTold, move(4, `d\E\f`)), is(api.OK, treeTold, over(3, `d\E`)),
		is(api.OK, `2 d\, 3 d\E\, 4 d\E\f:four, 5 G:fives, 6 H\, 7 d\k:`, move(5, "G")),
		is(api.OK, `2 d\, 3 d\E\, 4 d\E\f:four, 5 G:fives, 6 H\, 7 d\k:`, over(5, "G")),
		is(api.OK, `2 D\, 3 D\E\, 4 D\E\f:four, 5 g:fives, 6 H\, 7 D\k:`, move(2, "D")),
		is(api.OK, `2 D\, 3 D\E\, 4 D\E\f:four, 5 g:fives, 6 H\, 7 D\k:`, over(2, "D")),
		is(api.OK, `2 d\, 3 d\e\, 4 d\e\f:four, 5 g:fives, 6 H\, 7 d\k:`, move(3, `D\e`)),
		is(api.OK, `2 d\, 3 d\E\, 4 d\E\F:four, 5 g:fives, 6 H\, 7 d\k:`, over(4, `D\e\F`)),
		is(api.OK, treeTold, move(2, "D"), move(2, "d")),
		// Another directory, down, up and across.
		is(api.OK, `2 d\, 3 d\E\, 4 d\E\f:four, 5 H\g:fives, 6 H\, 7 d\k:`, move(5, `h\g`)),
		is(api.OK, `2 d\, 3 d\E\, 4 d\E\f:four, 5 d\E\G:fives, 6 H\, 7 d\k:`, move(5, `D\e\G`)),
		is(api.OK, `2 d\, 3 d\E\, 4 f:four, 5 g:fives, 6 H\, 7 d\k:`, move(4, "f")),
		is(api.OK, `2 d\, 3 d\E\, 4 d\e2:four, 5 g:fives, 6 H\, 7 d\k:`, move(4, `d\e2`)),
		is(api.OK, `2 d\, 3 d\E\, 4 d\E\f:four, 5 g:fives, 6 d\E\H\, 7 d\k:`, move(6, `d\e\H`)),
		// Directories with what is under them.
		is(api.OK, `2 H\d\, 3 H\d\E\, 4 H\d\E\f:four, 5 g:fives, 6 H\, 7 H\d\k:`, move(2, `h\d`)),
		is(api.OK, `2 H\h\, 3 H\h\E\, 4 H\h\E\f:four, 5 g:fives, 6 H\, 7 H\h\k:`, over(2, `h\h`)),
		is(api.OK, `2 d\, 3 E\, 4 E\f:four, 5 g:fives, 6 H\, 7 d\k:`, move(3, "E")),
		is(api.OK, `2 E\d\, 3 E\, 4 E\f:four, 5 g:fives, 6 H\, 7 E\d\k:`, move(3, "E"), move(2, `e\d`)),
		is(api.OK, `2 H\E\d\, 3 H\E\, 4 H\E\f:four, 5 H\E\d\g:fives, 6 H\, 7 H\E\d\k:`, move(3, `H\E`), move(2, `h\e\d`), move(5, `H\E\D\g`)),
		// A path that begins with the node's own letters, but is not under it.
		is(api.OK, `2 d2\, 3 d2\E\, 4 d2\E\f:four, 5 g:fives, 6 H\, 7 d2\k:`, move(2, "d2")),
		is(api.OK, `2 dd\x\, 3 dd\x\E\, 4 dd\x\E\f:four, 5 g:fives, 6 H\, 7 dd\x\k:, 8 dd\`, dir("dd"), move(2, `dd\x`)),
		is(api.OK, `2 d\, 3 d\d\, 4 d\d\f:four, 5 g:fives, 6 H\, 7 d\k:`, move(3, `d\d`)),
		// Where it stood another one may stand.
		is(api.OK, `2 d\, 3 d\E\, 4 d\E\f:four, 5 x:fives, 6 g\, 7 d\k:`, move(5, "x"), move(6, "G"), move(6, "g")),
		// Turned round by a third name.
		is(api.OK, `2 d\, 3 d\E\, 4 d\E\f:four, 5 h:fives, 6 g\, 7 d\k:`, move(5, "x"), move(6, "g"), move(5, "h")),
	})
}

// P16.2: what stands where a node is moved to: over, or not, files and directories.
func TestMoveOver(t *testing.T) {
	rows(t, mostQuota, tree(), []row{
		is(api.ErrTwice, treeTold, move(5, `d\k`)), is(api.ErrTwice, treeTold, move(5, `D\E\F`)), is(api.ErrTwice, treeTold, move(4, "G")), is(api.ErrTwice, treeTold, move(7, "g")),
		is(api.ErrTwice, treeTold, move(5, "h")), is(api.ErrTwice, treeTold, move(5, "d")), is(api.ErrTwice, treeTold, move(2, "g")), is(api.ErrTwice, treeTold, move(2, "h")), is(api.ErrTwice, treeTold, move(6, "D")), is(api.ErrTwice, treeTold, move(3, "d")),
		// A file over a file: that one is gone, with its bytes, and its name's letters.
		is(api.OK, `2 d\, 3 d\E\, 4 d\E\f:four, 5 d\K:fives, 6 H\`, over(5, `d\K`)),
		is(api.OK, `2 d\, 3 d\E\, 5 d\E\F:fives, 6 H\, 7 d\k:`, over(5, `D\e\F`)),
		is(api.OK, `2 d\, 3 d\E\, 4 G:four, 6 H\, 7 d\k:`, over(4, "G")),
		is(api.OK, `2 d\, 3 d\E\, 4 d\E\f:four, 6 H\, 7 g:`, over(7, "g")),
		is(api.OK, `2 d\, 3 d\E\, 6 H\, 7 g:`, over(4, "g"), over(7, "g")),
		// In the same directory.
		is(api.OK, treeTold+", 9 X:", file("x"), file("y"), over(9, "X")),
		// A file over a directory, with and without names in it; the one in which it stands.
		is(api.ErrKind, treeTold, over(5, "h")), is(api.ErrKind, treeTold, over(5, "d")), is(api.ErrKind, treeTold, over(5, `d\e`)), is(api.ErrKind, treeTold, over(4, `d\e`)), is(api.ErrKind, treeTold, over(4, "D")),
		// A directory over a file, also one under it or beside it.
		is(api.ErrKind, treeTold, over(6, "g")), is(api.ErrKind, treeTold, over(2, "G")), is(api.ErrKind, treeTold, over(6, `d\k`)), is(api.ErrKind, treeTold, over(3, `d\K`)),
		// A directory over a directory.
		is(api.ErrKind, treeTold, over(2, "h")), is(api.ErrKind, treeTold, over(6, "d")), is(api.ErrKind, treeTold, over(6, `d\e`)), is(api.ErrKind, treeTold, over(3, "d")),
		// Over what is not there, it is as if not.
		is(api.OK, `2 d\, 3 d\E\, 4 d\E\f:four, 5 H\x:fives, 6 H\, 7 d\k:`, over(5, `h\x`)),
		is(api.OK, `2 x\, 3 x\E\, 4 x\E\f:four, 5 g:fives, 6 H\, 7 x\k:`, over(2, "x")),
	})
}

// P16.2: where nothing may be moved to, and what may not be moved.
func TestMoveRefused(t *testing.T) {
	rows(t, mostQuota, tree(), []row{
		// Under itself, by whatever letters, whether that is there or not; to the root's path.
		is(api.ErrArg, treeTold, move(2, `d\x`)), is(api.ErrArg, treeTold, over(2, `D\x`)), is(api.ErrArg, treeTold, over(2, `d\k`)), is(api.ErrArg, treeTold, move(2, `D\e\x`)), is(api.ErrArg, treeTold, over(3, `d\e\F`)), is(api.ErrArg, treeTold, move(6, `h\h`)),
		is(api.ErrArg, treeTold, move(5, "")), is(api.ErrArg, treeTold, over(5, "")), is(api.ErrArg, treeTold, move(2, "")), is(api.ErrArg, treeTold, over(6, "")),
		// Through a file, and through what is not there.
		is(api.ErrKind, treeTold, move(2, `g\x`)), is(api.ErrKind, treeTold, over(6, `d\k\x`)), is(api.ErrKind, treeTold, move(7, `d\E\f\x`)), is(api.ErrKind, treeTold, over(5, `D\e\F\x\y`)),
		is(api.ErrNone, treeTold, move(2, `x\d`)), is(api.ErrNone, treeTold, over(5, `h\x\g`)), is(api.ErrNone, treeTold, move(7, `E\f`)),
		// The root.
		is(api.ErrArg, treeTold, move(1, "x")), is(api.ErrArg, treeTold, over(1, "g")), is(api.ErrArg, treeTold, move(1, "")), is(api.ErrArg, treeTold, over(1, `d\x`)),
	})
	for why, acts := range vols() {
		v, p := grown(t, why, mostQuota, acts...)
		for _, x := range p.l[1:] {
			for s, want := range noPaths() {
				for _, a := range []act{move(x.n, s), over(x.n, s)} {
					if _, e := a.of(v); e != want {
						t.Errorf("%s: %v = %d, want %d", why, a, e, want)
					}
				}
			}
		}
		stands(t, why, v, p)
	}
}

// P16.2: which error of Move is first, where several apply.
func TestMoveOrder(t *testing.T) {
	nine := strings.Repeat(`\x`, 8)
	// 8 is a directory at six names, with a file 14 and a directory 15 of seven names in it; in a file of seven names nothing may stand.
	first := append(tree(), dir(`h\i`), dir(`h\i\j`), dir(`h\i\j\k`), dir(`h\i\j\k\l`), dir(`h\i\j\k\l\m`), file(`h\i\j\k\l\m\n`), dir(`h\i\j\k\l\m\o`))
	v, p := grown(t, "", mostQuota, first...)
	for _, c := range []struct {
		act act
		e   api.Errno
	}{
		// A number that is nobody's, ahead of all that a path may be.
		{move(99, `a\\b`), api.ErrNone}, {move(0, "a"+nine), api.ErrNone}, {over(99, ""), api.ErrNone}, {move(-1, `g\x`), api.ErrNone}, {move(99, "g"), api.ErrNone}, {over(99, "d"), api.ErrNone},
		// The root, ahead of that.
		{move(1, "a"+nine), api.ErrArg}, {move(1, `x\y`), api.ErrArg}, {move(1, `g\x`), api.ErrArg}, {move(1, "g"), api.ErrArg}, {over(1, "h"), api.ErrArg}, {over(1, `d\x`), api.ErrArg},
		// What is no path, ahead of its being under the node's own, or its parent's not being there.
		{move(2, "d"+nine), api.ErrLimit}, {over(5, "g"+nine), api.ErrLimit}, {move(5, "none"+nine), api.ErrLimit}, {move(2, "g"+nine), api.ErrLimit}, {move(5, `none\.`), api.ErrArg}, {move(5, `g\.`), api.ErrArg}, {move(6, `d\k\*`), api.ErrArg},
		// Under the node's own, ahead of its parent's not being there, its being a file, too many names, and what is there.
		{move(2, `d\none\x`), api.ErrArg}, {move(2, `D\k\x`), api.ErrArg}, {over(2, `d\E\f\x`), api.ErrArg}, {move(5, `g\x`), api.ErrArg}, {move(5, `G\x\y`), api.ErrArg}, {over(2, `d\e\F`), api.ErrArg}, {move(2, `d\e`), api.ErrArg}, {move(6, `h\i\j\k\l\m\o\x`), api.ErrArg},
		// The parent, ahead of too many names.
		{move(2, `h\i\j\k\l\m\none\x`), api.ErrNone}, {move(2, `h\i\j\k\none\m\x`), api.ErrNone}, {move(2, `h\i\j\k\l\m\n\x`), api.ErrKind}, {over(2, `g\i\j\k\l\m\x`), api.ErrKind},
		// Too many names, ahead of what is there.
		{move(2, `h\i\j\k\l\m\n`), api.ErrLimit}, {over(2, `h\i\j\k\l\m\n`), api.ErrLimit}, {move(2, `h\i\j\k\l\m\o`), api.ErrLimit}, {over(2, `h\i\j\k\l\m\o`), api.ErrLimit}, {over(3, `h\i\j\k\l\m\o\x`), api.ErrLimit},
		// That it is there, ahead of what it is.
		{move(3, `h\i\j\k\l\m\n`), api.ErrTwice}, {over(3, `h\i\j\k\l\m\n`), api.ErrKind}, {move(3, `h\i\j\k\l\m\o`), api.ErrTwice}, {over(3, `h\i\j\k\l\m\o`), api.ErrKind}, {move(5, `h\i\j\k\l\m\o`), api.ErrTwice}, {over(5, `h\i\j\k\l\m\o`), api.ErrKind}, {move(5, `h\i\j\k\l\m\n`), api.ErrTwice},
	} {
		if _, e := c.act.of(v); e != c.e {
			t.Errorf("%v = %d, want %d", c.act, e, c.e)
		}
		if _, e := c.act.ofPlain(p); e != c.e {
			t.Errorf("%v of a plain one = %d, want %d", c.act, e, c.e)
		}
	}
	stands(t, "", v, p)
}

// P16.2: a path of just 8 names, and of 9, of what is moved, or of something under it: each depth of what is moved to each depth.
func TestMoveDeep(t *testing.T) {
	for height := range 8 {
		for depth := range 8 {
			// a\b\.. goes down, and moved\x\y\.. has so many names under it, of which the last one is a file.
			acts := append(deep(7), dir("moved"))
			s := "moved"
			for i := range height {
				s += `\` + string(rune('r'+i))
				if i == height-1 {
					acts = append(acts, file(s))
				} else {
					acts = append(acts, dir(s))
				}
			}
			to := strings.TrimPrefix(deepPath(depth)+`\X`, `\`)
			for _, a := range []act{move(9, to), over(9, to)} {
				v, p := grown(t, a, mostQuota, acts...)
				want := api.OK
				if depth+1+height > mostNames {
					want = api.ErrLimit
				}
				if _, e := a.of(v); e != want {
					t.Errorf("%d under it: %v = %d, want %d", height, a, e, want)
				}
				a.ofPlain(p)
				stands(t, a, v, p)
				if n, _ := v.Find(to); (n == 9) != (want == api.OK) {
					t.Errorf("%d under it: behind %v, Find = %d", height, a, n)
				}
			}
		}
	}
}

// P16.2: the deepest one under a node counts, wherever it stands among the others, and nothing that is not under it.
func TestMoveDeepest(t *testing.T) {
	for _, under := range [][]string{
		{`m\a`, `m\a\c`, `m\a\c\d`, `m\b`, `m\e`, `m\e\f`},
		{`m\a`, `m\b`, `m\e`, `m\e\f`, `m\e\f\d`, `m\b\c`},
		{`m\e`, `m\b`, `m\b\z`, `m\b\c`, `m\b\c\d`, `m\a`, `m\a\f`, `m\e\f`},
	} {
		acts := append(deep(7), dir("m"))
		for _, s := range under {
			acts = append(acts, dir(s))
		}
		// The deepest one has three names more than m.
		for depth, want := range map[int]api.Errno{0: api.OK, 3: api.OK, 4: api.OK, 5: api.ErrLimit, 6: api.ErrLimit, 7: api.ErrLimit} {
			v, p := grown(t, depth, mostQuota, acts...)
			a := move(9, strings.TrimPrefix(deepPath(depth)+`\m2`, `\`))
			if _, e := a.of(v); e != want {
				t.Errorf("%v = %d, want %d", a, e, want)
			}
			a.ofPlain(p)
			stands(t, a, v, p)
		}
	}
	// What is gone, or was moved out, does not count any more.
	v, p := grown(t, "", mostQuota, append(deep(6), dir("m"), dir(`m\x`), dir(`m\x\y`), dir(`m\x\z`))...)
	in := move(8, deepPath(6)+`\m`)
	for _, a := range []act{in, move(10, "y"), in, remove(11), in, move(9, `m\x`), move(10, `a\b\c\d\e\f\m\y`), move(10, `a\b\c\d\e\f\m\x\y`), remove(10)} {
		a.does(t, a, v, p)
		stands(t, a, v, p)
	}
	if s, e := v.Path(9); s != deepPath(6)+`\m\x` || e != api.OK {
		t.Errorf("Path(9) = %s, %d", s, e)
	}
}

// P16.4: a node that is moved has its number, its size and its bytes; what is under it is found under the new path, and not under the old one.
func TestMovedHas(t *testing.T) {
	for why, acts := range vols() {
		first, p := grown(t, why, mostQuota, acts...)
		for _, x := range p.l[1:] {
			old, _ := first.Path(x.n)
			for _, to := range []string{"t", "moved to", `H\m`, `d\m`, `a\m`, `A\b\m`, greatened(old), old} {
				v, p := grown(t, why, mostQuota, acts...)
				a := over(x.n, to)
				a.does(t, why, v, p)
				stands(t, fmt.Sprint(why, ", ", a), v, p)
				now, _ := p.path(x.n)
				for _, y := range p.l {
					s, _ := p.path(y.n)
					if rest := strings.TrimPrefix(s, now); y == p.at(x.n) || rest != s && rest[0] == '\\' {
						finds(t, why, v, p, old+rest)
						finds(t, why, v, p, greatened(now+rest))
					}
				}
			}
		}
	}
}

// P16.2: from place to place, again and again: no name stays behind, no number turns.
func TestMoveAgain(t *testing.T) {
	v, p := grown(t, "", 100, append(tree(), dir(`h\x`))...)
	places := []string{"q", `d\q`, `H\Q`, `d\e\q`, `h\X\q`, `D\Q`, "Q", `h\q`}
	for i := range 400 {
		for _, a := range []act{move(5, places[i%8]), over(4, places[(i+3)%8]), move(7, places[(i*3+1)%8]), move(2, []string{"d", `h\d`, "D", `h\x\d`}[i%4])} {
			a.does(t, i, v, p)
		}
		if i%40 == 0 {
			stands(t, i, v, p)
		}
	}
	stands(t, "", v, p)
}
