package vol_test

import (
	"fmt"
	"math"
	"slices"
	"strings"
	"testing"

	"refectory/api"
)

// P16.3: Stat of files, of directories, of the root: the size is a file's own, and 0 of a directory, whatever is in it.
func TestStat(t *testing.T) {
	v, p := grown(t, "", mostQuota, append(tree(), cut(7, 600), dir(`H\x`), file("full"), cut(9, mostBytes))...)
	for n, want := range map[int]api.Stat{1: {Kind: api.KindDir}, 2: {Kind: api.KindDir}, 3: {Kind: api.KindDir}, 4: {Kind: api.KindFile, Size: 4}, 5: {Kind: api.KindFile, Size: 5}, 6: {Kind: api.KindDir}, 7: {Kind: api.KindFile, Size: 600}, 8: {Kind: api.KindDir}, 9: {Kind: api.KindFile, Size: mostBytes}} {
		if stat, e := v.Stat(n); stat != want || e != api.OK {
			t.Errorf("Stat(%d) = %v, %d, want %v", n, stat, e, want)
		}
	}
	for _, a := range []act{cut(4, 0), write(7, 650, "x"), move(7, "seven"), over(4, `g`), move(2, `h\x\d`)} {
		a.does(t, a, v, p)
		stands(t, a, v, p)
	}
}

// P16.3: Path tells each name as it was given, of the root none; another path by which a node was found or moved to does not turn its parents' letters.
func TestPath(t *testing.T) {
	v, p := grown(t, "", mostQuota, dir("Aa"), dir(`AA\Bb`), file(`aa\BB\Cc`), file(`AA\é É`), move(5, `aA\bB\dD`), file("\U00010348.\u212a"))
	for n, want := range map[int]string{1: "", 2: "Aa", 3: `Aa\Bb`, 4: `Aa\Bb\Cc`, 5: `Aa\Bb\dD`, 6: "\U00010348.\u212a"} {
		if s, e := v.Path(n); s != want || e != api.OK {
			t.Errorf("Path(%d) = %q, %d, want %q", n, s, e, want)
		}
	}
	stands(t, "", v, p)
	for _, c := range []struct {
		act  act
		want [3]string
	}{
		{move(2, "aA"), [3]string{"aA", `aA\Bb`, `aA\Bb\Cc`}},
		{move(3, `AA\bB`), [3]string{"aA", `aA\bB`, `aA\bB\Cc`}},
		{move(4, `AA\BB\CC`), [3]string{"aA", `aA\bB`, `aA\bB\CC`}},
		{move(3, "BB"), [3]string{"aA", "BB", `BB\CC`}},
		{over(2, `bb\X`), [3]string{`BB\X`, "BB", `BB\CC`}},
	} {
		c.act.does(t, c.act, v, p)
		for i, want := range c.want {
			if s, e := v.Path(2 + i); s != want || e != api.OK {
				t.Errorf("behind %v: Path(%d) = %q, %d, want %q", c.act, 2+i, s, e, want)
			}
		}
		stands(t, c.act, v, p)
	}
}

// P16.3: what is read, at each place and number that differs, of each file.
func TestRead(t *testing.T) {
	for why, acts := range vols() {
		v, p := grown(t, why, mostQuota, acts...)
		for _, n := range append(p.nodes(), nobodys()...) {
			stat, _ := v.Stat(n)
			for _, at := range []int{0, 1, 2, stat.Size - 1, stat.Size, stat.Size + 1, -1, mostBytes, mostBytes + 1, math.MaxInt, math.MinInt} {
				for _, many := range []int{0, 1, 2, stat.Size - 1, stat.Size, stat.Size + 1, -1, mostBytes + 1, math.MaxInt, math.MinInt} {
					reads(t, why, v, p, n, at, many)
				}
			}
		}
	}
	v, _ := grown(t, "", mostQuota, append(tree(), write(7, 2, "ab"))...)
	for _, c := range []struct {
		n, at, many int
		want        string
		e           api.Errno
	}{
		{4, 0, 4, "four", api.OK}, {4, 1, 2, "ou", api.OK}, {4, 1, 99, "our", api.OK}, {5, 4, 1, "s", api.OK}, {7, 0, 9, "\x00\x00ab", api.OK}, {7, 3, 1, "b", api.OK},
		{4, 4, 0, "", api.OK}, {4, 99, 0, "", api.OK}, {4, 4, 1, "", api.ErrEnd}, {4, 5, 1, "", api.ErrEnd}, {4, math.MaxInt, math.MaxInt, "", api.ErrEnd},
		{4, -1, 1, "", api.ErrArg}, {4, 0, -1, "", api.ErrArg}, {4, 9, -1, "", api.ErrArg}, {4, -1, 0, "", api.ErrArg},
		// A directory, and nobody, ahead of what the place is.
		{2, 0, 1, "", api.ErrKind}, {1, 0, 0, "", api.ErrKind}, {6, -1, -1, "", api.ErrKind}, {3, 9, 9, "", api.ErrKind}, {99, 0, 1, "", api.ErrNone}, {0, -1, -1, "", api.ErrNone}, {-4, 9, 9, "", api.ErrNone},
	} {
		if b, e := v.Read(c.n, c.at, c.many); string(b) != c.want || e != c.e {
			t.Errorf("Read(%d, %d, %d) = %q, %d, want %q, %d", c.n, c.at, c.many, b, e, c.want, c.e)
		}
	}
}

// behindTree is what the tree is told as where its two files have those bytes.
func behindTree(f, g string) string {
	return fmt.Sprint(`2 d\, 3 d\E\, 4 d\E\f:`, f, `, 5 g:`, g, `, 6 H\, 7 d\k:`)
}

// P16.3: what is written and cut, one file and no other one.
func TestWriteCut(t *testing.T) {
	rows(t, mostQuota, tree(), []row{
		is(api.OK, behindTree("Four", "fives"), write(4, 0, "F")), is(api.OK, behindTree("four", "fiXYs"), write(5, 2, "XY")), is(api.OK, behindTree("four", "fivesx"), write(5, 5, "x")), is(api.OK, behindTree("four00x", "fives"), write(4, 6, "x")), is(api.OK, behindTree("fo12345", "fives"), write(4, 2, "12345")),
		is(api.OK, treeTold, write(4, 2, "")), is(api.OK, treeTold, write(4, 4, "")), is(api.OK, treeTold, write(4, 99, "")), is(api.OK, treeTold, write(4, mostBytes+1, "")), is(api.OK, treeTold, write(4, math.MaxInt, "")),
		is(api.OK, behindTree("fo", "fives"), cut(4, 2)), is(api.OK, behindTree("", "fives"), cut(4, 0)), is(api.OK, behindTree("four000", "fives"), cut(4, 7)), is(api.OK, treeTold, cut(4, 4)), is(api.OK, behindTree("four", "fi00"), cut(5, 2), cut(5, 4)), is(api.OK, behindTree("four", "fi00x"), cut(5, 2), write(5, 4, "x")),
		// extent's errors.
		is(api.ErrArg, treeTold, write(4, -1, "x")), is(api.ErrArg, treeTold, write(4, -1, "")), is(api.ErrArg, treeTold, write(4, math.MinInt, some(mostBytes+1))), is(api.ErrLimit, treeTold, write(4, mostBytes, "x")), is(api.ErrLimit, treeTold, write(4, mostBytes-1, "xy")), is(api.ErrLimit, treeTold, write(4, 0, some(mostBytes+1))), is(api.ErrLimit, treeTold, write(4, math.MaxInt, "xy")),
		is(api.ErrArg, treeTold, cut(4, -1)), is(api.ErrArg, treeTold, cut(4, math.MinInt)), is(api.ErrLimit, treeTold, cut(4, mostBytes+1)), is(api.ErrLimit, treeTold, cut(4, math.MaxInt)),
		// A directory, and nobody, ahead of these.
		is(api.ErrKind, treeTold, write(2, 0, "x")), is(api.ErrKind, treeTold, write(1, 0, "")), is(api.ErrKind, treeTold, write(6, -1, "x")), is(api.ErrKind, treeTold, write(3, mostBytes, "x")), is(api.ErrKind, treeTold, cut(2, 0)), is(api.ErrKind, treeTold, cut(1, -1)), is(api.ErrKind, treeTold, cut(6, mostBytes+1)),
		is(api.ErrNone, treeTold, write(99, 0, "x")), is(api.ErrNone, treeTold, write(0, -1, "x")), is(api.ErrNone, treeTold, write(-5, mostBytes, "x")), is(api.ErrNone, treeTold, cut(99, 0)), is(api.ErrNone, treeTold, cut(0, -1)), is(api.ErrNone, treeTold, cut(-5, mostBytes+1)),
		// One that is gone.
		is(api.ErrNone, `2 d\, 3 d\E\, 4 d\E\f:four, 6 H\, 7 d\k:`, remove(5), write(5, 0, "x")), is(api.ErrNone, `2 d\, 3 d\E\, 4 d\E\f:four, 6 H\, 7 d\k:`, remove(5), cut(5, 0)),
	})
}

// P16.3: at the quota, and one byte above it: one file and several, growing and shrinking; what is gone makes room.
func TestQuota(t *testing.T) {
	// The files have 4 and 5 bytes of 12.
	rows(t, 12, tree(), []row{
		is(api.OK, behindTree("four123", "fives"), write(4, 4, "123")), is(api.ErrFull, treeTold, write(4, 4, "1234")), is(api.ErrFull, treeTold, write(4, 7, "x")), is(api.OK, behindTree("four00x", "fives"), write(4, 6, "x")), is(api.ErrFull, treeTold, write(4, 0, "12345678")), is(api.OK, behindTree("1234567", "fives"), write(4, 0, "1234567")),
		is(api.OK, behindTree("four000", "fives"), cut(4, 7)), is(api.ErrFull, treeTold, cut(4, 8)), is(api.OK, behindTree("four", "fives000"), cut(5, 8)), is(api.ErrFull, treeTold, cut(5, 9)), is(api.ErrFull, treeTold, cut(7, 4)), is(api.ErrFull, treeTold, cut(7, mostBytes)), is(api.ErrFull, treeTold, write(7, mostBytes-1, "x")),
		// Full: what does not grow is taken.
		is(api.OK, behindTree("fXYr000", "fives"), cut(4, 7), write(4, 1, "XY")), is(api.OK, behindTree("four000", "FIVES"), cut(4, 7), write(5, 0, "FIVES")), is(api.OK, behindTree("four000", "fives"), cut(4, 7), cut(5, 5)), is(api.OK, behindTree("four000", "fives"), cut(4, 7), write(5, 99, "")), is(api.ErrFull, behindTree("four000", "fives"), cut(4, 7), write(5, 4, "xy")), is(api.ErrFull, behindTree("four000", "fives"), cut(4, 7), write(7, 0, "x")), is(api.ErrFull, behindTree("four000", "fives"), cut(4, 7), cut(7, 1)),
		// What shrinks, or is gone, makes room for others.
		is(api.OK, behindTree("four0000", "five"), cut(4, 7), cut(5, 4), cut(4, 8)), is(api.ErrFull, behindTree("four000", "five"), cut(4, 7), cut(5, 4), cut(4, 9)), is(api.OK, `2 d\, 3 d\E\, 4 d\E\f:four00000000, 6 H\, 7 d\k:`, remove(5), cut(4, 12)), is(api.ErrFull, `2 d\, 3 d\E\, 4 d\E\f:four, 6 H\, 7 d\k:`, remove(5), cut(4, 13)), is(api.OK, `2 d\, 3 d\E\, 4 g:four00000000, 6 H\, 7 d\k:`, over(4, "g"), cut(4, 12)), is(api.ErrFull, `2 d\, 3 d\E\, 4 g:four, 6 H\, 7 d\k:`, over(4, "g"), cut(4, 13)),
		// Where it stands makes no other of it.
		is(api.ErrFull, `2 d\, 3 d\E\, 4 d\E\f:four, 5 H\g:fives, 6 H\, 7 d\k:`, move(5, `h\g`), cut(5, 9)), is(api.OK, `2 d\, 3 d\E\, 4 d\E\f:four, 5 H\g:fives000, 6 H\, 7 d\k:`, move(5, `h\g`), cut(5, 8)),
		// extent's errors are ahead of there being no room.
		is(api.ErrLimit, treeTold, cut(4, mostBytes+1)), is(api.ErrLimit, treeTold, write(4, mostBytes, "x")), is(api.ErrLimit, treeTold, write(4, 0, some(mostBytes+1))), is(api.ErrArg, treeTold, write(4, -1, some(99))), is(api.ErrArg, treeTold, cut(4, -1)), is(api.ErrKind, treeTold, cut(2, 99)), is(api.ErrKind, treeTold, write(1, 0, some(99))), is(api.ErrNone, treeTold, cut(99, 99)), is(api.ErrNone, treeTold, write(99, 0, some(99))),
	})
	rows(t, 0, []act{file("a"), dir("d")}, []row{
		is(api.OK, `2 a:, 3 d\`, write(2, 0, "")), is(api.OK, `2 a:, 3 d\`, write(2, 5, "")), is(api.OK, `2 a:, 3 d\`, cut(2, 0)), is(api.ErrFull, `2 a:, 3 d\`, write(2, 0, "x")), is(api.ErrFull, `2 a:, 3 d\`, cut(2, 1)), is(api.ErrLimit, `2 a:, 3 d\`, cut(2, mostBytes+1)),
		{[]act{file("b")}, 4, api.OK, `2 a:, 3 d\, 4 b:`},
	})
}

// P16.3: each size of a file beside another one, in a small quota, to each other size, by Cut and by Write.
func TestEachSize(t *testing.T) {
	const quota = 6
	for a := range quota + 1 {
		for b := range quota + 1 - a {
			for to := range quota + 2 {
				for _, x := range []act{cut(2, to), write(2, 0, strings.Repeat("x", to)), write(2, to-1, "x"), cut(3, to), write(3, to-2, "xy")} {
					v, p := grown(t, x, quota, file("a"), file("b"), cut(2, a), cut(3, b))
					x.does(t, fmt.Sprint(a, " and ", b), v, p)
					stands(t, fmt.Sprint(a, " and ", b, ", ", x), v, p)
				}
			}
		}
	}
}

// P16.3: the greatest quota: as many full files as it has room for, and not one byte more.
func TestFull(t *testing.T) {
	const files = mostQuota / mostBytes
	var acts []act
	for i := range files {
		acts = append(acts, file(fmt.Sprint("f", i)), write(2+i, 0, some(mostBytes)))
	}
	v, p := grown(t, "", mostQuota, append(acts, file("more"))...)
	if v.Used() != mostQuota {
		t.Errorf("%d bytes are used", v.Used())
	}
	for _, a := range []act{write(2+files, 0, "x"), cut(2+files, 1), write(2+files, mostBytes-1, "x"), write(5, 0, some(mostBytes)), cut(5, mostBytes), write(5, mostBytes, "x"), cut(9, mostBytes-1), cut(2+files, 2), write(2+files, 1, "x"), cut(2+files, 1), write(9, mostBytes-2, "xy"), remove(6), write(2+files, 0, some(mostBytes)), cut(9, mostBytes)} {
		a.does(t, a, v, p)
	}
	stands(t, "", v, p)
	// One byte less, and it is the last one that is refused.
	v, p = grown(t, "", mostQuota-1, acts[:len(acts)-1]...)
	for _, a := range []act{write(1+files, 0, some(mostBytes)), cut(1+files, mostBytes), write(1+files, 0, some(mostBytes-1))} {
		a.does(t, a, v, p)
	}
	stands(t, "", v, p)
	if v.Used() != mostQuota-1 {
		t.Errorf("%d bytes are used", v.Used())
	}
}

// P16.3: Nodes are all numbers, rising, behind any row of acts; Used is the sum of the sizes, also of files that stand deep.
func TestUsedNodes(t *testing.T) {
	v, p := grown(t, "", mostQuota, tree()...)
	for _, c := range []struct {
		act   act
		used  int
		nodes []int
	}{
		{write(7, 0, "seven"), 14, []int{1, 2, 3, 4, 5, 6, 7}}, {remove(6), 14, []int{1, 2, 3, 4, 5, 7}}, {file(`d\e\x`), 14, []int{1, 2, 3, 4, 5, 7, 8}}, {cut(8, 100), 114, []int{1, 2, 3, 4, 5, 7, 8}}, {remove(2), 114, []int{1, 2, 3, 4, 5, 7, 8}}, {over(5, `d\k`), 109, []int{1, 2, 3, 4, 5, 8}}, {remove(4), 105, []int{1, 2, 3, 5, 8}}, {dir("y"), 105, []int{1, 2, 3, 5, 8, 9}}, {move(2, `y\d`), 105, []int{1, 2, 3, 5, 8, 9}}, {remove(8), 5, []int{1, 2, 3, 5, 9}}, {cut(5, 0), 0, []int{1, 2, 3, 5, 9}},
	} {
		c.act.does(t, c.act, v, p)
		if n, l := v.Used(), v.Nodes(); n != c.used || !slices.Equal(l, c.nodes) {
			t.Errorf("behind %v: %d bytes, %v, want %d, %v", c.act, n, l, c.used, c.nodes)
		}
		stands(t, c.act, v, p)
	}
}
