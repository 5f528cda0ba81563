package vol_test

import (
	"fmt"
	"math"
	"strings"
	"testing"

	"refectory/api"
	"refectory/vol"
)

// allActs are acts on each of a volume's nodes and paths, and on what is none of it: most of them are refused.
func allActs(p *plain) []act {
	paths := []string{"", "x", `x\y`, "a", `a\x`, "d", `d\E`, `d\k`, "g", `g\x`, `H\g`}
	for _, x := range p.l {
		s, _ := p.path(x.n)
		paths = append(paths, s, greatened(s), s+"x", s+`\x`)
	}
	for s := range noPaths() {
		paths = append(paths, s)
	}
	var l []act
	for _, s := range paths {
		l = append(l, file(s), dir(s), made(s, 0), made(s, 3))
	}
	for _, n := range append(p.nodes(), 0, -1, p.last+1, math.MaxInt, math.MinInt) {
		l = append(l, remove(n), write(n, 0, "ab"), write(n, 2, "x"), write(n, -1, ""), write(n, mostBytes, "x"), write(n, mostBytes, ""), cut(n, 0), cut(n, 3), cut(n, -1), cut(n, mostBytes+1), cut(n, mostBytes))
		for _, s := range paths {
			l = append(l, move(n, s), over(n, s))
		}
	}
	return l
}

// Rule 3, P16.4: what is refused changes nothing, of each act on volumes of all kinds, with room for their bytes alone: neither what may be asked nor the number of what is made then.
func TestRefused(t *testing.T) {
	for why, acts := range vols() {
		_, p := grown(t, why, mostQuota, acts...)
		most := 0
		for i := range acts {
			_, p := grown(t, why, mostQuota, acts[:i+1]...)
			most = max(most, p.used())
		}
		fresh := func() (*vol.Vol, *plain) { return grown(t, why, most, acts...) }
		v, q := fresh()
		for _, a := range allActs(p) {
			n, e := a.of(v)
			if m, f := a.ofPlain(q); n != m || e != f {
				t.Fatalf("%s: %v = %d, %d, want %d, %d", why, a, n, e, m, f)
			}
			if e == api.OK {
				// What was done turned it: the others are asked of a new one.
				v, q = fresh()
				continue
			}
			stands(t, fmt.Sprint(why, ", ", a), v, q)
		}
		if n, e := v.Make("behind all", api.KindDir); n != p.last+1 || e != api.OK {
			t.Errorf("%s: Make behind all = %d, %d, want %d", why, n, e, p.last+1)
		}
	}
}

// Rule 5: a volume that is none, and one that no call made, stay so, whatever is asked of them; ErrNil is ahead of all else.
func TestNone(t *testing.T) {
	_, p := grown(t, "", mostQuota, tree()...)
	acts := append(allActs(p), write(1, 0, some(mostBytes+1)), made("x", 255))
	for _, v := range []*vol.Vol{nil, {}, new(vol.Vol)} {
		for range 2 {
			for _, a := range acts {
				if n, e := a.of(v); n != 0 || e != api.ErrNil {
					t.Errorf("%v of none = %d, %d", a, n, e)
				}
			}
			for _, s := range []string{"", "a", `a\b`, `\`, "\xff", strings.Repeat(`a\`, 8) + "a"} {
				if n, e := v.Find(s); n != 0 || e != api.ErrNil {
					t.Errorf("Find(%s) of none = %d, %d", short(s), n, e)
				}
			}
			for _, n := range append(nobodys(), 1, 2, 3) {
				asksNone(t, v, n)
			}
			if v.Used() != 0 || len(v.Nodes()) != 0 {
				t.Errorf("none has %d bytes, %v", v.Used(), v.Nodes())
			}
		}
	}
}

// asksNone asks all that may be asked of a number of a volume that is none.
func asksNone(t *testing.T, v *vol.Vol, n int) {
	t.Helper()
	if stat, e := v.Stat(n); stat != (api.Stat{}) || e != api.ErrNil {
		t.Errorf("Stat(%d) of none = %v, %d", n, stat, e)
	}
	if s, e := v.Path(n); s != "" || e != api.ErrNil {
		t.Errorf("Path(%d) of none = %q, %d", n, s, e)
	}
	for _, at := range []int{0, 1, -1, math.MaxInt, math.MinInt} {
		for _, many := range []int{0, 1, -1, math.MaxInt, math.MinInt} {
			if b, e := v.Read(n, at, many); len(b) != 0 || e != api.ErrNil {
				t.Errorf("Read(%d, %d, %d) of none = %q, %d", n, at, many, b, e)
			}
		}
		for _, pattern := range []string{"*", "", "\xff", strings.Repeat("a", 65)} {
			for _, after := range []string{"", "a", "\xff"} {
				if l, more, e := v.List(n, pattern, after, at); len(l) != 0 || more || e != api.ErrNil {
					t.Errorf("List(%d, %s, %s, %d) of none = %v, %v, %d", n, short(pattern), short(after), at, l, more, e)
				}
			}
		}
	}
}

// Rule 2: beside an error all else that is answered is zero, of numbers that are nobody's, and of the wrong kind.
func TestZeroBesideErrors(t *testing.T) {
	for why, acts := range vols() {
		v, p := grown(t, why, mostQuota, acts...)
		for _, n := range nobodys() {
			if stat, e := v.Stat(n); stat != (api.Stat{}) || e != api.ErrNone {
				t.Errorf("%s: Stat(%d) = %v, %d", why, n, stat, e)
			}
			if s, e := v.Path(n); s != "" || e != api.ErrNone {
				t.Errorf("%s: Path(%d) = %q, %d", why, n, s, e)
			}
			if b, e := v.Read(n, 0, 0); len(b) != 0 || e != api.ErrNone {
				t.Errorf("%s: Read(%d) = %q, %d", why, n, b, e)
			}
			if l, more, e := v.List(n, "*", "", 0); len(l) != 0 || more || e != api.ErrNone {
				t.Errorf("%s: List(%d) = %v, %v, %d", why, n, l, more, e)
			}
		}
		for _, x := range p.l {
			if b, e := v.Read(x.n, 0, 1); len(b) != 0 && e != api.OK || x.kind == api.KindDir && e != api.ErrKind {
				t.Errorf("%s: Read(%d, 0, 1) = %q, %d", why, x.n, b, e)
			}
			if l, more, e := v.List(x.n, "*", "", 0); x.kind == api.KindFile && (e != api.ErrKind || len(l) != 0 || more) {
				t.Errorf("%s: List(%d) of a file = %v, %v, %d", why, x.n, l, more, e)
			}
		}
		stands(t, why, v, p)
	}
}
