package vol_test

import (
	"bytes"
	"fmt"
	"math"
	"slices"
	"testing"
	"unsafe"

	"refectory/api"
	"refectory/vol"
)

// loose tells a text whose letters are those bytes: they may turn, as no text's do that the language made.
func loose(b []byte) string {
	return unsafe.String(unsafe.SliceData(b), len(b))
}

// spoil makes each byte another one, those in the room behind the end, too.
func spoil(b []byte) {
	b = b[:cap(b)]
	for i := range b {
		b[i] ^= 0x15
	}
}

// shared tells whether two texts have bytes in common, in memory.
func shared(a, b string) bool {
	from, with := uintptr(unsafe.Pointer(unsafe.StringData(a))), uintptr(unsafe.Pointer(unsafe.StringData(b)))
	return from < with+uintptr(len(b)) && with < from+uintptr(len(a))
}

// roomy tells the same bytes with room behind their end, in which others stand.
func roomy(b []byte) []byte {
	room := append(bytes.Clone(b), "room"...)
	return room[:len(b)]
}

// more are acts that may be done behind those of each of the volumes.
func more() []act {
	return []act{dir("New"), file(`new\A`), move(2, `NEW\Two`), move(2, "a"), over(3, `new\a`), file("Last one"), write(2, 1, "more"), write(3, 0, "bytes"), write(4, 2, ""), cut(2, 3), cut(3, 9)}
}

// Rule 5: paths and bytes that are handed in stay as they are, the room behind their end too, and are not kept: the volume does not turn with them.
func TestHandedIn(t *testing.T) {
	for why, acts := range vols() {
		v, p := grown(t, why, mostQuota)
		for _, a := range slices.Concat(acts, more()) {
			given := a
			s, b := roomy([]byte(a.path)), roomy(a.b)
			given.path, given.b = loose(s), b
			n, e := given.of(v)
			if m, f := a.ofPlain(p); n != m || e != f {
				t.Fatalf("%s: %v = %d, %d, want %d, %d", why, a, n, e, m, f)
			}
			if string(s[:cap(s)][:len(s)+4]) != a.path+"room" || string(b[:cap(b)][:len(b)+4]) != string(a.b)+"room" {
				t.Fatalf("%s: %v leaves %q, %q", why, a, s, b)
			}
			spoil(s)
			spoil(b)
			stands(t, why, v, p)
		}
	}
}

// Rule 5: what Find and List are handed stays as it is, and what is answered does not turn with it.
func TestAsked(t *testing.T) {
	for why, acts := range vols() {
		v, p := grown(t, why, mostQuota, acts...)
		for _, x := range p.l {
			path, _ := p.path(x.n)
			s := []byte(greatened(path))
			if n, e := v.Find(loose(s)); n != x.n || e != api.OK || string(s) != greatened(path) {
				t.Fatalf("%s: Find(%s) = %d, %d, and leaves %q", why, path, n, e, s)
			}
			spoil(s)
			for _, pattern := range []string{"*", "A*", "?"} {
				b, c := []byte(pattern), []byte("B")
				got, _, _ := v.List(x.n, loose(b), loose(c), 9)
				if string(b) != pattern || string(c) != "B" {
					t.Fatalf("%s: List(%d, %s, B) leaves %q, %q", why, x.n, pattern, b, c)
				}
				spoil(b)
				spoil(c)
				if want, _, _ := p.list(x.n, pattern, "B", 9); !slices.Equal(got, want) {
					t.Fatalf("%s: List(%d, %s, B) = %v, want %v", why, x.n, pattern, got, want)
				}
			}
		}
		stands(t, why, v, p)
	}
}

// Rule 5: what was answered may turn, with the room behind its end: neither the volume nor another answer turns with it.
func TestAnswersMayTurn(t *testing.T) {
	for why, acts := range vols() {
		v, p := grown(t, why, mostQuota, acts...)
		nodes, others := v.Nodes(), v.Nodes()
		for i := range nodes[:cap(nodes)] {
			nodes[:cap(nodes)][i] = -7
		}
		if !slices.Equal(others, p.nodes()) {
			t.Fatalf("%s: two answers of Nodes share", why)
		}
		for _, x := range p.l {
			l, _, _ := v.List(x.n, "*", "", math.MaxInt)
			two, _, _ := v.List(x.n, "*", "", math.MaxInt)
			for i := range l[:cap(l)] {
				l[:cap(l)][i] = api.Entry{Name: "turned", Stat: api.Stat{Kind: 9, Size: 9}}
			}
			if want, _, _ := p.list(x.n, "*", "", math.MaxInt); !slices.Equal(two, want) {
				t.Fatalf("%s: two answers of List(%d) share", why, x.n)
			}
			one, _ := v.Read(x.n, 0, mostBytes)
			other, _ := v.Read(x.n, 0, mostBytes)
			spoil(one)
			if want, _ := p.read(x.n, 0, mostBytes); !bytes.Equal(other, want) {
				t.Fatalf("%s: two answers of Read(%d) share", why, x.n)
			}
			stands(t, why, v, p)
		}
	}
}

// answers are what a volume answers of all its nodes.
type answers struct {
	nodes   []int
	used    int
	paths   []string
	stats   []api.Stat
	bytes   [][]byte
	entries [][]api.Entry
}

// asked asks a volume all that may be asked of these nodes.
func asked(v *vol.Vol, nodes []int) answers {
	a := answers{nodes: v.Nodes(), used: v.Used()}
	for _, n := range nodes {
		s, _ := v.Path(n)
		stat, _ := v.Stat(n)
		b, _ := v.Read(n, 0, mostBytes)
		l, _, _ := v.List(n, "*", "", math.MaxInt)
		a.paths, a.stats, a.bytes, a.entries = append(a.paths, s), append(a.stats, stat), append(a.bytes, b), append(a.entries, l)
	}
	return a
}

// same tells whether two volumes answered the same.
func (a answers) same(z answers) bool {
	return slices.Equal(a.nodes, z.nodes) && a.used == z.used && slices.Equal(a.paths, z.paths) && slices.Equal(a.stats, z.stats) && slices.EqualFunc(a.bytes, z.bytes, bytes.Equal) && slices.EqualFunc(a.entries, z.entries, slices.Equal)
}

// Rule 5: what was answered stays as it was, whatever is done to the volume behind it.
func TestAnsweredStays(t *testing.T) {
	for why, acts := range vols() {
		for _, a := range slices.Concat(more(), fewActs(), smallActs()) {
			v, p := grown(t, why, mostQuota, acts...)
			before, again := asked(v, p.nodes()), asked(v, p.nodes())
			if !before.same(again) {
				t.Fatalf("%s: asked twice, it answers %v and %v", why, before, again)
			}
			a.does(t, why, v, p)
			// The second one was answered in memory of its own: had the first one turned, that were to be seen.
			twin, q := grown(t, why, mostQuota, acts...)
			if !before.same(asked(twin, q.nodes())) {
				t.Fatalf("%s, %v: what was answered turns with the volume", why, a)
			}
		}
	}
}

// Rule 5: texts that are answered are new memory, each of them: they share no letters with what was handed in, nor with each other.
func TestNewMemory(t *testing.T) {
	given := []string{"First", `First\Second`, `First\Second\third one`, "Fourth"}
	v, _ := grown(t, "", mostQuota, dir(given[0]), dir(given[1]), file(given[2]), file(given[3]))
	to := `First\Fifth`
	if e := v.Move(5, to, false); e != api.OK {
		t.Fatalf("Move = %d", e)
	}
	all := append(given, to)
	for range 2 {
		for n := 2; n <= 5; n++ {
			s, _ := v.Path(n)
			all = append(all, s)
			l, _, _ := v.List(n, "*", "", 9)
			for _, x := range l {
				all = append(all, x.Name)
			}
		}
	}
	if len(all) != 5+2*(4+3) {
		t.Fatalf("%d texts: %q", len(all), all)
	}
	for i, s := range all {
		for _, z := range all[i+1:] {
			if shared(s, z) {
				t.Errorf("%q and %q share their letters", s, z)
			}
		}
	}
}

// Rule 5: two volumes share nothing, also where the same is done to both, by turns, with the same paths and bytes.
func TestTwoVols(t *testing.T) {
	for why, acts := range vols() {
		for _, a := range smallActs() {
			for _, b := range []act{dir("two"), remove(2), move(2, "two"), over(2, "a"), write(2, 0, "two"), cut(2, 1)} {
				told := fmt.Sprint(why, ", ", a, ", ", b)
				one, p := grown(t, told, mostQuota)
				two, q := grown(t, told, mostQuota)
				for _, x := range acts {
					x.does(t, told, one, p)
					x.does(t, told, two, q)
				}
				a.does(t, told, one, p)
				stands(t, told, two, q)
				b.does(t, told, two, q)
				stands(t, told, one, p)
				stands(t, told, two, q)
			}
		}
	}
	v, p := grown(t, "a new one behind all these", 1)
	stands(t, "a new one behind all these", v, p)
	if n, e := v.Make("a", api.KindFile); n != 2 || e != api.OK {
		t.Errorf("Make in a new one behind all these = %d, %d", n, e)
	}
}
