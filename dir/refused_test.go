package dir_test

import (
	"fmt"
	"math"
	"strings"
	"testing"

	"refectory/api"
	"refectory/dir"
)

// refusal is an act that is refused, and by which error.
type refusal struct {
	act act
	e   api.Errno
}

// wrongNames are such as no call takes: the empty one, and no texts.
func wrongNames() []string {
	return append(noTexts(), "")
}

// refusals are the acts that no directory takes: ErrForm is ahead of a name's being there, or not.
func refusals() []refusal {
	var l []refusal
	for _, wrong := range wrongNames() {
		l = append(l, refusal{add(wrong, 1), api.ErrForm}, refusal{remove(wrong), api.ErrForm}, refusal{rename(wrong, wrong), api.ErrForm})
		for _, name := range []string{"a", "B", "ab", "none", "\ufffd", strings.Repeat("x", 300)} {
			l = append(l, refusal{rename(wrong, name), api.ErrForm}, refusal{rename(name, wrong), api.ErrForm})
		}
	}
	for _, name := range []string{"none", "NONE", strings.Repeat("x", 300), "\ufffd", "\U0010ffff"} {
		l = append(l, refusal{remove(name), api.ErrNone}, refusal{rename(name, name), api.ErrNone}, refusal{rename(name, "a"), api.ErrNone}, refusal{rename(name, "nor this"), api.ErrNone})
	}
	return l
}

// P15.1: what is refused, by the error that is named first, changes nothing.
func TestRefused(t *testing.T) {
	for why, acts := range dirs() {
		d, p := grown(t, why, acts)
		all := refusals()
		for _, x := range p.l {
			all = append(all, refusal{add(x.name, 77), api.ErrTwice}, refusal{add(fold(x.name), x.n), api.ErrTwice}, refusal{add(greatened(x.name), 77), api.ErrTwice})
			for _, y := range p.l {
				if x != y {
					all = append(all, refusal{rename(x.name, y.name), api.ErrTwice}, refusal{rename(fold(x.name), greatened(y.name)), api.ErrTwice})
				}
			}
		}
		before := p.twin()
		for _, r := range all {
			if e := r.act.of(d); e != r.e {
				t.Errorf("%s: %v = %d, want %d", why, r.act, e, r.e)
			}
			stands(t, fmt.Sprint(why, ", ", r.act), d, before)
		}
		// It takes what may be, as ever.
		for _, a := range []act{add("none", 5), rename("NONE", "More"), remove("more"), add("more", 6)} {
			a.does(t, why, d, p)
		}
		stands(t, why, d, p)
	}
}

// P15.1: Find of what is no name, and of what is not there.
func TestRefusedFind(t *testing.T) {
	for why, acts := range dirs() {
		d, p := grown(t, why, acts)
		for _, wrong := range wrongNames() {
			if n, own, e := d.Find(wrong); n != 0 || own != "" || e != api.ErrForm {
				t.Errorf("%s: Find(%s) = %d, %s, %d", why, short(wrong), n, short(own), e)
			}
		}
		for _, name := range []string{"none", "*", "?", "a*", "\ufffd", "\x00", strings.Repeat("b", 70000)} {
			if n, own, e := d.Find(name); n != 0 || own != "" || e != api.ErrNone {
				t.Errorf("%s: Find(%s) = %d, %s, %d", why, short(name), n, short(own), e)
			}
		}
		stands(t, why, d, p)
	}
}

// P15.1: what is no text is not alike to the letter that a range tells in its place.
func TestNoText(t *testing.T) {
	d, p := grown(t, "", []act{add("\ufffd", 1), add("a\ufffd", 2), add("\ufffdb", 3)})
	for _, name := range []string{"\xff", "\xef\xbf", "a\xff", "a\x80", "\xffb", "\xc3b"} {
		for _, a := range []act{add(name, 4), remove(name), rename(name, "c"), rename("\ufffd", name)} {
			if e := a.of(d); e != api.ErrForm {
				t.Errorf("%v = %d", a, e)
			}
		}
		finds(t, name, d, p, name)
		stands(t, name, d, p)
	}
}

// P15.2: what List refuses, and by which error: most, then the pattern, then a name that is too long, then after.
func TestRefusedList(t *testing.T) {
	long := []act{add(strings.Repeat("m", 257), 50)}
	for why, acts := range dirs() {
		for _, behind := range [][]act{nil, long} {
			d, p := grown(t, why, append(acts[:len(acts):len(acts)], behind...))
			named := api.OK
			if behind != nil {
				named = api.ErrLimit
			}
			for _, most := range []int{-1, -2, -1 << 31, -1 << 32, math.MinInt, 0, 1, math.MaxInt} {
				for _, pattern := range []string{"*", "", "a", "\xff", "*\x80", strings.Repeat("a", 64), strings.Repeat("a", 65), strings.Repeat("*", 65), strings.Repeat("é", 65), strings.Repeat("a", 65) + "\xff", "\xff" + strings.Repeat("*", 65)} {
					for _, after := range append(noTexts(), "", "a", "none", strings.Repeat("z", 300)) {
						want := first(most, pattern, named, after)
						names, more, e := d.List(pattern, after, most)
						if e != want || e != api.OK && (len(names) != 0 || more) {
							t.Fatalf("%s: List(%s, %s, %d) = %s, %v, %d, want %d", why, short(pattern), short(after), most, shorts(names), more, e, want)
						}
						lists(t, why, d, p, pattern, after, most)
					}
				}
			}
			stands(t, why, d, p)
		}
	}
}

// first tells the error that is named first: of most, of the pattern, that of the names, of after.
func first(most int, pattern string, named api.Errno, after string) api.Errno {
	switch {
	case most < 0:
		return api.ErrArg
	case strings.ContainsAny(pattern, "\xff\x80"):
		return api.ErrForm
	case strings.Count(pattern, "")-1 > 64:
		return api.ErrLimit
	case named != api.OK:
		return named
	case strings.ToValidUTF8(after, "") != after:
		return api.ErrForm
	}
	return api.OK
}

// P15.2: patterns at glob's limit, by letters of one byte and of more.
func TestPatternLengths(t *testing.T) {
	for _, letter := range []string{"a", "é", "\uffff", "\U00010348", "?", "*"} {
		for _, n := range []int{1, 2, 63, 64, 65, 66, 128, 256, 1000} {
			name := strings.Repeat(letter, min(n, 64))
			d, p := grown(t, n, []act{add(name, 1), add("b", 2)})
			want := api.OK
			if n > 64 {
				want = api.ErrLimit
			}
			pattern := strings.Repeat(letter, n)
			if _, _, e := d.List(pattern, "", 9); e != want {
				t.Errorf("List of %d times %s = %d, want %d", n, letter, e, want)
			}
			lists(t, n, d, p, pattern, "", 9)
			lists(t, n, dir.New(), &plain{}, pattern, "", 9)
		}
	}
}

// P15.1, P15.2: names may be of any length, but List refuses a directory with one that is longer than glob takes, wherever it stands, whatever it is asked; not any more when that one is gone.
func TestNameLengths(t *testing.T) {
	for _, letter := range []string{"m", "M", "é", "\uffff", "\U00010348", "*"} {
		for _, n := range []int{63, 64, 65, 255, 256, 257, 258, 300, 1024, 5000} {
			long := strings.Repeat(letter, n)
			want := api.OK
			if n > 256 {
				want = api.ErrLimit
			}
			d, p := grown(t, n, []act{add("a", 1), add(long, 2), add("\U0010ffff", 3), add("z", 4)})
			listed(t, d, p, want)
			finds(t, n, d, p, long)
			finds(t, n, d, p, greatened(long))
			finds(t, n, d, p, long+"x")
			finds(t, n, d, p, strings.Repeat(letter, n-1))
			for _, a := range []act{add(long, 5), rename("a", long), rename(long, "Z"), rename(long, long), rename(long, greatened(long))} {
				a.does(t, n, d, p)
				listed(t, d, p, want)
			}
			rename(long, "short").does(t, n, d, p)
			listed(t, d, p, api.OK)
			rename("short", long).does(t, n, d, p)
			listed(t, d, p, want)
			rename("z", long+"y").does(t, n, d, p)
			remove(long).does(t, n, d, p)
			remove(long+"y").does(t, n, d, p)
			listed(t, d, p, api.OK)
		}
	}
}

// listed asks for lists of all kinds, each of which has this error.
func listed(t *testing.T, d *dir.Dir, p *plain, want api.Errno) {
	t.Helper()
	stands(t, want, d, p)
	for _, pattern := range []string{"*", "", "a", "z", "?", "m*", "none"} {
		for _, after := range []string{"", "a", "b", "z", "\U0010ffff", "\U0010ffffa"} {
			for _, most := range []int{0, 1, 9} {
				if _, _, e := d.List(pattern, after, most); e != want {
					t.Fatalf("%d names: List(%s, %s, %d) = %d, want %d", d.Len(), pattern, short(after), most, e, want)
				}
				lists(t, want, d, p, pattern, after, most)
			}
		}
	}
}

// Rule 5: a directory that is none, and one that no call made, stay so, whatever is asked of them; ErrNil is ahead of all else.
func TestNone(t *testing.T) {
	for _, d := range []*dir.Dir{nil, {}, new(dir.Dir)} {
		names := append(wrongNames(), "a", "B", "none", strings.Repeat("a", 300))
		for range 2 {
			for _, name := range names {
				if n, own, e := d.Find(name); n != 0 || own != "" || e != api.ErrNil {
					t.Errorf("Find(%s) of none = %d, %s, %d", short(name), n, short(own), e)
				}
				for _, a := range []act{add(name, 1), remove(name), rename(name, "a"), rename("a", name), rename(name, name)} {
					if e := a.of(d); e != api.ErrNil {
						t.Errorf("%v of none = %d", a, e)
					}
				}
				for _, most := range []int{0, 1, -1, math.MaxInt, math.MinInt} {
					for _, l := range [][2]string{{"*", ""}, {name, ""}, {"*", name}, {name, name}} {
						if names, more, e := d.List(l[0], l[1], most); len(names) != 0 || more || e != api.ErrNil {
							t.Errorf("List(%s, %s, %d) of none = %s, %v, %d", short(l[0]), short(l[1]), most, shorts(names), more, e)
						}
					}
				}
			}
			if d.Len() != 0 {
				t.Errorf("Len of none = %d", d.Len())
			}
		}
	}
}
