package dir_test

import (
	"fmt"
	"math"
	"slices"
	"strings"
	"testing"

	"refectory/api"
	"refectory/dir"
)

// shelf is a directory of ten names, given in no order.
func shelf() *dir.Dir {
	return of("m.txt", "Abc", "x", "a", "B.TXT", "ab", "_", "É", "mm", "ABCD")
}

// asked is a List, and the names that it tells, with a blank between each two.
type asked struct {
	pattern, after string
	most           int
	want           string
	more           bool
}

// asks asks each of a directory.
func asks(t *testing.T, d *dir.Dir, l []asked) {
	t.Helper()
	for _, c := range l {
		names, more, e := d.List(c.pattern, c.after, c.most)
		if e != api.OK || more != c.more || !slices.Equal(names, strings.Fields(c.want)) {
			t.Errorf("List(%s, %s, %d) = %s, %v, %d, want %s, %v", short(c.pattern), short(c.after), c.most, shorts(names), more, e, c.want, c.more)
		}
	}
}

// P15.2: the names that a pattern fits, in order, as they were given.
func TestListPattern(t *testing.T) {
	asks(t, shelf(), []asked{
		{"*", "", 99, "_ a ab Abc ABCD B.TXT m.txt mm x É", false},
		{"**", "", 99, "_ a ab Abc ABCD B.TXT m.txt mm x É", false},
		// each letter for itself
		{"ab", "", 99, "ab", false},
		{"AB", "", 99, "ab", false},
		{"aBC", "", 99, "Abc", false},
		{"b.txt", "", 99, "B.TXT", false},
		{"É", "", 99, "É", false},
		{"é", "", 99, "", false},
		{"_", "", 99, "_", false},
		// * and ? at the beginning, at the end, between letters, alone
		{"a*", "", 99, "a ab Abc ABCD", false},
		{"A*", "", 99, "a ab Abc ABCD", false},
		{"*.txt", "", 99, "B.TXT m.txt", false},
		{"*.TXT", "", 99, "B.TXT m.txt", false},
		{"*b*", "", 99, "ab Abc ABCD B.TXT", false},
		{"a*c", "", 99, "Abc", false},
		{"A*D", "", 99, "ABCD", false},
		{"a*c*", "", 99, "Abc ABCD", false},
		{"m*m", "", 99, "mm", false},
		{"?", "", 99, "_ a x É", false},
		{"??", "", 99, "ab mm", false},
		{"a?", "", 99, "ab", false},
		{"?b", "", 99, "ab", false},
		{"a?c", "", 99, "Abc", false},
		{"A??d", "", 99, "ABCD", false},
		{"?????", "", 99, "B.TXT m.txt", false},
		{"?.t?t", "", 99, "B.TXT m.txt", false},
		{"??*", "", 99, "ab Abc ABCD B.TXT m.txt mm", false},
		{"?*?*?", "", 99, "Abc ABCD B.TXT m.txt", false},
		{"a?*", "", 99, "ab Abc ABCD", false},
		{"*?d", "", 99, "ABCD", false},
		// none
		{"", "", 99, "", false},
		{"", "", 0, "", false},
		{"b", "", 99, "", false},
		{"abcde", "", 99, "", false},
		{"b?", "", 99, "", false},
		{"*z*", "", 99, "", false},
		{"??????", "", 99, "", false},
		{"*.", "", 99, "", false},
		{" *", "", 99, "", false},
	})
	asks(t, dir.New(), []asked{{"*", "", 9, "", false}, {"*", "", 0, "", false}, {"", "", 9, "", false}, {"a", "b", 9, "", false}})
	// Names in which * and ? stand themselves.
	asks(t, of("a*", "ab", "?", "*", "a?b"), []asked{
		{"*", "", 9, "* ? a* a?b ab", false},
		{"?", "", 9, "* ?", false},
		{"a*", "", 9, "a* a?b ab", false},
		{"a?", "", 9, "a* ab", false},
		{"*", "*", 9, "? a* a?b ab", false},
		{"*", "?", 9, "a* a?b ab", false},
		{"*", "a*", 9, "a?b ab", false},
	})
}

// P15.2: those to which after is ahead: none, a name, one that is alike, a text that is no name of it, wherever it stands.
func TestListAfter(t *testing.T) {
	all := "_ a ab Abc ABCD B.TXT m.txt mm x É"
	asks(t, shelf(), []asked{
		// ahead of all
		{"*", "", 99, all, false},
		{"*", " ", 99, all, false},
		{"*", "\x00", 99, all, false},
		{"*", "0", 99, all, false},
		{"*", "^", 99, all, false},
		// a name, and one that is alike
		{"*", "_", 99, "a ab Abc ABCD B.TXT m.txt mm x É", false},
		{"*", "a", 99, "ab Abc ABCD B.TXT m.txt mm x É", false},
		{"*", "A", 99, "ab Abc ABCD B.TXT m.txt mm x É", false},
		{"*", "ab", 99, "Abc ABCD B.TXT m.txt mm x É", false},
		{"*", "AB", 99, "Abc ABCD B.TXT m.txt mm x É", false},
		{"*", "Abc", 99, "ABCD B.TXT m.txt mm x É", false},
		{"*", "abC", 99, "ABCD B.TXT m.txt mm x É", false},
		{"*", "abcd", 99, "B.TXT m.txt mm x É", false},
		{"*", "b.txt", 99, "m.txt mm x É", false},
		{"*", "M.TXT", 99, "mm x É", false},
		{"*", "MM", 99, "x É", false},
		{"*", "X", 99, "É", false},
		// between two names
		{"*", "`", 99, "a ab Abc ABCD B.TXT m.txt mm x É", false},
		{"*", "a\x00", 99, "ab Abc ABCD B.TXT m.txt mm x É", false},
		{"*", "Aa", 99, "ab Abc ABCD B.TXT m.txt mm x É", false},
		{"*", "aba", 99, "Abc ABCD B.TXT m.txt mm x É", false},
		{"*", "ABB", 99, "Abc ABCD B.TXT m.txt mm x É", false},
		{"*", "abca", 99, "ABCD B.TXT m.txt mm x É", false},
		{"*", "abcda", 99, "B.TXT m.txt mm x É", false},
		{"*", "ac", 99, "B.TXT m.txt mm x É", false},
		{"*", "B", 99, "B.TXT m.txt mm x É", false},
		{"*", "b.u", 99, "m.txt mm x É", false},
		{"*", "Z", 99, "É", false},
		{"*", "{", 99, "É", false},
		// behind all
		{"*", "É", 99, "", false},
		{"*", "é", 99, "", false},
		{"*", "Éa", 99, "", false},
		{"*", "\U0010ffff", 99, "", false},
		// a pattern is none of it
		{"*", "*", 99, all, false},
		{"*", strings.Repeat("a", 1000), 99, "ab Abc ABCD B.TXT m.txt mm x É", false},
		{"*", strings.Repeat("É", 1000), 99, "", false},
		// with a pattern that does not fit all
		{"a*", "a", 99, "ab Abc ABCD", false},
		{"a*", "ABC", 99, "ABCD", false},
		{"a*", "abcd", 99, "", false},
		{"a*", "m", 99, "", false},
		{"*.txt", "b", 99, "B.TXT m.txt", false},
		{"*.txt", "b.TXT", 99, "m.txt", false},
		{"*.txt", "c", 99, "m.txt", false},
		{"*.txt", "mm", 99, "", false},
		{"?", "a", 99, "x É", false},
		{"ab", "AB", 99, "", false},
		{"ab", "A", 99, "ab", false},
		{"", "a", 99, "", false},
	})
	// By letters, not by units of 16 bits, and folded.
	asks(t, of("\U00010348", "\ufffd", "é", "Z", "\U00010348a", "\u212a", "\ue000"), []asked{
		{"*", "", 9, "Z é \u212a \ue000 \ufffd \U00010348 \U00010348a", false},
		{"*", "\u212a", 9, "\ue000 \ufffd \U00010348 \U00010348a", false},
		{"*", "\ufffd", 9, "\U00010348 \U00010348a", false},
		{"*", "\U00010348", 9, "\U00010348a", false},
		{"*", "\U00010000", 9, "\U00010348 \U00010348a", false},
		{"?", "K", 9, "Z é \u212a \ue000 \ufffd \U00010348", false},
	})
}

// P15.2: most at most, and whether there are more: those that the pattern does not fit, and those ahead, are none.
func TestListMost(t *testing.T) {
	all := "_ a ab Abc ABCD B.TXT m.txt mm x É"
	asks(t, shelf(), []asked{
		{"*", "", 0, "", true},
		{"*", "", 1, "_", true},
		{"*", "", 2, "_ a", true},
		{"*", "", 9, "_ a ab Abc ABCD B.TXT m.txt mm x", true},
		{"*", "", 10, all, false},
		{"*", "", 11, all, false},
		{"*", "", math.MaxInt, all, false},
		{"*", "x", 0, "", true},
		{"*", "x", 1, "É", false},
		{"*", "x", 2, "É", false},
		{"*", "mm", 1, "x", true},
		{"*", "é", 0, "", false},
		{"*", "É", 0, "", false},
		{"*", "É", 1, "", false},
		// what follows does not fit
		{"a*", "", 0, "", true},
		{"a*", "", 3, "a ab Abc", true},
		{"a*", "", 4, "a ab Abc ABCD", false},
		{"a*", "", 5, "a ab Abc ABCD", false},
		{"a*", "abc", 0, "", true},
		{"a*", "abc", 1, "ABCD", false},
		{"a*", "abcd", 0, "", false},
		{"_", "", 0, "", true},
		{"_", "", 1, "_", false},
		{"_", "_", 0, "", false},
		{"ab", "", 0, "", true},
		{"ab", "", 1, "ab", false},
		{"ab", "ab", 0, "", false},
		// of those that follow some do not fit, and one behind them does
		{"*.txt", "", 0, "", true},
		{"*.txt", "", 1, "B.TXT", true},
		{"*.txt", "", 2, "B.TXT m.txt", false},
		{"*.txt", "", 3, "B.TXT m.txt", false},
		{"*.txt", "b.txt", 0, "", true},
		{"*.txt", "b.txt", 1, "m.txt", false},
		{"?", "", 3, "_ a x", true},
		{"?", "", 4, "_ a x É", false},
		{"?", "a", 1, "x", true},
		{"?", "x", 1, "É", false},
		// none fits
		{"z", "", 0, "", false},
		{"z", "", 1, "", false},
		{"", "", 0, "", false},
		{"", "", 1, "", false},
		{"", "", math.MaxInt, "", false},
	})
}

// patterns are some that fit all, some, one or none.
func patterns() []string {
	return []string{"*", "", "a", "A", "b*", "*B", "a*", "*a", "*a*", "?", "??", "?*", "*?b", "a?", "a?c", "a*c", "m*", "*.*", "É", "é*", "x", "zz", "**", "a*b*", "_", `\`, strings.Repeat("?", 64), strings.Repeat("*", 64)}
}

// afters are texts ahead of, between and behind names, and names.
func afters() []string {
	return slices.Concat(others(), []string{"", "\x00", "0", "AA", "aa", "aaa", "abc", "ABCD", "m", "MM", "Q", "x", "Y", "é ", "\U0010ffff", strings.Repeat("b", 257), strings.Repeat("É", 300)})
}

// P15.2: each pattern behind each text, for each most, of each directory, as of a plain list.
func TestListAll(t *testing.T) {
	for why, acts := range dirs() {
		d, p := grown(t, why, acts)
		for _, pattern := range patterns() {
			for _, after := range afters() {
				for _, most := range []int{0, 1, 2, d.Len() - 1, d.Len(), d.Len() + 1, -1, 1 << 32, math.MaxInt} {
					lists(t, why, d, p, pattern, after, most)
				}
			}
		}
		stands(t, why, d, p)
	}
}

// P15.3: List, again and again from the last name on, tells each once, rising.
func TestListOn(t *testing.T) {
	for why, acts := range dirs() {
		d, p := grown(t, why, acts)
		on(t, why, d, p)
	}
	d, p := dir.New(), &plain{}
	for i := range 60 {
		add(fmt.Sprintf("%c%d%c", "aBcDé"[i%3], i*37%60, "xY"[i%2]), i).does(t, i, d, p)
	}
	on(t, "sixty", d, p)
}

// pieces are the lengths of pieces in which a directory of n names is listed: each, or of many names some.
func pieces(n int) []int {
	l := []int{1, 2, 3, 7, n/2 + 1, n - 1, n, n + 1}
	if n < 12 {
		l = []int{1, 2, 3, 4, 5, 6, 7, 8, 9, 10, 11, 12}
	}
	return slices.DeleteFunc(l, func(most int) bool { return most < 1 })
}

// on lists a directory in pieces, by each pattern, and by the last name, folded or not.
func on(t *testing.T, why any, d *dir.Dir, p *plain) {
	t.Helper()
	for _, pattern := range patterns() {
		want, _, _ := p.list(pattern, "", math.MaxInt)
		for _, most := range pieces(d.Len()) {
			for _, turned := range []func(string) string{strings.Clone, fold, greatened} {
				var got []string
				after, more := "", true
				for more {
					names, further, e := d.List(pattern, after, most)
					if e != api.OK || len(names) > most || further && len(names) < most || len(got) > len(want) {
						t.Fatalf("%v: List(%s, %s, %d) = %s, %v, %d", why, pattern, after, most, shorts(names), further, e)
					}
					got, more = append(got, names...), further
					if more {
						after = turned(names[most-1])
					}
				}
				if !slices.Equal(got, want) {
					t.Fatalf("%v: by %d, %s: %s, want %s", why, most, pattern, shorts(got), shorts(want))
				}
			}
		}
	}
}

// greatened makes each letter a to z the one of A to Z.
func greatened(s string) string {
	return strings.Map(func(r rune) rune {
		if r >= 'a' && r <= 'z' {
			return r - 'a' + 'A'
		}
		return r
	}, s)
}

// P15.2, P15.3: names that come and go while a directory is listed: those that stay are told once, and what is told rises.
func TestListTurning(t *testing.T) {
	d := of("b", "d", "F", "h", "J", "l")
	var got []string
	for i, c := range []struct {
		act  act
		want string
		more bool
	}{
		{add("a", 9), "a", true},
		{remove("b"), "d", true},
		{add("c", 9), "F", true},
		{rename("f", "G"), "G", true},
		{rename("h", "E"), "J", true},
		{add("K", 9), "K", true},
		{remove("l"), "", false},
	} {
		c.act.of(d)
		after := ""
		if i > 0 {
			after = got[len(got)-1]
		}
		names, more, e := d.List("*", after, 1)
		if e != api.OK || more != c.more || strings.Join(names, " ") != c.want {
			t.Fatalf("behind %v: List(*, %s, 1) = %q, %v, %d, want %s", c.act, after, names, more, e, c.want)
		}
		got = append(got, names...)
	}
	asks(t, d, []asked{{"*", "", 99, "a c d E G J K", false}})
}
