package glob

import (
	"regexp"
	"slices"
	"strings"
	"testing"

	"refectory/api"
	"refectory/utf"
)

// noTexts are strings with bytes that belong to no letter, * and ? beside them too.
var noTexts = []string{
	"\xff", "\x80", "a\xff", "\xffa", "*\xff", "\xff*", "?\x80", "a\xc3", "\xe2\x82", "\xc0\x80", "\xed\xa0\x80", "\xf4\x90\x80\x80", "\ufffd\xff",
	"a\xc3*", strings.Repeat("a", 64) + "\xff", strings.Repeat("*", 65) + "\xff", "\xff" + strings.Repeat("a", 300),
}

// letters are letters of one byte and of more, and of two units.
var letters = []string{"a", "A", "?", "*", "\x00", "é", "\ufffd", "€", "\U00010348", "\U0010ffff"}

// folded tells s with the letters A to Z as a to z.
func folded(s string) string {
	return strings.Map(func(r rune) rune {
		if i := strings.IndexRune("ABCDEFGHIJKLMNOPQRSTUVWXYZ", r); i >= 0 {
			return rune("abcdefghijklmnopqrstuvwxyz"[i])
		}
		return r
	}, s)
}

// likened tells what fits a text as the pattern does, by the language's own library.
func likened(pattern string) func(s string) bool {
	b := strings.Builder{}
	b.WriteString(`\A(?s:`)
	for _, r := range folded(pattern) {
		switch r {
		case '*':
			b.WriteString(`.*`)
		case '?':
			b.WriteString(`.`)
		default:
			b.WriteString(regexp.QuoteMeta(string(r)))
		}
	}
	b.WriteString(`)\z`)
	x := regexp.MustCompile(b.String())
	return func(s string) bool { return x.MatchString(folded(s)) }
}

// rows are all strings of up to most of these letters.
func rows(most int, of ...string) []string {
	all := []string{""}
	for last := all; most > 0; most-- {
		var longer []string
		for _, s := range last {
			for _, r := range of {
				longer = append(longer, s+r)
			}
		}
		all = append(all, longer...)
		last = longer
	}
	return all
}

// fitted tells whether a pattern fits a text, neither of which is refused.
func fitted(t *testing.T, pattern, s string) bool {
	t.Helper()
	ok, e := Fits(pattern, s)
	if e != api.OK {
		t.Fatalf("Fits(%q, %q) = %t, %d", pattern, s, ok, e)
	}
	return ok
}

// P5.1: the chapter's examples, and what stands for what.
func TestFits(t *testing.T) {
	for _, c := range []struct {
		pattern, s string
		want       bool
	}{
		{"*.TXT", "a.txt", true}, {"a?c", "abc", true}, {"a?c", "ac", false}, {"*", "", true}, {"", "a", false}, {"**a*", "ba", true},

		{"", "", true}, {"a", "a", true}, {"a", "", false}, {"a", "b", false}, {"a", "aa", false}, {"aa", "a", false}, {"abc", "abd", false}, {"abc", "xbc", false},

		{"?", "a", true}, {"?", "", false}, {"?", "aa", false}, {"??", "ab", true}, {"??", "a", false}, {"??", "abc", false},
		{"?", "é", true}, {"?", "€", true}, {"?", "\U00010348", true}, {"??", "é", false}, {"??", "\U00010348", false}, {"????", "\U00010348", false},
		{"?", "?", true}, {"?", "*", true}, {"?", "\x00", true}, {"?", "\n", true}, {"?", "\\", true}, {"?", "\ufffd", true},

		{"*", "a", true}, {"*", "abc.def", true}, {"*", "a\\b\n.c", true}, {"*", "*", true}, {"*", "?", true}, {"**", "", true}, {"***", "ab", true},
		{"a*", "a", true}, {"a*", "abc", true}, {"a*", "ba", false}, {"a*", "", false}, {"*a", "a", true}, {"*a", "bca", true}, {"*a", "ab", false}, {"*a", "", false},
		{"a*b", "ab", true}, {"a*b", "axyb", true}, {"a*b", "axyc", false}, {"a*a", "a", false}, {"a*a", "aa", true}, {"*a*", "bab", true}, {"*a*", "bb", false},
		{"*é", "é", true}, {"é*€", "é\U00010348€", true}, {"*\U00010348", "\U00010349", false}, {"é", "è", false},

		{"?*", "", false}, {"?*", "a", true}, {"?*", "ab", true}, {"*?", "", false}, {"*?", "a", true}, {"*?", "ab", true}, {"?*?", "a", false}, {"?*?", "ab", true}, {"?*?", "abc", true},
		{"*?*?*", "a", false}, {"*?*?*", "ab", true}, {"a*?b", "ab", false}, {"a*?b", "acb", true}, {"a?*b", "accb", true}, {"??*a", "ba", false}, {"??*a", "bca", true},
		{"*.*", "a", false}, {"*.*", ".", true}, {"*.*", "a.b.c", true}, {"*.", "a", false}, {"a.?", "a.", false}, {"[a-b]", "a", false}, {"[a-b]", "[a-b]", true}, {"a|b", "a", false}, {"\\*", "*", false}, {"\\*", "\\a", true},

		// A letter of the text that is spelt * or ? is one as any other.
		{"a", "*", false}, {"a", "?", false}, {"ab", "a*", false}, {"ab", "a?", false}, {"", "*", false}, {"a*c", "a*bc", true}, {"*a", "*", false}, {"**", "*", true}, {"?a", "*", false}, {"?*a", "*a", true}, {"*b", "*a*b", true},
	} {
		if got, e := Fits(c.pattern, c.s); got != c.want || e != api.OK {
			t.Errorf("Fits(%q, %q) = %t, %d", c.pattern, c.s, got, e)
		}
	}
}

// P5.1: letters that are alike by folding, and those that other rules would make alike.
func TestFitsFolded(t *testing.T) {
	for _, c := range []struct {
		pattern, s string
		want       bool
	}{
		{"abc", "ABC", true}, {"ABC", "abc", true}, {"aBc", "AbC", true}, {"*Z", "az", true}, {"*z", "AZ", true}, {"A?C*", "abcd", true}, {"a*A", "aA", true},
		{"é", "É", false}, {"É", "é", false}, {"ß", "SS", false}, {"k", "\u212a", false}, {"\u212a", "K", false}, {"s", "ſ", false}, {"i", "İ", false}, {"e\u0301", "é", false},
		{"@", "`", false}, {"[", "{", false}, {"\x00", " ", false}, {"*É", "aé", false}, {"*É", "AÉ", true},
	} {
		if got, e := Fits(c.pattern, c.s); got != c.want || e != api.OK {
			t.Errorf("Fits(%q, %q) = %t, %d", c.pattern, c.s, got, e)
		}
	}
	for r := rune(0); r < 0x250; r++ {
		for q := rune(0); q < 0x80; q++ {
			if want := folded(string(r)) == folded(string(q)) || q == '*' || q == '?'; fitted(t, string(q), string(r)) != want {
				t.Errorf("Fits(%q, %q) = %t", q, r, !want)
			}
		}
	}
}

// P5.1: what a * stands for is taken back again, as often as it must be; and what nearly fits.
func TestFitsTakenBack(t *testing.T) {
	for _, c := range []struct {
		pattern, s string
		want       bool
	}{
		{"*ab", "aab", true}, {"*ab", "abab", true}, {"*ab", "aba", false}, {"*aab", "aaaab", true}, {"a*ab", "aab", true}, {"a*ab", "ab", false}, {"*abac", "ababac", true}, {"*abac", "ababab", false},
		{"*ab*cd", "abxabcxcd", true}, {"*ab*cd", "abxabcxc", false}, {"*a?b", "aaab", true}, {"*a?b", "aab", true}, {"*a?b", "ab", false}, {"*a*b*c", "cbabcabc", true}, {"*a*b*c", "cbacb", false},
		{"a*b*c", "abcbc", true}, {"a*b*c", "abcbca", false}, {"*.tar.*", "a.tar.b.tar", true}, {"*.tar.*", "a.tar", false}, {"*é*é", "éaé", true}, {"*é*é", "aé", false}, {"*?a", "aa", true}, {"*?a", "a", false},
		{"**?**a**?**", "xay", true}, {"**?**a**?**", "xa", false}, {"*aa*aa*", "aaa", false}, {"*aa*aa*", "aaaa", true}, {"mi*sip*", "mississippi", true}, {"mi*issi*pi", "mississippi", true}, {"mi*issi*issi", "mississippi", false},
	} {
		if got, e := Fits(c.pattern, c.s); got != c.want || e != api.OK {
			t.Errorf("Fits(%q, %q) = %t, %d", c.pattern, c.s, got, e)
		}
	}
}

// P5.1: all short patterns and texts, held against the language's own library.
func TestFitsAll(t *testing.T) {
	patterns := slices.Concat(rows(5, "a", "B", "?", "*"), rows(4, "é", "\U00010348", "?", "*"))
	texts := slices.Concat(rows(4, "A", "b", "?", "*"), rows(4, "é", "É", "\n", "\U00010348"), rows(7, "a", "b"))
	for _, p := range patterns {
		want := likened(p)
		for _, s := range texts {
			if got := fitted(t, p, s); got != want(s) {
				t.Fatalf("Fits(%q, %q) = %t", p, s, got)
			}
		}
	}
}

// P5.1: as long as may be, a letter less and a letter more, of letters of whatever many bytes: letters are counted, not bytes, nor units.
func TestFitsLengths(t *testing.T) {
	for _, a := range letters {
		for _, b := range letters {
			for _, n := range []int{0, 1, 63, 64, 65} {
				for _, m := range []int{0, 1, 63, 64, 65, 255, 256, 257} {
					p, s := strings.Repeat(a, n), strings.Repeat(b, m)
					got, e := Fits(p, s)
					switch {
					case n > 64, m > 256:
						if got || e != api.ErrLimit {
							t.Errorf("Fits of %d of %q and %d of %q = %t, %d; want ErrLimit", n, a, m, b, got, e)
						}
					case got != likened(p)(s), e != api.OK:
						t.Errorf("Fits of %d of %q and %d of %q = %t, %d", n, a, m, b, got, e)
					}
				}
			}
		}
	}
}

// P5.1: long patterns that fit long texts, or just don't, in as many ways as there may be.
func TestFitsLong(t *testing.T) {
	rep := strings.Repeat
	for _, p := range []string{
		rep("*a", 32), rep("a*", 32), rep("*?", 32), rep("?*", 32), rep("**", 32), rep("*a?", 21), rep("*ab", 21), rep("*a", 31) + "*", rep("*a", 31) + "*b", rep("*", 63) + "b", rep("*", 62) + "b*", "b" + rep("*", 63), "b" + rep("?", 63), rep("?", 63) + "b", rep("?", 62) + "b*", rep("**?", 21), rep("*é", 32), rep("*\U00010348", 31) + "*a", "a" + rep("*", 62) + "b",
	} {
		want := likened(p)
		for _, n := range []int{20, 21, 30, 31, 32, 33, 62, 63, 64, 65, 254, 255, 256} {
			for _, s := range []string{rep("a", n), rep("A", n-1) + "b", "b" + rep("a", n-1), rep("ab", n/2), rep("é", n), rep("\U00010348", n-1) + "A", rep("a", n/2) + rep("b", n/2)} {
				if got := fitted(t, p, s); got != want(s) {
					t.Errorf("Fits(%q, %q) = %t", p, s, got)
				}
			}
		}
	}
}

// P5.1: what is no text, whichever of the two it is, is told ahead of what is too long.
func TestFitsErrors(t *testing.T) {
	many := func(n int) string { return strings.Repeat("a", n) }
	for _, s := range noTexts {
		for _, z := range []string{"", "a", "*", "?", many(64), many(65), many(256), many(257), s, "\xff"} {
			if ok, e := Fits(s, z); ok || e != api.ErrForm {
				t.Errorf("Fits(%q, %q) = %t, %d; want ErrForm", s, z, ok, e)
			}
			if ok, e := Fits(z, s); ok || e != api.ErrForm {
				t.Errorf("Fits(%q, %q) = %t, %d; want ErrForm", z, s, ok, e)
			}
		}
	}
	for _, c := range [][2]string{{many(65), ""}, {many(65), many(65)}, {many(65), many(257)}, {"", many(257)}, {"*", many(257)}, {strings.Repeat("*", 65), ""}, {strings.Repeat("*", 65), many(256)}, {many(64) + "*", many(64)}, {many(100000), many(100000)}, {"*", strings.Repeat("€", 257)}} {
		if ok, e := Fits(c[0], c[1]); ok || e != api.ErrLimit {
			t.Errorf("Fits(%q, %q) = %t, %d; want ErrLimit", c[0], c[1], ok, e)
		}
	}
}

// P5.2: plain is a text, however long, without * and ?.
func TestPlain(t *testing.T) {
	for s, want := range map[string]bool{
		"a.b": true, "a*": false, "": true, "a": true, "*": false, "?": false, "a?": false, "?a": false, "*a": false, "a*b": false, "a?b": false, "*?": false, "AbÉ": true,
		"\U00010348\ufffd": true, "é*": false, "€?": false, "\x00": true, "\\ \n": true, "\uff0a\uff1f": true, "[a-z]": true, "\u012a\u013f": true,
	} {
		if got := Plain(s); got != want {
			t.Errorf("Plain(%q) = %t", s, got)
		}
	}
	for _, s := range noTexts {
		if Plain(s) {
			t.Errorf("Plain(%q)", s)
		}
	}
	for _, n := range []int{63, 64, 65, 256, 257, 100000} {
		long := strings.Repeat("é", n)
		if !Plain(long) || Plain(long+"*") || Plain("?"+long) || Plain(long+"\xff") {
			t.Errorf("Plain of %d letters", n)
		}
	}
}

// P5.2: the chapter's examples, and rows wherever they stand.
func TestShort(t *testing.T) {
	for s, want := range map[string]string{
		"a**?*b": "a?*b", "?*?": "??*",
		"": "", "a": "a", "*": "*", "?": "?", "**": "*", "??": "??", "?*": "?*", "*?": "?*", "*?*": "?*", "*?*?*": "??*", "****": "*", "?**?": "??*", "**?": "?*",
		"a*": "a*", "*a": "*a", "a?": "a?", "?a": "?a", "*a*": "*a*", "a*b*c": "a*b*c", "**a**b**": "*a*b*", "*?a*?b*?": "?*a?*b?*", "?a*b?": "?a*b?", "*?a": "?*a", "a*?": "a?*",
		"AbÉ*": "AbÉ*", "A**?Z": "A?*Z", "é**€": "é*€", "*?\U00010348?*": "?*\U00010348?*", "\ufffd**\ufffd": "\ufffd*\ufffd", "\x00*?\x00": "\x00?*\x00", "*.*": "*.*", "**.?*": "*.?*", "\\**": "\\*",
	} {
		if got, e := Short(s); got != want || e != api.OK {
			t.Errorf("Short(%q) = %q, %d; want %q", s, got, e, want)
		}
	}
	row := regexp.MustCompile(`[*?]+`)
	for _, s := range rows(6, "a", "?", "*", "É") {
		want := row.ReplaceAllStringFunc(s, func(r string) string {
			few := strings.Repeat("?", strings.Count(r, "?"))
			if strings.Contains(r, "*") {
				few += "*"
			}
			return few
		})
		if got, e := Short(s); got != want || e != api.OK {
			t.Fatalf("Short(%q) = %q, %d; want %q", s, got, e, want)
		}
	}
}

// P5.2: what is no text is told ahead of what is too long; that is counted by letters, and ahead of what is left out.
func TestShortErrors(t *testing.T) {
	for _, s := range noTexts {
		if p, e := Short(s); p != "" || e != api.ErrForm {
			t.Errorf("Short(%q) = %q, %d; want ErrForm", s, p, e)
		}
	}
	for _, a := range letters {
		for _, n := range []int{0, 1, 63, 64, 65, 66, 300} {
			p, want := strings.Repeat(a, n), strings.Repeat(a, n)
			if a == "*" {
				want = strings.Repeat(a, min(n, 1))
			}
			got, e := Short(p)
			if n > 64 && (got != "" || e != api.ErrLimit) || n <= 64 && (got != want || e != api.OK) {
				t.Errorf("Short of %d of %q = %q, %d", n, a, got, e)
			}
		}
	}
}

// P5.3: a plain pattern fits just what is alike, and * fits all.
func TestPlainFits(t *testing.T) {
	texts := slices.Concat(rows(3, "a", "A", "b", "é"), rows(2, letters...), []string{strings.Repeat("A", 64), strings.Repeat("a", 64), strings.Repeat("a", 63)})
	for _, s := range texts {
		if !fitted(t, "*", s) {
			t.Errorf("Fits(*, %q) = no", s)
		}
		for _, p := range texts {
			if Plain(p) && fitted(t, p, s) != utf.Alike(p, s) {
				t.Errorf("Fits(%q, %q) = %t", p, s, !utf.Alike(p, s))
			}
		}
	}
}

// P5.3: two patterns put together fit just what can be cut in two, of which they fit one each.
func TestPutTogether(t *testing.T) {
	patterns, texts := rows(3, "a", "b", "?", "*"), rows(4, "a", "B")
	fits := map[[2]string]bool{}
	for _, p := range patterns {
		for _, s := range texts {
			fits[[2]string{p, s}] = fitted(t, p, s)
		}
	}
	for _, p := range patterns {
		for _, q := range patterns {
			for _, s := range texts {
				want := false
				for i := range len(s) + 1 {
					want = want || fits[[2]string{p, s[:i]}] && fits[[2]string{q, s[i:]}]
				}
				if fitted(t, p+q, s) != want {
					t.Fatalf("Fits(%q, %q) = %t; %q and %q", p+q, s, !want, p, q)
				}
			}
		}
	}
}

// P5.3: Short fits just what the pattern fits, and is as short as it gets.
func TestShortFits(t *testing.T) {
	texts := slices.Concat(rows(4, "a", "B", "é"), rows(3, "*", "?", "a"))
	for _, p := range rows(5, "A", "b", "?", "*") {
		short, e := Short(p)
		if e != api.OK {
			t.Fatalf("Short(%q) = %d", p, e)
		}
		if again, e := Short(short); again != short || e != api.OK {
			t.Errorf("Short(%q) = %q, %d", short, again, e)
		}
		for _, s := range texts {
			if fitted(t, p, s) != fitted(t, short, s) {
				t.Fatalf("%q and its short one %q: %q is not fitted alike", p, short, s)
			}
		}
	}
}

// P5.3: a text and its folded one are fitted alike, by a pattern and by its folded one.
func TestFoldedFits(t *testing.T) {
	texts := rows(4, "a", "A", "Z", "É")
	for _, p := range rows(3, "a", "Z", "é", "?", "*") {
		for _, s := range texts {
			want := fitted(t, p, s)
			if fitted(t, p, utf.Fold(s)) != want || fitted(t, utf.Fold(p), s) != want {
				t.Errorf("Fits(%q, %q) = %t, and not so of what is folded", p, s, want)
			}
		}
	}
}
