package path

import (
	"regexp"
	"slices"
	"strings"
	"testing"
	"unicode/utf8"
	"unsafe"

	"refectory/api"
)

// noTexts are strings with bytes that belong to no letter.
var noTexts = []string{"\xff", "\x80", "a\xff", "\xffa", "a\xc3", "\xe2\x82", "\xc0\x80", "\xc1\x9c", "\xed\xa0\x80", "\xf4\x90\x80\x80", "\ufffd\xff"}

// letters are letters that a name may have: of one byte, of more, and of two units.
var letters = []string{"a", "Z", "é", "É", "\x7f", "\u0080", "€", "\ufffd", "\uffff", "\U00010348", "\U0010ffff"}

// barredLetters are those that a name may not have.
var barredLetters = func() []string {
	l := []string{"\\", "/", ":", "*", "?", "\"", "<", ">", "|"}
	for r := range rune(32) {
		l = append(l, string(r))
	}
	return l
}()

// noNames are parts that are no names, and don't hold what cuts parts.
var noNames = slices.Concat(noTexts, []string{"", " ", ".", "..", "a ", "a.", "a/b", "a:", "*", "?b", "\"", "<", ">", "a|b", "\x00", "a\x1fb", "a\n", strings.Repeat("a", 33), strings.Repeat("€", 33), "\xff" + strings.Repeat("a", 40)})

var nameForm = regexp.MustCompile(`\A[^\x00-\x1f\\/:*?"<>|]{0,31}[^\x00-\x1f\\/:*?"<>| .]\z`)

// isName tells whether s is a name, by the language's own library.
func isName(s string) bool { return utf8.ValidString(s) && nameForm.MatchString(s) }

// parsed tells what Parse has to answer, by the language's own library.
func parsed(s string) ([]string, api.Errno) {
	if s == "" {
		return nil, api.OK
	}
	l := strings.Split(s, `\`)
	return l, joined(l)
}

// joined tells which error names that are joined have to be answered.
func joined(l []string) api.Errno {
	switch {
	case slices.ContainsFunc(l, func(s string) bool { return !isName(s) }):
		return api.ErrArg
	case len(l) > 8:
		return api.ErrLimit
	}
	return api.OK
}

// folded tells s with the letters A to Z as a to z.
func folded(s string) string {
	return strings.Map(func(r rune) rune {
		if r >= 'A' && r <= 'Z' {
			r += 'a' - 'A'
		}
		return r
	}, s)
}

// rows are all strings of up to most of these letters.
func rows(most int, of ...string) []string {
	all := []string{""}
	for last := all; most > 0; most-- {
		var longer []string
		for _, s := range last {
			for _, r := range of {
				longer = append(longer, s+r)
			}
		}
		all = append(all, longer...)
		last = longer
	}
	return all
}

// somePaths are the root's path, short paths with letters that are alike, and paths as long as may be.
var somePaths = append(pathsOf(rows(5, "a", "A", "b", `\`)), "é", `É`, `é\a`, `é\A\b`, "a.b", `a.b\A b`, `a.b\a B\é`, strings.Repeat(`a\`, 6)+"A", strings.Repeat(`A\`, 7)+"a", strings.Repeat(`a\`, 7)+"b")

// pathsOf tells which of these are paths.
func pathsOf(l []string) []string {
	return slices.DeleteFunc(l, func(s string) bool {
		_, e := parsed(s)
		return e != api.OK
	})
}

// P6.1: the chapter's examples, ordinary names, and what is none.
func TestName(t *testing.T) {
	for s, want := range map[string]bool{
		"a b": true, "a.": false, `a\b`: false, "": false,
		"a": true, "A": true, "a.txt": true, "é": true, "É€\U00010348": true, "\ufffd": true, "name": true, "~$%&'()[]{}=+,;@!#^`-_": true, "0": true,
		" ": false, ".": false, "..": false, " .": false, ". ": false, "a ": false, "a..": false, "a. ": false, "a .": false, "é.": false, "\U00010348 ": false,
		" a": true, ".a": true, "..a": true, " .a": true, "a  b": true, "a..b": true, "a. b": true, ". a": true,
		"a\u00a0": true, "a\u3000": true, "a\u3002": true, "\u200b": true, "\ufeff": true, "\uff0f": true, "\u012f": true, "\u015c": true,
	} {
		if got := Name(s); got != want {
			t.Errorf("Name(%q) = %t", s, got)
		}
	}
	for _, s := range noNames {
		if Name(s) {
			t.Errorf("Name(%q)", s)
		}
	}
}

// P6.1: each letter that a name may not have, wherever it stands, and each of the first letters on both sides of an edge.
func TestNameLetters(t *testing.T) {
	for _, r := range barredLetters {
		for _, s := range []string{r, r + "a", "a" + r, "a" + r + "b", r + r, "é" + r + "\U00010348"} {
			if Name(s) {
				t.Errorf("Name(%q)", s)
			}
		}
	}
	for r := rune(0); r < 0x250; r++ {
		for _, s := range []string{string(r), string(r) + "a", "a" + string(r), "a" + string(r) + "b"} {
			if got := Name(s); got != isName(s) {
				t.Errorf("Name(%q) = %t", s, got)
			}
		}
	}
	for _, r := range []string{"\x7e", "\x7f", "\u0080", "\u009f"} {
		if !Name(r) || !Name(r+"a") || !Name("a"+r) || !Name("a"+r+"b") {
			t.Errorf("Name of %q, alone or beside a letter: no", r)
		}
	}
	if !Name(" a") || !Name("a b") || Name("a ") || Name(" ") || Name("\x1fa") || Name("a\x1fb") || Name("a\x1f") {
		t.Error("Name of the letters 31 and 32")
	}
}

// P6.1: letters are counted, not bytes, nor units.
func TestNameLengths(t *testing.T) {
	for _, r := range letters {
		for _, n := range []int{0, 1, 2, 31, 32, 33, 34, 64, 256, 100000} {
			want := n >= 1 && n <= 32
			if got := Name(strings.Repeat(r, n)); got != want {
				t.Errorf("Name of %d of %q = %t", n, r, got)
			}
		}
		if long := strings.Repeat(r, 31); Name(long+" ") || Name(long+".") || !Name(" "+long) || !Name("."+long) || Name(" "+long+"a") || Name(long+"|") || Name("?"+long) {
			t.Errorf("Name of 31 of %q, and a letter", r)
		}
	}
}

// P6.1: the chapter's examples, and \ wherever it may not stand.
func TestParse(t *testing.T) {
	for _, c := range []struct {
		s    string
		want []string
		e    api.Errno
	}{
		{`a\B.txt`, []string{"a", "B.txt"}, api.OK}, {"", nil, api.OK}, {`a\\b`, nil, api.ErrArg}, {`\a`, nil, api.ErrArg},
		{"a", []string{"a"}, api.OK}, {`a\a`, []string{"a", "a"}, api.OK}, {`a b\c.d\É`, []string{"a b", "c.d", "É"}, api.OK}, {`\`, nil, api.ErrArg}, {`\\`, nil, api.ErrArg}, {`a\`, nil, api.ErrArg}, {`a\b\`, nil, api.ErrArg}, {`\a\b`, nil, api.ErrArg}, {`a\\`, nil, api.ErrArg}, {`\\a`, nil, api.ErrArg}, {`a\b\\c`, nil, api.ErrArg},
		{"a/b", nil, api.ErrArg}, {".", nil, api.ErrArg}, {`a\.`, nil, api.ErrArg}, {`a\..\b`, nil, api.ErrArg}, {`a \b`, nil, api.ErrArg}, {`a.\b`, nil, api.ErrArg}, {` a\.b`, []string{" a", ".b"}, api.OK}, {" ", nil, api.ErrArg}, {"a\\\x00", nil, api.ErrArg}, {"a\uff3cb", []string{"a\uff3cb"}, api.OK}, {"\u015c\\\U0001005c", []string{"\u015c", "\U0001005c"}, api.OK},
	} {
		if got, e := Parse(c.s); !slices.Equal(got, c.want) || e != c.e {
			t.Errorf("Parse(%q) = %q, %d; want %q, %d", c.s, got, e, c.want, c.e)
		}
	}
}

// P6.1: all short rows of letters, held against the language's own library.
func TestParseAll(t *testing.T) {
	for _, s := range slices.Concat(rows(7, "a", `\`, "."), rows(5, "A", `\`, " ", "é", "\xff"), rows(4, "a", `\`, "/", ":", "*", "?", "\"", "<", ">", "|", "\x1f")) {
		want, e := parsed(s)
		if e != api.OK {
			want = nil
		}
		if got, f := Parse(s); !slices.Equal(got, want) || f != e {
			t.Fatalf("Parse(%q) = %q, %d; want %q, %d", s, got, f, want, e)
		}
	}
}

// P6.1: the chapter's paths put together again, and names that are none.
func TestJoin(t *testing.T) {
	for _, c := range []struct {
		l    []string
		want string
		e    api.Errno
	}{
		{nil, "", api.OK}, {[]string{}, "", api.OK}, {[]string{"a"}, "a", api.OK}, {[]string{"a", "B.txt"}, `a\B.txt`, api.OK}, {[]string{"a", "a", " É"}, `a\a\ É`, api.OK},
		{[]string{""}, "", api.ErrArg}, {[]string{"", ""}, "", api.ErrArg}, {[]string{"a", ""}, "", api.ErrArg}, {[]string{"", "a"}, "", api.ErrArg}, {[]string{"a", "", "b"}, "", api.ErrArg},
		{[]string{`a\b`}, "", api.ErrArg}, {[]string{"a", `b\c`}, "", api.ErrArg}, {[]string{`\`}, "", api.ErrArg}, {[]string{`a\`, "b"}, "", api.ErrArg}, {[]string{"a", ".."}, "", api.ErrArg}, {[]string{"a.", "b"}, "", api.ErrArg},
	} {
		if got, e := Join(c.l); got != c.want || e != c.e {
			t.Errorf("Join(%q) = %q, %d; want %q, %d", c.l, got, e, c.want, c.e)
		}
	}
}

// P6.1: as many names as may be, one less and one more, each as long as may be.
func TestNumbers(t *testing.T) {
	for _, name := range slices.Concat(letters, []string{strings.Repeat("a", 32), strings.Repeat("\U00010348", 32)}) {
		for n := range 12 {
			l := slices.Repeat([]string{name}, n)
			s, e := strings.Join(l, `\`), api.OK
			if n > 8 {
				e = api.ErrLimit
			}
			wantPath, wantNames := s, l
			if e != api.OK {
				wantPath, wantNames = "", nil
			}
			if got, f := Parse(s); !slices.Equal(got, wantNames) || f != e {
				t.Errorf("Parse of %d of %q = %q, %d; want %d", n, name, got, f, e)
			}
			if got, f := Join(l); got != wantPath || f != e {
				t.Errorf("Join of %d of %q = %q, %d; want %d", n, name, got, f, e)
			}
		}
	}
	if l, e := Parse(strings.Repeat(`a\`, 100000) + "a"); l != nil || e != api.ErrLimit {
		t.Errorf("Parse of very many names = %d of them, %d", len(l), e)
	}
	if l, e := Parse(strings.Repeat(`a\`, 100000)); l != nil || e != api.ErrArg {
		t.Errorf("Parse of very many names, and none behind = %d of them, %d", len(l), e)
	}
	if s, e := Join(slices.Repeat([]string{"a"}, 100000)); s != "" || e != api.ErrLimit {
		t.Errorf("Join of very many names = %q, %d", s, e)
	}
}

// P6.1, P6.2: a part that is no name, ahead of the eighth, as the eighth, or behind it, is told ahead of there being too many.
func TestWrongPart(t *testing.T) {
	for _, wrong := range noNames {
		for n := 1; n <= 12; n++ {
			for at := range n {
				l := slices.Repeat([]string{"a"}, n)
				l[at] = wrong
				if s, e := Join(l); s != "" || e != api.ErrArg {
					t.Errorf("Join(%q) = %q, %d; want ErrArg", l, s, e)
				}
				s := strings.Join(l, `\`)
				if s == "" {
					continue
				}
				if got, e := Parse(s); got != nil || e != api.ErrArg {
					t.Errorf("Parse(%q) = %q, %d; want ErrArg", s, got, e)
				}
				if dir, name, e := Parent(s); dir != "" || name != "" || e != api.ErrArg {
					t.Errorf("Parent(%q) = %q, %q, %d; want ErrArg", s, dir, name, e)
				}
			}
		}
	}
}

// P6.2: the chapter's examples, what is no path, and the root.
func TestParent(t *testing.T) {
	eight := strings.Repeat(`a\`, 7) + "a"
	for _, c := range []struct {
		s, dir, name string
		e            api.Errno
	}{
		{`a\b`, "a", "b", api.OK}, {"a", "", "a", api.OK}, {"", "", "", api.ErrArg},
		{`a\B\c.D`, `a\B`, "c.D", api.OK}, {`a\a`, "a", "a", api.OK}, {"É", "", "É", api.OK}, {`\`, "", "", api.ErrArg}, {`\a`, "", "", api.ErrArg}, {`a\`, "", "", api.ErrArg}, {`a\\b`, "", "", api.ErrArg}, {"a/b", "", "", api.ErrArg}, {`a.\b`, "", "", api.ErrArg}, {`a\b `, "", "", api.ErrArg},
		{eight[2:], eight[4:], "a", api.OK}, {eight, eight[2:], "a", api.OK}, {`b\` + eight, "", "", api.ErrLimit}, {eight + `\b`, "", "", api.ErrLimit}, {eight + `\b.`, "", "", api.ErrArg},
	} {
		if dir, name, e := Parent(c.s); dir != c.dir || name != c.name || e != c.e {
			t.Errorf("Parent(%q) = %q, %q, %d; want %q, %q, %d", c.s, dir, name, e, c.dir, c.name, c.e)
		}
	}
}

// P6.3: names that are alike by folding, those that other rules would make alike, names more and names less.
func TestAlike(t *testing.T) {
	for _, c := range []struct {
		a, b string
		want bool
	}{
		{"", "", true}, {"a", "a", true}, {"a", "A", true}, {`A\b`, `a\B`, true}, {`a\b.TXT\É`, `A\B.txt\É`, true}, {"é", "é", true}, {"Z", "z", true},
		{"", "a", false}, {"a", "b", false}, {"a", "ab", false}, {"a", `a\b`, false}, {`a\b`, `a\b\c`, false}, {`a\b`, "ab", false}, {`a\b`, `b\a`, false}, {`a\b`, `a\c`, false}, {`a\b`, `c\b`, false}, {`a\bc`, `ab\c`, false}, {"a", " a", false},
		{"é", "É", false}, {"k", "\u212a", false}, {"s", "ſ", false}, {"ß", "ss", false}, {"e\u0301", "é", false}, {"@", "`", false}, {"[", "{", false}, {"^", "~", false},
		{strings.Repeat(`a\`, 7) + "A", strings.Repeat(`A\`, 7) + "a", true}, {strings.Repeat(`a\`, 7) + "A", strings.Repeat(`A\`, 7) + "b", false}, {strings.Repeat(`a\`, 7) + "a", strings.Repeat(`a\`, 6) + "a", false}, {strings.Repeat("a", 32), strings.Repeat("A", 32), true},
	} {
		if got := Alike(c.a, c.b); got != c.want {
			t.Errorf("Alike(%q, %q) = %t", c.a, c.b, got)
		}
		if got := Alike(c.b, c.a); got != c.want {
			t.Errorf("Alike(%q, %q) = %t", c.b, c.a, got)
		}
	}
}

// P6.3: the chapter's examples; a name that only begins with another one is another one.
func TestUnder(t *testing.T) {
	seven := strings.Repeat(`a\`, 6) + "a"
	for _, c := range []struct {
		a, b string
		want bool
	}{
		{`A\b`, "a", true}, {"a", "a", false}, {"ab", "a", false}, {"a", "", true},
		{"", "", false}, {"", "a", false}, {"a", `A\b`, false}, {"a", "A", false}, {`a\b`, "", true}, {`a\b\c`, "A", true}, {`a\b\c`, `A\B`, true}, {`A\B\c`, `a\b`, true}, {`a\b\c`, `a\b\c`, false}, {`a\b`, `a\b\c`, false}, {`a\b\c`, `a\c`, false}, {`a\b\c`, `b\c`, false}, {`a\b\c`, "b", false}, {`a\b\c`, "c", false},
		{`ab\c`, "a", false}, {`a\bc`, `a\b`, false}, {`a\bc\d`, `a\b`, false}, {`a\b`, "ab", false}, {`ab\c`, "ab", true}, {`a.b\c`, "a", false}, {`a b\c`, "a", false}, {`é\a`, "É", false}, {`é\a`, "é", true}, {"\u212a\\a", "k", false}, {`É\x`, "É", true},
		{seven + `\b`, strings.ToUpper(seven), true}, {seven, seven, false}, {seven, "A", true}, {seven + `\b`, "", true}, {seven + `\b`, seven + `\b`, false}, {seven, seven + `\b`, false}, {seven + `\b`, "b", false},
	} {
		if got := Under(c.a, c.b); got != c.want {
			t.Errorf("Under(%q, %q) = %t", c.a, c.b, got)
		}
	}
}

// P6.3: all pairs of short paths, held against their names, which the language's own library cuts and folds.
func TestPairs(t *testing.T) {
	for _, a := range somePaths {
		l, _ := parsed(folded(a))
		for _, b := range somePaths {
			m, _ := parsed(folded(b))
			if got := Alike(a, b); got != slices.Equal(l, m) {
				t.Fatalf("Alike(%q, %q) = %t", a, b, got)
			}
			if got, want := Under(a, b), len(l) > len(m) && slices.Equal(l[:len(m)], m); got != want {
				t.Fatalf("Under(%q, %q) = %t", a, b, got)
			}
		}
	}
}

// P6.3: of what is no path, whichever of the two it is: no, also where it is the same, or begins with the other one.
func TestNoPaths(t *testing.T) {
	wrong := slices.Concat(noTexts, []string{`\`, `a\`, `\a`, `a\\b`, `a\b\`, "a/b", "a.", "a ", `a\b.`, `a\b\c|`, "a\\b\xff", "a\\\xff\\b", "a*", "a\\\x1f", strings.Repeat("a", 33), `a\` + strings.Repeat("é", 33), strings.Repeat(`a\`, 8) + "a", strings.Repeat(`a\`, 9) + "a"})
	right := []string{"", "a", "A", `a\b`, `a\b\c`, "a\\\ufffd", strings.Repeat("a", 32), strings.Repeat(`a\`, 7) + "a"}
	for _, s := range wrong {
		for _, z := range slices.Concat(wrong, right) {
			if Alike(s, z) || Alike(z, s) {
				t.Errorf("Alike of %q and %q", s, z)
			}
			if Under(s, z) || Under(z, s) {
				t.Errorf("Under of %q and %q", s, z)
			}
		}
	}
}

// P6.4: names come back of their path, a path of its names.
func TestThereAndBack(t *testing.T) {
	for _, s := range somePaths {
		l, e := Parse(s)
		if e != api.OK {
			t.Fatalf("Parse(%q) = %q, %d", s, l, e)
		}
		if back, e := Join(l); back != s || e != api.OK {
			t.Errorf("Join(%q) = %q, %d; want %q", l, back, e, s)
		}
	}
	names := []string{"a", "B", " c.d", "É", "\U00010348", strings.Repeat("€", 32)}
	for i := range 6 * 6 * 6 * 6 {
		var l []string
		for n := i; n > 0; n /= 6 {
			l = append(l, names[n%6])
		}
		s, e := Join(l)
		if e != api.OK {
			t.Fatalf("Join(%q) = %q, %d", l, s, e)
		}
		if back, e := Parse(s); !slices.Equal(back, l) || e != api.OK {
			t.Fatalf("Parse(%q) = %q, %d; want %q", s, back, e, l)
		}
	}
}

// P6.4: what is under one that is under a third is under that; nothing is under itself.
func TestUnderUnder(t *testing.T) {
	few := pathsOf(rows(5, "a", "B", `\`))
	for _, a := range few {
		if Under(a, a) {
			t.Errorf("Under(%q, %q)", a, a)
		}
		for _, b := range few {
			for _, c := range few {
				if Under(a, b) && Under(b, c) && !Under(a, c) {
					t.Fatalf("%q is under %q, and that under %q", a, b, c)
				}
			}
		}
	}
}

// P6.4: a path is under its parent's, and all that is under it is; the parent's and the name make the path.
func TestUnderParent(t *testing.T) {
	for _, s := range somePaths {
		dir, name, e := Parent(s)
		if s == "" {
			if dir != "" || name != "" || e != api.ErrArg {
				t.Errorf("Parent of the root = %q, %q, %d", dir, name, e)
			}
			continue
		}
		if e != api.OK || !Under(s, dir) || Under(dir, s) || Alike(s, dir) || !Name(name) {
			t.Errorf("%q is not under its parent's, %q, or %q is no name: %d", s, dir, name, e)
		}
		l, _ := Parse(dir)
		if back, e := Join(append(l, name)); back != s || e != api.OK {
			t.Errorf("%q and %q make %q, %d; want %q", dir, name, back, e, s)
		}
		for _, z := range somePaths {
			if Under(z, s) && !Under(z, dir) {
				t.Fatalf("%q is under %q, and not under its parent's, %q", z, s, dir)
			}
		}
	}
}

// Rule 5: what is handed in stays as it is, the room behind its end too.
func TestHandedIn(t *testing.T) {
	whole := []string{"a", "B", "c", "d", "e", "f", "g", "h", "i", "j", "k"}
	for n := range len(whole) {
		room := slices.Clone(whole)
		Join(room[:n])
		if !slices.Equal(room, whole) {
			t.Errorf("Join of %d names left %q", n, room)
		}
		room[0] = ""
		Join(room[:n])
		if room[0] != "" || !slices.Equal(room[1:], whole[1:]) {
			t.Errorf("Join of %d names, the first of which is none, left %q", n, room)
		}
	}
}

// Rule 5: what is answered is new memory, the letters of names and paths too.
func TestNewMemory(t *testing.T) {
	given := `name\other\third`
	l, _ := Parse(given)
	m, _ := Parse(given)
	for i := range l[:cap(l)] {
		l[:cap(l)][i] = "x"
	}
	if !slices.Equal(m, []string{"name", "other", "third"}) || given != `name\other\third` {
		t.Errorf("two answers of Parse share: %q", m)
	}
	one, _ := Join(m)
	two, _ := Join(m)
	alone, _ := Join(m[:1])
	dir, last, _ := Parent(given)
	top, only, _ := Parent(m[0])
	if one != given || two != given || alone != "name" || dir != `name\other` || last != "third" || top != "" || only != "name" {
		t.Fatalf("Join and Parent = %q, %q, %q, %q, %q, %q, %q", one, two, alone, dir, last, top, only)
	}
	all := append([]string{given, one, two, alone, dir, last, only}, m...)
	for i, s := range all {
		for _, z := range all[i+1:] {
			if shared(s, z) {
				t.Errorf("%q and %q share their letters", s, z)
			}
		}
	}
}

// shared tells whether two texts have bytes in common, in memory.
func shared(a, b string) bool {
	from, with := uintptr(unsafe.Pointer(unsafe.StringData(a))), uintptr(unsafe.Pointer(unsafe.StringData(b)))
	return from < with+uintptr(len(b)) && with < from+uintptr(len(a))
}
