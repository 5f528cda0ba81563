package dir_test

import (
	"fmt"
	"math"
	"slices"
	"strconv"
	"strings"
	"testing"
	"unicode/utf8"

	"refectory/api"
	"refectory/dir"
)

// entry is a name and its number.
type entry struct {
	name string
	n    int
}

// plain is a directory as a list of entries, in no order.
type plain struct {
	l []entry
}

// fold makes each letter A to Z the one of a to z.
func fold(s string) string {
	return strings.Map(func(r rune) rune {
		if r >= 'A' && r <= 'Z' {
			return r + 'a' - 'A'
		}
		return r
	}, s)
}

// isName tells whether s is a text that is not empty.
func isName(s string) bool {
	return s != "" && utf8.ValidString(s)
}

// at tells where in the list the entry stands whose name is alike; -1, if none does.
func (p *plain) at(name string) int {
	return slices.IndexFunc(p.l, func(x entry) bool { return fold(x.name) == fold(name) })
}

// find is Find of a plain list.
func (p *plain) find(name string) (int, string, api.Errno) {
	switch i := p.at(name); {
	case !isName(name):
		return 0, "", api.ErrForm
	case i < 0:
		return 0, "", api.ErrNone
	default:
		return p.l[i].n, p.l[i].name, api.OK
	}
}

// add is Add of a plain list.
func (p *plain) add(name string, n int) api.Errno {
	switch {
	case !isName(name):
		return api.ErrForm
	case p.at(name) >= 0:
		return api.ErrTwice
	}
	p.l = append(p.l, entry{name, n})
	return api.OK
}

// remove is Remove of a plain list.
func (p *plain) remove(name string) api.Errno {
	i := p.at(name)
	switch {
	case !isName(name):
		return api.ErrForm
	case i < 0:
		return api.ErrNone
	}
	p.l = slices.Delete(p.l, i, i+1)
	return api.OK
}

// rename is Rename of a plain list.
func (p *plain) rename(from, to string) api.Errno {
	i, j := p.at(from), p.at(to)
	switch {
	case !isName(from), !isName(to):
		return api.ErrForm
	case i < 0:
		return api.ErrNone
	case j >= 0 && j != i:
		return api.ErrTwice
	}
	p.l[i].name = to
	return api.OK
}

// ordered are the entries, in order: folded, by letters.
func (p *plain) ordered() []entry {
	return slices.SortedFunc(slices.Values(p.l), func(a, b entry) int { return compare(a.name, b.name) })
}

// compare holds two texts, folded, against each other by letters.
func compare(a, b string) int {
	return slices.Compare([]rune(fold(a)), []rune(fold(b)))
}

// fits tells whether a pattern fits a text, both as letters, folded.
func fits(pattern, s []rune) bool {
	switch {
	case len(pattern) == 0:
		return len(s) == 0
	case pattern[0] == '*':
		return fits(pattern[1:], s) || len(s) > 0 && fits(pattern, s[1:])
	case len(s) == 0:
		return false
	}
	return (pattern[0] == '?' || pattern[0] == s[0]) && fits(pattern[1:], s[1:])
}

// globs tells the error of a pattern, or of one of the names.
func (p *plain) globs(pattern string) api.Errno {
	switch {
	case !utf8.ValidString(pattern):
		return api.ErrForm
	case utf8.RuneCountInString(pattern) > mostPattern:
		return api.ErrLimit
	}
	for _, x := range p.l {
		if utf8.RuneCountInString(x.name) > mostLetters {
			return api.ErrLimit
		}
	}
	return api.OK
}

// list is List of a plain list.
func (p *plain) list(pattern, after string, most int) ([]string, bool, api.Errno) {
	if most < 0 {
		return nil, false, api.ErrArg
	}
	if e := p.globs(pattern); e != api.OK {
		return nil, false, e
	}
	if !utf8.ValidString(after) {
		return nil, false, api.ErrForm
	}
	var l []string
	for _, x := range p.ordered() {
		if compare(after, x.name) < 0 && fits([]rune(fold(pattern)), []rune(fold(x.name))) {
			l = append(l, x.name)
		}
	}
	if len(l) > most {
		return l[:most], true, api.OK
	}
	return l, false, api.OK
}

// So many letters a pattern may have, and a name that is held against one.
const (
	mostPattern = 64
	mostLetters = 256
)

// twin is the same list in new memory.
func (p *plain) twin() *plain {
	return &plain{slices.Clone(p.l)}
}

// lists holds one List against the plain list's.
func lists(t *testing.T, why any, d *dir.Dir, p *plain, pattern, after string, most int) {
	t.Helper()
	got, more, e := d.List(pattern, after, most)
	want, wantMore, f := p.list(pattern, after, most)
	if e != f || more != wantMore || !slices.Equal(got, want) {
		t.Fatalf("%v: List(%s, %s, %d) = %s, %v, %d, want %s, %v, %d", why, short(pattern), short(after), most, shorts(got), more, e, shorts(want), wantMore, f)
	}
}

// finds holds one Find against the plain list's.
func finds(t *testing.T, why any, d *dir.Dir, p *plain, name string) {
	t.Helper()
	n, own, e := d.Find(name)
	m, want, f := p.find(name)
	if n != m || own != want || e != f {
		t.Fatalf("%v: Find(%s) = %d, %s, %d, want %d, %s, %d", why, short(name), n, short(own), e, m, short(want), f)
	}
}

// stands holds all that may be asked of a directory against a plain list: how many, all names in order, each name's number, also by other letters, and some names that may be none of it.
func stands(t *testing.T, why any, d *dir.Dir, p *plain) {
	t.Helper()
	if d.Len() != len(p.l) {
		t.Fatalf("%v: Len = %d, want %d", why, d.Len(), len(p.l))
	}
	lists(t, why, d, p, "*", "", len(p.l))
	lists(t, why, d, p, "*", "", math.MaxInt)
	for _, x := range p.l {
		for _, name := range []string{x.name, fold(x.name), strings.ToUpper(x.name), x.name + "x", "x" + x.name, x.name[1:]} {
			finds(t, why, d, p, name)
		}
	}
	for _, name := range others() {
		finds(t, why, d, p, name)
	}
}

// lawful tells what of a directory's names is not as it has to be: no two alike, all rising by the order of Ahead.
func lawful(d *dir.Dir) string {
	l, more, e := d.List("*", "", math.MaxInt)
	if more || e != api.OK || len(l) != d.Len() {
		return fmt.Sprintf("List(*) = %s, %v, %d of %d", shorts(l), more, e, d.Len())
	}
	for i := 1; i < len(l); i++ {
		if compare(l[i-1], l[i]) >= 0 {
			return fmt.Sprintf("%s stands ahead of %s", short(l[i-1]), short(l[i]))
		}
	}
	return ""
}

// short tells a text, or the beginning of a long one.
func short(s string) string {
	if len(s) > 40 {
		return fmt.Sprint(strconv.QuoteToASCII(s[:40]), ".. (", len(s), ")")
	}
	return strconv.QuoteToASCII(s)
}

// shorts tells texts, or the first of many.
func shorts(l []string) string {
	s := "["
	for i, x := range l {
		switch {
		case i == 12:
			return fmt.Sprint(s, ", .. (", len(l), ")]")
		case i > 0:
			s += " "
		}
		s += short(x)
	}
	return s + "]"
}

// told tells a directory's names, in order, each with its number, such as A=2 b=1.
func told(d *dir.Dir) string {
	l, _, e := d.List("*", "", math.MaxInt)
	if e != api.OK {
		return fmt.Sprint("List(*) is refused: ", e)
	}
	s := make([]string, len(l))
	for i, name := range l {
		n, own, e := d.Find(name)
		if s[i] = fmt.Sprint(name, "=", n); own != name || e != api.OK {
			s[i] = fmt.Sprint(name, "=", n, " as ", short(own), ", ", e)
		}
	}
	return strings.Join(s, " ")
}

// verb is what is done to a directory.
type verb int

const (
	adds verb = iota
	removes
	renames
)

// act is an Add of a name and a number, a Remove of a name, or a Rename of a name to another one.
type act struct {
	verb     verb
	name, to string
	n        int
}

// String tells an act.
func (a act) String() string {
	switch a.verb {
	case adds:
		return fmt.Sprintf("Add(%s, %d)", short(a.name), a.n)
	case removes:
		return fmt.Sprintf("Remove(%s)", short(a.name))
	}
	return fmt.Sprintf("Rename(%s, %s)", short(a.name), short(a.to))
}

// add is an Add.
func add(name string, n int) act {
	return act{verb: adds, name: name, n: n}
}

// remove is a Remove.
func remove(name string) act {
	return act{verb: removes, name: name}
}

// rename is a Rename.
func rename(from, to string) act {
	return act{verb: renames, name: from, to: to}
}

// of does an act to a directory.
func (a act) of(d *dir.Dir) api.Errno {
	switch a.verb {
	case adds:
		return d.Add(a.name, a.n)
	case removes:
		return d.Remove(a.name)
	}
	return d.Rename(a.name, a.to)
}

// ofPlain does an act to a plain list.
func (a act) ofPlain(p *plain) api.Errno {
	switch a.verb {
	case adds:
		return p.add(a.name, a.n)
	case removes:
		return p.remove(a.name)
	}
	return p.rename(a.name, a.to)
}

// does does an act to a directory and to a plain list, and holds the answers against each other.
func (a act) does(t *testing.T, why any, d *dir.Dir, p *plain) {
	t.Helper()
	want := a.ofPlain(p)
	if e := a.of(d); e != want {
		t.Fatalf("%v: %v = %d, want %d", why, a, e, want)
	}
}

// grown tells a directory and a plain list to both of which acts were done.
func grown(t *testing.T, why any, acts []act) (*dir.Dir, *plain) {
	t.Helper()
	d, p := dir.New(), &plain{}
	for _, a := range acts {
		a.does(t, why, d, p)
	}
	return d, p
}

// made tells a new directory to which acts were done, none of which is refused.
func made(acts ...act) *dir.Dir {
	d := dir.New()
	for _, a := range acts {
		if e := a.of(d); e != api.OK {
			panic(fmt.Sprint(a, " is refused: ", e))
		}
	}
	return d
}

// of tells a directory that has these names, numbered from 1 on.
func of(names ...string) *dir.Dir {
	d := dir.New()
	for i, name := range names {
		if e := d.Add(name, i+1); e != api.OK {
			panic(fmt.Sprint(name, " is refused: ", e))
		}
	}
	return d
}

// row is an act, what it answers, and what the directory is told as behind it.
type row struct {
	act  act
	e    api.Errno
	want string
}

// rows does each row's act to a directory of its own, which these first ones make.
func rows(t *testing.T, first []act, l []row) {
	t.Helper()
	for _, r := range l {
		d, p := grown(t, r.act, first)
		if e := r.act.of(d); e != r.e || told(d) != r.want {
			t.Errorf("%v = %d: %s, want %d: %s", r.act, e, told(d), r.e, r.want)
		}
		r.act.ofPlain(p)
		stands(t, r.act, d, p)
	}
}

// dirs are such as a test may ask each thing of.
func dirs() map[string][]act {
	return map[string][]act{
		"of no names":         nil,
		"of no names again":   {add("a", 1), add("B", 2), remove("b"), remove("A")},
		"of one name":         {add("b", 1)},
		"of one great letter": {add("B", 7)},
		"two":                 {add("b", 1), add("A", 2)},
		"many":                {add("m", 1), add("C", 2), add("x", 3), add("a", 4), add("Q", 5), add("ab", 6), add("AA", 7), add("é", 8), add("É", 9), add("_", 10), add("~", 11)},
		"one in another":      {add("abc", 3), add("a", 1), add("AB", 2), add("abcd", 4), add("b", 5)},
		"renamed":             {add("a", 1), add("b", 2), add("c", 3), rename("a", "d"), rename("C", "C"), rename("b", "B")},
		"added again":         {add("a", 1), add("b", 2), remove("a"), add("A", 3)},
	}
}

// others are names that may be none of a directory.
func others() []string {
	return []string{"a", "A", "b", "B", "c", "ab", "aB", "z", "Z", "é", "É", "*", "?", "_", " ", ".", `\`, "/", "\x00", "a\x00", "\u212a", "\u017f", "\ufffd", "\U00010348"}
}

// noTexts are no texts: bytes that belong to no letter, ends that are cut off, halves of letters, numbers above all letters', letters spelt too long.
func noTexts() []string {
	return []string{"\x80", "\xff", "a\x80", "\x80a", "a\xffb", "\xc3", "a\xc3", "\xe2\x84", "\xf0\x90\x8d", "\xed\xa0\x80", "\xed\xbf\xbf", "\xf4\x90\x80\x80", "\xc0\x80", "\xc1\xa1", "\xe0\x80\x80", "é\xa9", strings.Repeat("a", 300) + "\xff"}
}

// P15.1, P15.2: the chapter's examples.
func TestExamples(t *testing.T) {
	d := dir.New()
	if d == nil || d.Len() != 0 {
		t.Fatalf("New = %p, of %d names", d, d.Len())
	}
	if e := d.Add("b", 1); e != api.OK {
		t.Errorf("Add(b, 1) = %d", e)
	}
	if e := d.Add("A", 2); e != api.OK {
		t.Errorf("Add(A, 2) = %d", e)
	}
	if e := d.Add("a", 3); e != api.ErrTwice {
		t.Errorf("Add(a, 3) = %d", e)
	}
	if n, own, e := d.Find("B"); n != 1 || own != "b" || e != api.OK {
		t.Errorf("Find(B) = %d, %q, %d", n, own, e)
	}
	if l, more, e := d.List("*", "", 9); !slices.Equal(l, []string{"A", "b"}) || more || e != api.OK {
		t.Errorf("List(*, empty, 9) = %q, %v, %d", l, more, e)
	}
	if l, more, e := d.List("*", "a", 9); !slices.Equal(l, []string{"b"}) || more || e != api.OK {
		t.Errorf("List(*, a, 9) = %q, %v, %d", l, more, e)
	}
	if e := d.Rename("b", "B"); e != api.OK {
		t.Errorf("Rename(b, B) = %d", e)
	}
	if n, own, e := d.Find("b"); n != 1 || own != "B" || e != api.OK {
		t.Errorf("Find(b) = %d, %q, %d", n, own, e)
	}
	if d.Len() != 2 {
		t.Errorf("Len = %d", d.Len())
	}
}
