package vol_test

import (
	"bytes"
	"cmp"
	"fmt"
	"math"
	"regexp"
	"slices"
	"strconv"
	"strings"
	"testing"
	"unicode/utf8"

	"refectory/api"
	"refectory/vol"
)

// The limits that the document names.
const (
	mostQuota   = 1048576
	mostNodes   = 256
	mostBytes   = 65536
	mostNames   = 8
	mostPattern = 64
)

// thing is a node of a plain volume: its number, that of the one in which it stands, its name, its kind, and, of a file, its bytes.
type thing struct {
	n, up int
	name  string
	kind  api.Kind
	b     []byte
}

// plain is a volume as a list of nodes, each with its parent and its name; the numbers rise.
type plain struct {
	quota, last int
	l           []*thing
}

// plainOf is a plain volume of a quota that has just the root.
func plainOf(quota int) *plain {
	return &plain{quota, 1, []*thing{{n: 1, kind: api.KindDir}}}
}

// fold makes each letter A to Z the one of a to z.
func fold(s string) string {
	return strings.Map(func(r rune) rune {
		if r >= 'A' && r <= 'Z' {
			return r + 'a' - 'A'
		}
		return r
	}, s)
}

// greatened makes each letter a to z the one of A to Z.
func greatened(s string) string {
	return strings.Map(func(r rune) rune {
		if r >= 'a' && r <= 'z' {
			return r + 'A' - 'a'
		}
		return r
	}, s)
}

var nameForm = regexp.MustCompile(`\A[^\x00-\x1f\\/:*?"<>|]{0,31}[^\x00-\x1f\\/:*?"<>| .]\z`)

// parse tells a path's names, by the language's own library.
func parse(s string) ([]string, api.Errno) {
	if s == "" {
		return nil, api.OK
	}
	l := strings.Split(s, `\`)
	for _, name := range l {
		if !utf8.ValidString(name) || !nameForm.MatchString(name) {
			return nil, api.ErrArg
		}
	}
	if len(l) > mostNames {
		return nil, api.ErrLimit
	}
	return l, api.OK
}

// at is the node of a number; nil, if there is none.
func (p *plain) at(n int) *thing {
	for _, x := range p.l {
		if x.n == n {
			return x
		}
	}
	return nil
}

// in are the nodes in a directory, in order: folded, by letters.
func (p *plain) in(up int) []*thing {
	var l []*thing
	for _, x := range p.l {
		if x.up == up {
			l = append(l, x)
		}
	}
	slices.SortFunc(l, func(a, b *thing) int { return compare(a.name, b.name) })
	return l
}

// called is the node in a directory whose name is alike; nil, if there is none.
func (p *plain) called(up int, name string) *thing {
	for _, x := range p.in(up) {
		if fold(x.name) == fold(name) {
			return x
		}
	}
	return nil
}

// walk goes down from the root, name by name.
func (p *plain) walk(names []string) (*thing, api.Errno) {
	x := p.at(1)
	for _, name := range names {
		if x.kind == api.KindFile {
			return nil, api.ErrKind
		}
		if x = p.called(x.n, name); x == nil {
			return nil, api.ErrNone
		}
	}
	return x, api.OK
}

// names are those of a node's path.
func (p *plain) names(x *thing) []string {
	if x.n == 1 {
		return nil
	}
	return append(p.names(p.at(x.up)), x.name)
}

// height is how many names more a path under a node has, at most.
func (p *plain) height(x *thing) int {
	most := 0
	for _, y := range p.in(x.n) {
		most = max(most, 1+p.height(y))
	}
	return most
}

// find is Find of a plain volume.
func (p *plain) find(s string) (int, api.Errno) {
	names, e := parse(s)
	if e != api.OK {
		return 0, e
	}
	x, e := p.walk(names)
	if e != api.OK {
		return 0, e
	}
	return x.n, api.OK
}

// make is Make of a plain volume.
func (p *plain) make(s string, k api.Kind) (int, api.Errno) {
	names, e := parse(s)
	switch {
	case e != api.OK:
		return 0, e
	case len(names) == 0:
		return 0, api.ErrTwice
	}
	last := len(names) - 1
	up, e := p.walk(names[:last])
	switch {
	case e != api.OK:
		return 0, e
	case up.kind == api.KindFile:
		return 0, api.ErrKind
	case p.called(up.n, names[last]) != nil:
		return 0, api.ErrTwice
	case k != api.KindDir && k != api.KindFile:
		return 0, api.ErrArg
	case len(p.l) == mostNodes:
		return 0, api.ErrLimit
	}
	p.last++
	p.l = append(p.l, &thing{n: p.last, up: up.n, name: names[last], kind: k})
	return p.last, api.OK
}

// drop takes a node out of the list.
func (p *plain) drop(x *thing) {
	p.l = slices.DeleteFunc(p.l, func(y *thing) bool { return y == x })
}

// remove is Remove of a plain volume.
func (p *plain) remove(n int) api.Errno {
	x := p.at(n)
	switch {
	case x == nil:
		return api.ErrNone
	case n == 1:
		return api.ErrArg
	case len(p.in(n)) > 0:
		return api.ErrBusy
	}
	p.drop(x)
	return api.OK
}

// begins tells whether a path's names are more than another one's, and begin with these, each alike.
func begins(names, with []string) bool {
	return len(names) > len(with) && slices.EqualFunc(names[:len(with)], with, func(a, b string) bool { return fold(a) == fold(b) })
}

// move is Move of a plain volume.
func (p *plain) move(n int, to string, over bool) api.Errno {
	x := p.at(n)
	switch {
	case x == nil:
		return api.ErrNone
	case n == 1:
		return api.ErrArg
	}
	names, e := parse(to)
	switch {
	case e != api.OK:
		return e
	case len(names) == 0, begins(names, p.names(x)):
		return api.ErrArg
	}
	last := len(names) - 1
	up, e := p.walk(names[:last])
	switch {
	case e != api.OK:
		return e
	case up.kind == api.KindFile:
		return api.ErrKind
	case len(names)+p.height(x) > mostNames:
		return api.ErrLimit
	}
	there := p.called(up.n, names[last])
	switch {
	case there == nil || there == x:
	case !over:
		return api.ErrTwice
	case there.kind == api.KindDir || x.kind == api.KindDir:
		return api.ErrKind
	default:
		p.drop(there)
	}
	x.up, x.name = up.n, names[last]
	return api.OK
}

// stat is Stat of a plain volume.
func (p *plain) stat(n int) (api.Stat, api.Errno) {
	x := p.at(n)
	if x == nil {
		return api.Stat{}, api.ErrNone
	}
	return api.Stat{Kind: x.kind, Size: len(x.b)}, api.OK
}

// path is Path of a plain volume.
func (p *plain) path(n int) (string, api.Errno) {
	x := p.at(n)
	if x == nil {
		return "", api.ErrNone
	}
	return strings.Join(p.names(x), `\`), api.OK
}

// file is the file of a number.
func (p *plain) file(n int) (*thing, api.Errno) {
	x := p.at(n)
	switch {
	case x == nil:
		return nil, api.ErrNone
	case x.kind == api.KindDir:
		return nil, api.ErrKind
	}
	return x, api.OK
}

// read is Read of a plain volume.
func (p *plain) read(n, at, many int) ([]byte, api.Errno) {
	x, e := p.file(n)
	switch {
	case e != api.OK:
		return nil, e
	case at < 0 || many < 0:
		return nil, api.ErrArg
	case many == 0:
		return nil, api.OK
	case at >= len(x.b):
		return nil, api.ErrEnd
	case many > len(x.b)-at:
		return x.b[at:], api.OK
	}
	return x.b[at : at+many], api.OK
}

// sized gives a file a size: what is behind it goes, what is new is 0; ErrFull, if all files would have more than the quota.
func (p *plain) sized(x *thing, size int) api.Errno {
	if p.used()-len(x.b)+size > p.quota {
		return api.ErrFull
	}
	b := make([]byte, size)
	copy(b, x.b)
	x.b = b
	return api.OK
}

// write is Write of a plain volume.
func (p *plain) write(n, at int, b []byte) api.Errno {
	x, e := p.file(n)
	switch {
	case e != api.OK:
		return e
	case at < 0:
		return api.ErrArg
	case len(b) == 0:
		return api.OK
	case at > mostBytes || at+len(b) > mostBytes:
		return api.ErrLimit
	}
	if e := p.sized(x, max(len(x.b), at+len(b))); e != api.OK {
		return e
	}
	copy(x.b[at:], b)
	return api.OK
}

// cut is Cut of a plain volume.
func (p *plain) cut(n, size int) api.Errno {
	x, e := p.file(n)
	switch {
	case e != api.OK:
		return e
	case size < 0:
		return api.ErrArg
	case size > mostBytes:
		return api.ErrLimit
	}
	return p.sized(x, size)
}

// compare holds two texts, folded, against each other by letters.
func compare(a, b string) int {
	return slices.Compare([]rune(fold(a)), []rune(fold(b)))
}

// fits tells whether a pattern fits a text, both as letters, folded.
func fits(pattern, s []rune) bool {
	switch {
	case len(pattern) == 0:
		return len(s) == 0
	case pattern[0] == '*':
		return fits(pattern[1:], s) || len(s) > 0 && fits(pattern, s[1:])
	case len(s) == 0:
		return false
	}
	return (pattern[0] == '?' || pattern[0] == s[0]) && fits(pattern[1:], s[1:])
}

// list is List of a plain volume.
func (p *plain) list(n int, pattern, after string, most int) ([]api.Entry, bool, api.Errno) {
	x := p.at(n)
	switch {
	case x == nil:
		return nil, false, api.ErrNone
	case x.kind == api.KindFile:
		return nil, false, api.ErrKind
	case most < 0:
		return nil, false, api.ErrArg
	case !utf8.ValidString(pattern):
		return nil, false, api.ErrForm
	case utf8.RuneCountInString(pattern) > mostPattern:
		return nil, false, api.ErrLimit
	case !utf8.ValidString(after):
		return nil, false, api.ErrForm
	}
	var l []api.Entry
	for _, y := range p.in(n) {
		if compare(after, y.name) < 0 && fits([]rune(fold(pattern)), []rune(fold(y.name))) {
			l = append(l, api.Entry{Name: y.name, Stat: api.Stat{Kind: y.kind, Size: len(y.b)}})
		}
	}
	if len(l) > most {
		return l[:most], true, api.OK
	}
	return l, false, api.OK
}

// used is Used of a plain volume.
func (p *plain) used() int {
	n := 0
	for _, x := range p.l {
		n += len(x.b)
	}
	return n
}

// nodes is Nodes of a plain volume.
func (p *plain) nodes() []int {
	var l []int
	for _, x := range p.l {
		l = append(l, x.n)
	}
	slices.Sort(l)
	return l
}

// finds holds one Find against the plain volume's.
func finds(t *testing.T, why any, v *vol.Vol, p *plain, s string) {
	t.Helper()
	n, e := v.Find(s)
	if m, f := p.find(s); n != m || e != f {
		t.Fatalf("%v: Find(%s) = %d, %d, want %d, %d", why, short(s), n, e, m, f)
	}
}

// reads holds one Read against the plain volume's.
func reads(t *testing.T, why any, v *vol.Vol, p *plain, n, at, many int) {
	t.Helper()
	b, e := v.Read(n, at, many)
	if want, f := p.read(n, at, many); !bytes.Equal(b, want) || e != f {
		t.Fatalf("%v: Read(%d, %d, %d) = %s, %d, want %s, %d", why, n, at, many, short(string(b)), e, short(string(want)), f)
	}
}

// lists holds one List against the plain volume's.
func lists(t *testing.T, why any, v *vol.Vol, p *plain, n int, pattern, after string, most int) {
	t.Helper()
	l, more, e := v.List(n, pattern, after, most)
	if want, wantMore, f := p.list(n, pattern, after, most); !slices.Equal(l, want) || more != wantMore || e != f {
		t.Fatalf("%v: List(%d, %s, %s, %d) = %v, %v, %d, want %v, %v, %d", why, n, short(pattern), short(after), most, l, more, e, want, wantMore, f)
	}
}

// looks holds all that may be asked of a number against the plain volume's answers.
func looks(t *testing.T, why any, v *vol.Vol, p *plain, n int) {
	t.Helper()
	stat, e := v.Stat(n)
	if want, f := p.stat(n); stat != want || e != f {
		t.Fatalf("%v: Stat(%d) = %v, %d, want %v, %d", why, n, stat, e, want, f)
	}
	s, e := v.Path(n)
	if want, f := p.path(n); s != want || e != f {
		t.Fatalf("%v: Path(%d) = %s, %d, want %s, %d", why, n, short(s), e, short(want), f)
	}
	reads(t, why, v, p, n, 0, math.MaxInt)
	reads(t, why, v, p, n, 0, 0)
	lists(t, why, v, p, n, "*", "", math.MaxInt)
}

// stands holds all that may be asked of a volume against a plain one: how many bytes, which nodes, all of each of them, that each is found by its path, whatever letters are great, and numbers that are nobody's.
func stands(t *testing.T, why any, v *vol.Vol, p *plain) {
	t.Helper()
	if v.Used() != p.used() || v.Used() > p.quota {
		t.Fatalf("%v: Used = %d, want %d of %d", why, v.Used(), p.used(), p.quota)
	}
	if l := v.Nodes(); !slices.Equal(l, p.nodes()) {
		t.Fatalf("%v: Nodes = %v, want %v", why, l, p.nodes())
	}
	for n := -1; n <= p.last+1; n++ {
		looks(t, why, v, p, n)
	}
	for _, x := range p.l {
		s, _ := p.path(x.n)
		for _, s := range []string{s, fold(s), greatened(s)} {
			if n, e := v.Find(s); n != x.n || e != api.OK {
				t.Fatalf("%v: Find(%s) = %d, %d, want %d", why, short(s), n, e, x.n)
			}
		}
		finds(t, why, v, p, s+"x")
		finds(t, why, v, p, s+`\x`)
	}
}

// short tells a text, or the beginning of a long one.
func short(s string) string {
	if len(s) > 60 {
		return fmt.Sprint(short(s[:60]), ".. (", len(s), ")")
	}
	return strings.ReplaceAll(strings.Trim(strconv.QuoteToASCII(s), `"`), `\\`, `\`)
}

// told tells a volume's nodes but the root, each by its number and its path, a directory with \ behind it, a file with its bytes, such as 2 a\, 3 a\b:hi; a byte 0 is told as the digit.
func told(v *vol.Vol) string {
	var l []string
	for _, n := range v.Nodes() {
		s, _ := v.Path(n)
		b, _ := v.Read(n, 0, mostBytes)
		stat, _ := v.Stat(n)
		switch {
		case n == 1:
		case stat.Kind == api.KindDir:
			l = append(l, fmt.Sprint(n, " ", s, `\`))
		default:
			l = append(l, fmt.Sprint(n, " ", s, ":", short(strings.ReplaceAll(string(b), "\x00", "0"))))
		}
	}
	return strings.Join(l, ", ")
}

// verb is what is done to a volume.
type verb int

const (
	makes verb = iota
	removes
	moves
	writes
	cuts
)

// act is a Make of a path and a kind, a Remove of a node, a Move of one to a path, a Write of bytes at a place, or a Cut to the size at.
type act struct {
	verb  verb
	path  string
	kind  api.Kind
	n, at int
	over  bool
	b     []byte
}

// String tells an act.
func (a act) String() string {
	switch a.verb {
	case makes:
		return fmt.Sprintf("Make(%s, %d)", short(a.path), a.kind)
	case removes:
		return fmt.Sprintf("Remove(%d)", a.n)
	case moves:
		return fmt.Sprintf("Move(%d, %s, %v)", a.n, short(a.path), a.over)
	case writes:
		return fmt.Sprintf("Write(%d, %d, %s)", a.n, a.at, short(string(a.b)))
	}
	return fmt.Sprintf("Cut(%d, %d)", a.n, a.at)
}

// made is a Make.
func made(path string, k api.Kind) act {
	return act{verb: makes, path: path, kind: k}
}

// file is a Make of a file.
func file(path string) act {
	return made(path, api.KindFile)
}

// dir is a Make of a directory.
func dir(path string) act {
	return made(path, api.KindDir)
}

// remove is a Remove.
func remove(n int) act {
	return act{verb: removes, n: n}
}

// move is a Move to a path where nothing else is.
func move(n int, to string) act {
	return act{verb: moves, n: n, path: to}
}

// over is a Move over what is there.
func over(n int, to string) act {
	return act{verb: moves, n: n, path: to, over: true}
}

// write is a Write.
func write(n, at int, b string) act {
	return act{verb: writes, n: n, at: at, b: []byte(b)}
}

// cut is a Cut.
func cut(n, size int) act {
	return act{verb: cuts, n: n, at: size}
}

// some tells n bytes, none of them 0.
func some(n int) string {
	b := make([]byte, n)
	for i := range b {
		b[i] = byte(1 + (i*7+i>>8)%255)
	}
	return string(b)
}

// of does an act to a volume; a number is answered by a Make alone.
func (a act) of(v *vol.Vol) (int, api.Errno) {
	switch a.verb {
	case makes:
		return v.Make(a.path, a.kind)
	case removes:
		return 0, v.Remove(a.n)
	case moves:
		return 0, v.Move(a.n, a.path, a.over)
	case writes:
		return 0, v.Write(a.n, a.at, a.b)
	}
	return 0, v.Cut(a.n, a.at)
}

// ofPlain does an act to a plain volume.
func (a act) ofPlain(p *plain) (int, api.Errno) {
	switch a.verb {
	case makes:
		return p.make(a.path, a.kind)
	case removes:
		return 0, p.remove(a.n)
	case moves:
		return 0, p.move(a.n, a.path, a.over)
	case writes:
		return 0, p.write(a.n, a.at, a.b)
	}
	return 0, p.cut(a.n, a.at)
}

// does does an act to a volume and to a plain one, and holds the answers against each other.
func (a act) does(t *testing.T, why any, v *vol.Vol, p *plain) {
	t.Helper()
	m, f := a.ofPlain(p)
	if n, e := a.of(v); n != m || e != f {
		t.Fatalf("%v: %v = %d, %d, want %d, %d", why, a, n, e, m, f)
	}
}

// grown tells a volume and a plain one of a quota, to both of which acts were done.
func grown(t *testing.T, why any, quota int, acts ...act) (*vol.Vol, *plain) {
	t.Helper()
	v, e := vol.New(quota)
	if v == nil || e != api.OK {
		t.Fatalf("New(%d) = %p, %d", quota, v, e)
	}
	p := plainOf(quota)
	for _, a := range acts {
		a.does(t, why, v, p)
	}
	return v, p
}

// row is acts, what the last one answers, and what the volume is told as behind it.
type row struct {
	acts []act
	n    int
	e    api.Errno
	want string
}

// is a row of acts, the last of which answers an error, or none.
func is(e api.Errno, want string, acts ...act) row {
	return row{acts, 0, e, want}
}

// rows does each row's acts to a volume of its own, of a quota, which these first ones make.
func rows(t *testing.T, quota int, first []act, l []row) {
	t.Helper()
	for _, r := range l {
		last := len(r.acts) - 1
		v, p := grown(t, r.acts, quota, slices.Concat(first, r.acts[:last])...)
		if n, e := r.acts[last].of(v); n != r.n || e != r.e || told(v) != r.want {
			t.Errorf("%v = %d, %d: %s, want %d, %d: %s", r.acts, n, e, told(v), r.n, r.e, r.want)
		}
		r.acts[last].ofPlain(p)
		stands(t, r.acts, v, p)
	}
}

// tree are the acts that make a small volume of directories and files in each other, told as treeTold.
func tree() []act {
	return []act{dir("d"), dir(`d\E`), file(`d\E\f`), file("g"), dir("H"), file(`d\k`), write(4, 0, "four"), write(5, 0, "fives")}
}

const treeTold = `2 d\, 3 d\E\, 4 d\E\f:four, 5 g:fives, 6 H\, 7 d\k:`

// deep tells the acts that make directories in each other, as many as names are said, of one letter each from a on, numbered from 2 on.
func deep(names int) []act {
	var l []act
	for i := range names {
		l = append(l, dir(deepPath(i+1)))
	}
	return l
}

// deepPath is the path of so many names of one letter each, from a on.
func deepPath(names int) string {
	var l []string
	for i := range names {
		l = append(l, string(rune('a'+i)))
	}
	return strings.Join(l, `\`)
}

// vols are such as a test may ask each thing of.
func vols() map[string][]act {
	return map[string][]act{
		"of the root":       nil,
		"of the root again": {file("a"), write(2, 0, "abc"), remove(2), dir("a"), remove(3)},
		"one file":          {file("a"), write(2, 1, "abc")},
		"one directory":     {dir("A")},
		"a tree":            tree(),
		"a deep one":        append(deep(7), file(deepPath(8)), write(9, 3, "x")),
		"moved":             append(tree(), move(2, `h\D`), move(5, `H\d\g`), over(7, `h\d\e\F`), move(6, "top")),
		"many in one":       {file("m"), dir("C"), file("x"), dir("a"), file("Q"), file("ab"), dir("AA"), file("é"), dir("É"), file("_"), write(2, 0, "two"), cut(6, 600), write(7, 2, "x"), cut(9, 3), remove(3), file(`a\a`)},
		"cut":               {file("a"), file("B"), write(2, 0, "abcdef"), write(3, 2, "xyz"), cut(2, 3), cut(2, 5), cut(3, 0), cut(3, 2)},
	}
}

// noPaths are texts, and no texts, that are no paths, each with the error that Parse has of it.
func noPaths() map[string]api.Errno {
	return map[string]api.Errno{
		`\`: api.ErrArg, `\a`: api.ErrArg, `a\`: api.ErrArg, `d\`: api.ErrArg, `d\\E`: api.ErrArg, `a\\b`: api.ErrArg, "d/E": api.ErrArg, " ": api.ErrArg, ".": api.ErrArg, "d.": api.ErrArg, `d \k`: api.ErrArg, "*": api.ErrArg, "a:b": api.ErrArg, "\x00": api.ErrArg, "d\x1f": api.ErrArg,
		"\xff": api.ErrArg, "d\\\xff": api.ErrArg, "\x80\\k": api.ErrArg, "\xed\xa0\x80": api.ErrArg, strings.Repeat("x", 33): api.ErrArg, `d\` + strings.Repeat("é", 33): api.ErrArg,
		strings.Repeat(`a\`, 8) + "a": api.ErrLimit, `d\E\` + strings.Repeat(`a\`, 6) + "a": api.ErrLimit, `g\` + strings.Repeat(`a\`, 8) + "a": api.ErrLimit, strings.Repeat(`a\`, 300) + "a": api.ErrLimit,
		strings.Repeat(`a\`, 8) + ".": api.ErrArg, `\` + strings.Repeat(`a\`, 8) + "a": api.ErrArg,
	}
}

// nobodys are numbers that no node has, in a volume of few ones.
func nobodys() []int {
	return []int{0, -1, -2, 99, 256, 257, 1 << 31, 1 << 32, 1<<32 + 1, 1<<32 + 2, math.MaxInt, math.MinInt, math.MinInt + 1}
}

// sorted are a map's keys, in order.
func sorted[K cmp.Ordered, V any](m map[K]V) []K {
	var l []K
	for k := range m {
		l = append(l, k)
	}
	slices.Sort(l)
	return l
}

// P16.1 to P16.3: the chapter's examples.
func TestExamples(t *testing.T) {
	v, e := vol.New(mostQuota)
	if v == nil || e != api.OK {
		t.Fatalf("New = %p, %d", v, e)
	}
	for i, c := range []struct {
		act act
		n   int
		e   api.Errno
	}{
		{dir("a"), 2, api.OK}, {file(`a\b`), 3, api.OK}, {file(`A\B`), 0, api.ErrTwice},
	} {
		if n, e := c.act.of(v); n != c.n || e != c.e {
			t.Errorf("%d: %v = %d, %d, want %d, %d", i, c.act, n, e, c.n, c.e)
		}
	}
	if n, e := v.Find(`a\B`); n != 3 || e != api.OK {
		t.Errorf(`Find(a\B) = %d, %d`, n, e)
	}
	if e := v.Remove(2); e != api.ErrBusy {
		t.Errorf("Remove(2) = %d", e)
	}
	if e := v.Move(2, `a\c`, false); e != api.ErrArg {
		t.Errorf(`Move(2, a\c, no) = %d`, e)
	}
	if e := v.Move(3, "c", false); e != api.OK {
		t.Errorf("Move(3, c, no) = %d", e)
	}
	if s, e := v.Path(3); s != "c" || e != api.OK {
		t.Errorf("Path(3) = %q, %d", s, e)
	}
	if e := v.Remove(2); e != api.OK {
		t.Errorf("Remove(2) = %d", e)
	}
	if told(v) != "3 c:" {
		t.Errorf("behind all these: %s", told(v))
	}
}

// P16.1, P16.3: the chapter's examples of a quota.
func TestExamplesOfQuota(t *testing.T) {
	v, _ := vol.New(5)
	if n, e := v.Make("f", api.KindFile); n != 2 || e != api.OK {
		t.Fatalf("Make(f, file) = %d, %d", n, e)
	}
	for i, c := range []struct {
		act act
		e   api.Errno
	}{
		{write(2, 0, "abc"), api.OK}, {write(2, 3, "def"), api.ErrFull}, {cut(2, 5), api.OK}, {cut(2, 6), api.ErrFull},
	} {
		if _, e := c.act.of(v); e != c.e {
			t.Errorf("%d: %v = %d, want %d", i, c.act, e, c.e)
		}
	}
	if told(v) != "2 f:abc00" || v.Used() != 5 {
		t.Errorf("behind all these: %s, %d bytes", told(v), v.Used())
	}
}
