package utf

import (
	"bytes"
	"slices"
	"strings"
	"testing"
	"unicode/utf16"
	"unicode/utf8"

	"refectory/api"
)

// noTexts are strings with bytes that belong to no letter: loose ones, letters that are cut off, spelt too long, halves of letters, and letters above the last one.
var noTexts = []string{
	"\x80", "\xbf", "\xc0", "\xc1", "\xf5", "\xff", "a\xff", "\xffa", "a\xe9b",
	"\xc3", "\xe2\x82", "a\xf0\x90\x8d", "\xf0\x90\x8dA", "\xc3\xc3\xa9",
	"\xc0\x80", "\xc1\xbf", "\xe0\x80\x80", "\xe0\x9f\xbf", "\xf0\x80\x80\x80", "\xf0\x8f\xbf\xbf",
	"\xed\xa0\x80", "\xed\xaf\xbf", "\xed\xb0\x80", "\xed\xbf\xbf", "\xed\xa0\x80\xed\xb0\x80",
	"\xf4\x90\x80\x80", "\xf7\xbf\xbf\xbf", "\xf8\x88\x80\x80\x80",
	"\ufffd\xff", "\xef\xbf", "\xef\xbf\xff",
}

// texts are texts: the edges of each length of a letter and of each count of units among them, and the letter that a range tells where there is none.
var texts = []string{
	"", "a", "A", "Z", "z", "@", "[", "`", "{", "\x00", "\x7f", "\u0080", "\u07ff", "\u0800", "\ud7ff", "\ue000", "\ufffd", "\ufffe", "\uffff",
	"\U00010000", "\U000103ff", "\U00010400", "\U00010348", "\U0010fc00", "\U0010ffff",
	"ab", "aB", "AB", "abc", "a\x00", "aé", "AbÉ", "é", "É", "ß", "\u212a", "ſ", "k", "K", "\ufeffa", "a\ufffdb", "\ufffd\ufffd",
	"a\U00010348b", "\U00010348\U00010348", "€uro", "Name.TXT",
}

// letters are all letters, and a few on both sides of each edge alone if the test is short.
func letters(t *testing.T) []rune {
	var l []rune
	for r := rune(0); r <= utf8.MaxRune; r++ {
		if utf8.ValidRune(r) && (!testing.Short() || r < 0x900 || r&0x3ff < 2 || r&0x3ff > 0x3fd) {
			l = append(l, r)
		}
	}
	return l
}

// P2.1: the chapter's examples, ordinary texts and the edges of what takes one unit or two.
func TestPutGet(t *testing.T) {
	for _, c := range []struct {
		s string
		b []byte
		n int
	}{
		{"", nil, 0},
		{"a", []byte{0x61, 0}, 1},
		{"aé", []byte{0x61, 0, 0xe9, 0}, 2},
		{"\U00010348", []byte{0, 0xd8, 0x48, 0xdf}, 2},
		{"a\U00010348", []byte{0x61, 0, 0, 0xd8, 0x48, 0xdf}, 3},
		{"€", []byte{0xac, 0x20}, 1},
		{"\x00", []byte{0, 0}, 1},
		{"\ud7ff", []byte{0xff, 0xd7}, 1},
		{"\ue000", []byte{0, 0xe0}, 1},
		{"\ufffd", []byte{0xfd, 0xff}, 1},
		{"\ufeff", []byte{0xff, 0xfe}, 1},
		{"\uffff", []byte{0xff, 0xff}, 1},
		{"\U00010000", []byte{0, 0xd8, 0, 0xdc}, 2},
		{"\U000103ff", []byte{0, 0xd8, 0xff, 0xdf}, 2},
		{"\U00010400", []byte{1, 0xd8, 0, 0xdc}, 2},
		{"\U0010ffff", []byte{0xff, 0xdb, 0xff, 0xdf}, 2},
	} {
		if b, e := Put(c.s); !bytes.Equal(b, c.b) || e != api.OK {
			t.Errorf("Put(%q) = %x, %d; want %x", c.s, b, e, c.b)
		}
		if s, e := Get(c.b); s != c.s || e != api.OK {
			t.Errorf("Get(%x) = %q, %d; want %q", c.b, s, e, c.s)
		}
		if n, e := Units(c.s); n != c.n || e != api.OK {
			t.Errorf("Units(%q) = %d, %d; want %d", c.s, n, e, c.n)
		}
	}
}

// P2.1: what is no text has no bytes and no units.
func TestPutOfNoText(t *testing.T) {
	for _, s := range noTexts {
		for _, s := range []string{s, "abc" + s, s + "\u20ac"} {
			if b, e := Put(s); b != nil || e != api.ErrForm {
				t.Errorf("Put(%q) = %x, %d; want ErrForm", s, b, e)
			}
			if n, e := Units(s); n != 0 || e != api.ErrForm {
				t.Errorf("Units(%q) = %d, %d; want ErrForm", s, n, e)
			}
		}
	}
}

// P2.1: bytes that are no text's.
func TestGetOfNoText(t *testing.T) {
	for _, b := range [][]byte{
		{0x61}, {0}, {0x61, 0, 0x61}, {0, 0xd8, 0x48}, {0, 0xd8, 0x48, 0xdf, 0},
		{0x48, 0xd8}, {0, 0xd8}, {0xff, 0xdb}, {0x61, 0, 0, 0xd8}, {0, 0xd8, 0x61, 0}, {0, 0xd8, 0, 0xd8},
		{0, 0xd8, 0xff, 0xdb, 0, 0xdc}, {0, 0xd8, 0, 0xe0}, {0xff, 0xdb, 0xff, 0xdb},
		{0, 0xdc}, {0xff, 0xdf}, {0x61, 0, 0, 0xdc}, {0, 0xdc, 0, 0xd8}, {0, 0xd8, 0, 0xdc, 0, 0xdc}, {0, 0xdc, 0x61, 0},
		{0xff, 0xd7, 0, 0xdc}, {0, 0xe0, 0, 0xdc},
	} {
		if s, e := Get(b); s != "" || e != api.ErrForm {
			t.Errorf("Get(%x) = %q, %d; want ErrForm", b, s, e)
		}
	}
}

// P2.1: each single unit, alone, and each half beside another unit, as the language's own library tells it.
func TestGetUnits(t *testing.T) {
	for u := range 1 << 16 {
		s, e := Get([]byte{byte(u), byte(u >> 8)})
		if half := u >= 0xd800 && u <= 0xdfff; half != (e == api.ErrForm) || !half && (s != string(rune(u)) || e != api.OK) {
			t.Fatalf("Get of the unit %x = %q, %d", u, s, e)
		}
	}
	edges := []rune{0, 0x61, 0xd7ff, 0xd800, 0xd801, 0xdbff, 0xdc00, 0xdc01, 0xdfff, 0xe000, 0xffff}
	for _, u := range edges {
		for _, v := range edges {
			s, e := Get([]byte{byte(u), byte(u >> 8), byte(v), byte(v >> 8)})
			want, ok := string([]rune{u, v}), !utf16.IsSurrogate(u) && !utf16.IsSurrogate(v)
			if r := utf16.DecodeRune(u, v); r != utf8.RuneError {
				want, ok = string(r), true
			}
			if ok && (s != want || e != api.OK) || !ok && (s != "" || e != api.ErrForm) {
				t.Errorf("Get of the units %x, %x = %q, %d", u, v, s, e)
			}
		}
	}
}

// P2.2: letters A to Z alone are folded, and loose bytes stay.
func TestFold(t *testing.T) {
	for s, want := range map[string]string{
		"": "", "AbÉ": "abÉ", "abc": "abc", "ABCXYZ": "abcxyz", "@[`{": "@[`{", "0-9_.": "0-9_.",
		"É": "É", "ſK\u212a": "ſk\u212a", "\ufffdA": "\ufffda", "A\U00010400": "a\U00010400",
		"A\xffZ": "a\xffz", "\xc3A": "\xc3a", "\xe2\x82A": "\xe2\x82a", "\xed\xa0\x80B": "\xed\xa0\x80b", "\xc1\x81": "\xc1\x81",
	} {
		if f := Fold(s); f != want {
			t.Errorf("Fold(%q) = %q; want %q", s, f, want)
		}
	}
	for _, r := range letters(t) {
		want := r
		if i := strings.IndexRune("ABCDEFGHIJKLMNOPQRSTUVWXYZ", r); i >= 0 {
			want = rune("abcdefghijklmnopqrstuvwxyz"[i])
		}
		if f := Fold(string(r)); f != string(want) {
			t.Fatalf("Fold of the letter %x = %q", r, f)
		}
	}
}

// P2.2: alike, of texts and of what is none.
func TestAlike(t *testing.T) {
	for _, c := range []struct {
		a, b string
		want bool
	}{
		{"ab", "AB", true}, {"", "", true}, {"aB", "Ab", true}, {"É", "É", true}, {"a\xff", "A\xff", true},
		{"", "a", false}, {"a", "", false}, {"a", "b", false}, {"é", "É", false}, {"a", "aa", false}, {"a", "a\x00", false},
		{"@", "`", false}, {"[", "{", false}, {"k", "\u212a", false}, {"s", "ſ", false}, {"I", "ı", false},
		{"\xff", "\xfe", false}, {"\xff", "\ufffd", false}, {"\xff", "ÿ", false}, {"\xe9", "é", false}, {"\xc3", "\xc3\xa9", false},
	} {
		if got := Alike(c.a, c.b); got != c.want {
			t.Errorf("Alike(%q, %q) = %t", c.a, c.b, got)
		}
		if got := Alike(c.b, c.a); got != c.want {
			t.Errorf("Alike(%q, %q) = %t", c.b, c.a, got)
		}
	}
}

// P2.2: what stands in this list is ahead of all behind it, and of nothing ahead of it.
func TestAhead(t *testing.T) {
	l := []string{
		"", "\x00", "0", "@", "[", "`", "a", "a\x00", "A@", "AA", "aé", "a\ufffd", "a\x80", "B", "b\uffff", "b\U00010000", "b\xc3", "b\xc3a", "b\xc3\xc0", "z", "{", "\x7f",
		"\u0080", "É", "é", "\u07ff", "\ud7ff", "\ue000", "\ufffd", "\ufffda", "\uffff", "\U00010000", "\U0010ffff", "\U0010ffffa", "\U0010ffff\xff",
		"\x80", "\x80a", "\x80\x80", "\xbf", "\xc3", "\xc3A", "\xc3\xc2", "\xe2\x82", "\xed\xa0\x80", "\xf4\x90", "\xf4\x90\x80\x80", "\xfe", "\xff", "\xffA", "\xff\xff",
	}
	for i, a := range l {
		for j, b := range l {
			if got := Ahead(a, b); got != (i < j) {
				t.Errorf("Ahead(%q, %q) = %t", a, b, got)
			}
		}
	}
	// The bytes of the second one begin with those of the first one, its letters don't.
	if Ahead("\xe2\x82", "\u20ac") || !Ahead("\u20ac", "\xe2\x82") {
		t.Error("bytes that begin a letter's are ahead of it")
	}
}

// P2.2: the chapter's examples, whatever the size of the letters.
func TestAheadFolded(t *testing.T) {
	for _, c := range []struct {
		a, b string
		want bool
	}{
		{"a", "B", true}, {"A", "b", true}, {"B", "a", false}, {"b", "A", false}, {"a", "a", false}, {"A", "a", false}, {"a", "A", false},
		{"", "a", true}, {"a", "", false}, {"", "", false}, {"ABC", "abcd", true}, {"abcd", "ABC", false}, {"_", "A", true}, {"Z", "_", false}, {"\xff", "\xff", false},
	} {
		if got := Ahead(c.a, c.b); got != c.want {
			t.Errorf("Ahead(%q, %q) = %t", c.a, c.b, got)
		}
	}
}

// P2.3: each letter comes back of its bytes, and they are those that the language's own library tells.
func TestThereAndBack(t *testing.T) {
	for _, r := range letters(t) {
		back(t, string(r))
	}
	for _, s := range texts {
		for _, z := range texts {
			back(t, s+z)
		}
	}
}

func back(t *testing.T, s string) {
	t.Helper()
	var want []byte
	for _, u := range utf16.Encode([]rune(s)) {
		want = append(want, byte(u), byte(u>>8))
	}
	b, e := Put(s)
	if !bytes.Equal(b, want) || e != api.OK {
		t.Fatalf("Put(%q) = %x, %d", s, b, e)
	}
	if n, e := Units(s); 2*n != len(b) || e != api.OK {
		t.Fatalf("Units(%q) = %d, %d", s, n, e)
	}
	z, e := Get(b)
	if z != s || e != api.OK {
		t.Fatalf("Get(%x) = %q, %d", b, z, e)
	}
}

// P2.3: bytes of some units come back of their text, or are no text's.
func TestBackAndThere(t *testing.T) {
	units := []uint16{0, 0x41, 0xd7ff, 0xd800, 0xdbff, 0xdc00, 0xdfff, 0xe000, 0xfffd, 0xffff}
	for i := range 10000 {
		var b []byte
		for n := i; n > 0; n /= 10 {
			u := units[n%10]
			b = append(b, byte(u), byte(u>>8))
		}
		s, e := Get(b)
		if e != api.OK {
			continue
		}
		if z, e := Put(s); !bytes.Equal(z, b) || e != api.OK {
			t.Fatalf("Put(Get(%x)) = %x, %d", b, z, e)
		}
	}
}

// P2.3: what follows, of texts and of what is none.
func TestOrder(t *testing.T) {
	all := slices.Concat(texts, noTexts)
	for _, a := range all {
		if f := Fold(a); Fold(f) != f || !Alike(a, f) {
			t.Errorf("Fold(Fold(%q)) = %q", a, Fold(f))
		}
		for _, b := range all {
			if Alike(a, b) != (Fold(a) == Fold(b)) {
				t.Errorf("Alike(%q, %q)", a, b)
			}
			if Alike(a, b) && (Ahead(a, b) || Ahead(b, a)) {
				t.Errorf("%q and %q are alike, and one is ahead", a, b)
			}
			if !Alike(a, b) && Ahead(a, b) == Ahead(b, a) {
				t.Errorf("of %q and %q not just one is ahead", a, b)
			}
			for _, c := range all {
				if Ahead(a, b) && Ahead(b, c) && !Ahead(a, c) {
					t.Errorf("%q ahead of %q ahead of %q", a, b, c)
				}
			}
		}
	}
}

// Rule 5: what is handed in stays as it is, the room behind it too, and what is answered is new memory.
func TestNewMemory(t *testing.T) {
	room := []byte{0x61, 0, 0xe9, 0, 1, 2, 3, 4}
	b := room[:4]
	s, e := Get(b)
	if s != "aé" || e != api.OK || !bytes.Equal(room, []byte{0x61, 0, 0xe9, 0, 1, 2, 3, 4}) {
		t.Fatalf("Get = %q, %d; %x", s, e, room)
	}
	b[0] = 'z'
	if s != "aé" {
		t.Error("Get's text is the bytes that it was handed")
	}
	p, _ := Put(s)
	q, _ := Put(s)
	p[0] = 'z'
	if q[0] != 'a' {
		t.Error("two answers of Put share their memory")
	}
}
