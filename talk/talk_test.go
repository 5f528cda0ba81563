package talk

import (
	"bytes"
	"encoding/binary"
	"fmt"
	"math"
	"math/rand"
	"reflect"
	"slices"
	"strings"
	"testing"
	"unicode/utf16"

	"refectory/api"
)

// named are the commands of the chapter's table, with the fields that their rows name.
var named = map[api.Command]struct{ ask, say []string }{
	api.Negotiate:  {[]string{"Dialects", "Guid"}, []string{"Dialect", "Size", "Challenge"}},
	api.Setup:      {[]string{"Proof", "User"}, nil},
	api.Logoff:     {nil, nil},
	api.Connect:    {[]string{"Share"}, nil},
	api.Disconnect: {nil, nil},
	api.Echo:       {nil, nil},
}

// inTable are the commands of the table, in order.
var inTable = []api.Command{0, 1, 2, 3, 4, 13}

// besideTable are commands beside it, and numbers that are none.
var besideTable = []api.Command{5, 6, 7, 8, 9, 10, 11, 12, 14, 15, 16, 17, 18, 19, 255, 256, 257, 259, 269, 32768, 65534, 65535}

var (
	guid      = [16]byte{0x81, 2, 3, 4, 5, 6, 7, 8, 9, 10, 11, 12, 13, 14, 15, 0xf0}
	proof     = [32]byte{0x91, 1, 2, 3, 30: 0xfe, 31: 0xff}
	challenge = [8]byte{0xa1, 0xa2, 0xa3, 0xa4, 0xa5, 0xa6, 0xa7, 0xa8}
)

// noTexts are Go strings that are no text.
var noTexts = []string{"\xff", "\x80", "a\xc3", "\xc3a", "\xed\xa0\x80", "\xed\xbf\xbf", "\xf4\x90\x80\x80", "\xc0\x80", "\xe2\x82", "\xf0\x90\x8d", strings.Repeat("a", 255) + "\xff"}

// noTextBytes are bytes that are no text's.
var noTextBytes = [][]byte{
	{0x61}, {0x61, 0, 0x62}, {0, 0xd8}, {0xff, 0xdb}, {0, 0xdc}, {0xff, 0xdf}, {0, 0xd8, 0x61, 0}, {0, 0xd8, 0, 0xd8}, {0, 0xdc, 0, 0xd8},
	{0, 0xd8, 0, 0xdc, 0, 0xdc}, {0, 0xd8, 0}, {0, 0xd8, 0, 0xe0}, append(bytes.Repeat([]byte{0x61, 0}, 255), 0, 0xd8), bytes.Repeat([]byte{0x61, 0}, 256)[:511],
}

// texts are texts of up to 512 bytes, letters of two units among them, and the edges of these.
var texts = []string{
	"", "a", "A", "ab", "aé", "\x00", "\u007f", "\u0080", "\u07ff", "\u0800", "\ud7ff", "\ue000", "\ufffd", "\ufeff", "\uffff", "\U00010000", "\U00010348", "\U0010ffff", "a\U00010348b",
	strings.Repeat("b", 255), strings.Repeat("b", 256), strings.Repeat("é", 256), strings.Repeat("\uffff", 256),
	strings.Repeat("\U00010348", 127), strings.Repeat("\U0010ffff", 128), strings.Repeat("\U00010000", 127) + "cd", strings.Repeat("x", 254) + "\U00010348", "c" + strings.Repeat("\U00010348", 127) + "d",
}

// longTexts are texts of more than 512 bytes.
var longTexts = []string{
	strings.Repeat("b", 257), strings.Repeat("b", 512), strings.Repeat("é", 257), strings.Repeat("\U0010ffff", 129), strings.Repeat("\U00010000", 128) + "c", strings.Repeat("x", 255) + "\U00010348",
	strings.Repeat("b", 32767), strings.Repeat("b", 32768), strings.Repeat("b", 1<<17),
}

// le lays numbers and bytes, the lowest byte first, by the language's own library.
func le(parts ...any) []byte {
	b := []byte{}
	for _, p := range parts {
		var e error
		b, e = binary.Append(b, binary.LittleEndian, p)
		if e != nil {
			panic(e)
		}
	}
	return b
}

// rowOf tells the row of bytes.
func rowOf(b []byte) []byte {
	return le(uint16(len(b)), b)
}

// textRow tells the row of a text.
func textRow(s string) []byte {
	return rowOf(le(utf16.Encode([]rune(s))))
}

// some tells n bytes that are not all the same.
func some(n int) []byte {
	b := make([]byte, n)
	for i := range b {
		b[i] = byte(i*7 + i>>8 + 1)
	}
	return b
}

// some16 tells n numbers that are not all the same.
func some16(n int) []uint16 {
	l := make([]uint16, n)
	for i := range l {
		l[i] = uint16(0xf102 + 0x0301*i)
	}
	return l
}

// asking is an Ask of a command, and its body.
type asking struct {
	c    api.Command
	a    api.Ask
	body []byte
}

// saying is a Say of a command, and its body.
type saying struct {
	c    api.Command
	s    api.Say
	body []byte
}

// askings are Asks that are put, of each command.
func askings() []asking {
	var l []asking
	for _, dialects := range [][]uint16{nil, {}, {0}, {1}, {0x0210}, {65535}, {0x0202, 0x0210}, {3, 3, 3}, some16(15), some16(16), make([]uint16, 16)} {
		for _, g := range [][16]byte{{}, guid, {15: 1}, {1}} {
			l = append(l, asking{api.Negotiate, api.Ask{Dialects: dialects, Guid: g}, le(uint16(len(dialects)), dialects, g)})
		}
	}
	for _, s := range texts {
		for _, p := range [][32]byte{{}, proof, {31: 1}, {1}} {
			l = append(l, asking{api.Setup, api.Ask{Proof: p, User: s}, le(p, textRow(s))})
		}
		l = append(l, asking{api.Connect, api.Ask{Share: s}, textRow(s)})
	}
	for _, c := range []api.Command{api.Logoff, api.Disconnect, api.Echo} {
		l = append(l, asking{c, api.Ask{}, make([]byte, 4)})
	}
	// Lists without elements are as those that are nil.
	for _, c := range inTable {
		last := l[slices.IndexFunc(l, func(x asking) bool { return x.c == c })]
		last.a.Data, last.a.Locks = []byte{}, []api.Lock{}
		if c != api.Negotiate {
			last.a.Dialects = []uint16{}
		}
		l = append(l, last)
	}
	return l
}

// sayings are Says that are put, of each command.
func sayings() []saying {
	var l []saying
	for _, dialect := range []uint16{0, 1, 255, 256, 0x0210, 65535} {
		for _, size := range []uint64{0, 1, 255, 256, 32768, 65536, 0x04030201, 1 << 31, math.MaxUint32 - 1, math.MaxUint32} {
			for _, ch := range [][8]byte{{}, challenge, {7: 1}, {1}} {
				l = append(l, saying{api.Negotiate, api.Say{Dialect: dialect, Size: size, Challenge: ch}, le(dialect, uint16(0), uint32(size), ch)})
			}
		}
	}
	for _, c := range inTable[1:] {
		l = append(l, saying{c, api.Say{}, make([]byte, 4)})
	}
	for _, c := range inTable {
		last := l[slices.IndexFunc(l, func(x saying) bool { return x.c == c })]
		last.s.Data, last.s.Entries = []byte{}, []api.Entry{}
		l = append(l, last)
	}
	return l
}

// plain is x with its lists without elements as nil.
func plain(x any) any {
	v := reflect.New(reflect.TypeOf(x)).Elem()
	v.Set(reflect.ValueOf(x))
	for i := range v.NumField() {
		if f := v.Field(i); f.Kind() == reflect.Slice && f.Len() == 0 {
			f.SetZero()
		}
	}
	return v.Interface()
}

// same tells whether two Asks, two Says are the same, lists that are nil and lists without elements too.
func same(a, b any) bool {
	return reflect.DeepEqual(plain(a), plain(b))
}

// bodyRefused tells that a call that puts answers an error alone.
func bodyRefused(t *testing.T, why any, b []byte, e, want api.Errno) {
	t.Helper()
	if len(b) != 0 || e != want {
		t.Errorf("%v: %x, %d; want %d", why, b, e, want)
	}
}

// askRefused tells that GetAsk answers an error alone.
func askRefused(t *testing.T, why any, c api.Command, b []byte, want api.Errno) {
	t.Helper()
	if a, e := GetAsk(c, b); !same(a, api.Ask{}) || e != want {
		t.Errorf("%v: GetAsk(%d, %x) = %+v, %d; want %d", why, c, b, a, e, want)
	}
}

// sayRefused tells that GetSay answers an error alone.
func sayRefused(t *testing.T, why any, c api.Command, b []byte, want api.Errno) {
	t.Helper()
	if s, e := GetSay(c, b); !same(s, api.Say{}) || e != want {
		t.Errorf("%v: GetSay(%d, %x) = %+v, %d; want %d", why, c, b, s, e, want)
	}
}

// rowRefused tells that GetRow answers an error alone.
func rowRefused(t *testing.T, why any, b []byte, at, most int, want api.Errno) {
	t.Helper()
	if row, next, e := GetRow(b, at, most); len(row) != 0 || next != 0 || e != want {
		t.Errorf("%v: GetRow(%d bytes, %d, %d) = %x, %d, %d; want %d", why, len(b), at, most, row, next, e, want)
	}
}

// textRefused tells that GetText answers an error alone.
func textRefused(t *testing.T, why any, b []byte, at int, want api.Errno) {
	t.Helper()
	if s, next, e := GetText(b, at); s != "" || next != 0 || e != want {
		t.Errorf("%v: GetText(%d bytes, %d) = %q, %d, %d; want %d", why, len(b), at, s, next, e, want)
	}
}

// P8.2, P8.3: the chapter's examples.
func TestExamples(t *testing.T) {
	if b, e := PutAsk(api.Connect, api.Ask{Share: "a"}); !bytes.Equal(b, []byte{2, 0, 0x61, 0}) || e != api.OK {
		t.Errorf("PutAsk(Connect, Share a) = %x, %d", b, e)
	}
	askRefused(t, "example", api.Echo, []byte{0, 0, 0, 0, 0}, api.ErrForm)
	askRefused(t, "example", api.Echo, []byte{0, 0}, api.ErrShort)
	askRefused(t, "example", api.Echo, []byte{1, 0, 0, 0}, api.ErrForm)
	b, e := PutAsk(api.Read, api.Ask{})
	bodyRefused(t, "PutAsk(Read, zero)", b, e, api.ErrArg)
}

// The bodies of the chapter's table, byte by byte.
func TestTable(t *testing.T) {
	asks := []asking{
		{api.Negotiate, api.Ask{Dialects: []uint16{0x0201, 0x0403}, Guid: [16]byte{5, 6, 7, 8, 9, 10, 11, 12, 13, 14, 15, 16, 17, 18, 19, 20}},
			[]byte{2, 0, 1, 2, 3, 4, 5, 6, 7, 8, 9, 10, 11, 12, 13, 14, 15, 16, 17, 18, 19, 20}},
		{api.Setup, api.Ask{Proof: [32]byte{1, 2, 3, 31: 32}, User: "aé"},
			[]byte{1, 2, 3, 0, 0, 0, 0, 0, 0, 0, 0, 0, 0, 0, 0, 0, 0, 0, 0, 0, 0, 0, 0, 0, 0, 0, 0, 0, 0, 0, 0, 32, 4, 0, 0x61, 0, 0xe9, 0}},
		{api.Connect, api.Ask{Share: "\U00010348"}, []byte{4, 0, 0, 0xd8, 0x48, 0xdf}},
		{api.Logoff, api.Ask{}, []byte{0, 0, 0, 0}},
		{api.Disconnect, api.Ask{}, []byte{0, 0, 0, 0}},
		{api.Echo, api.Ask{}, []byte{0, 0, 0, 0}},
	}
	for _, x := range asks {
		if b, e := PutAsk(x.c, x.a); !bytes.Equal(b, x.body) || e != api.OK {
			t.Errorf("PutAsk(%d, %+v) = %x, %d; want %x", x.c, x.a, b, e, x.body)
		}
		if a, e := GetAsk(x.c, x.body); !same(a, x.a) || e != api.OK {
			t.Errorf("GetAsk(%d, %x) = %+v, %d; want %+v", x.c, x.body, a, e, x.a)
		}
	}
	says := []saying{
		{api.Negotiate, api.Say{Dialect: 0x0201, Size: 0x06050403, Challenge: [8]byte{7, 8, 9, 10, 11, 12, 13, 14}},
			[]byte{1, 2, 0, 0, 3, 4, 5, 6, 7, 8, 9, 10, 11, 12, 13, 14}},
		{api.Setup, api.Say{}, []byte{0, 0, 0, 0}},
		{api.Connect, api.Say{}, []byte{0, 0, 0, 0}},
		{api.Logoff, api.Say{}, []byte{0, 0, 0, 0}},
		{api.Disconnect, api.Say{}, []byte{0, 0, 0, 0}},
		{api.Echo, api.Say{}, []byte{0, 0, 0, 0}},
	}
	for _, x := range says {
		if b, e := PutSay(x.c, x.s); !bytes.Equal(b, x.body) || e != api.OK {
			t.Errorf("PutSay(%d, %+v) = %x, %d; want %x", x.c, x.s, b, e, x.body)
		}
		if s, e := GetSay(x.c, x.body); !same(s, x.s) || e != api.OK {
			t.Errorf("GetSay(%d, %x) = %+v, %d; want %+v", x.c, x.body, s, e, x.s)
		}
	}
}

// P8.1: rows that are put, up to the greatest and beyond it.
func TestPutRow(t *testing.T) {
	for _, b := range [][]byte{nil, {}, {0}, {255}, {1, 0}} {
		if row, e := PutRow(b); !bytes.Equal(row, rowOf(b)) || e != api.OK {
			t.Errorf("PutRow(%x) = %x, %d", b, row, e)
		}
	}
	for _, n := range []int{0, 1, 2, 3, 254, 255, 256, 257, 511, 512, 513, 32767, 32768, 65534, 65535} {
		row, e := PutRow(some(n))
		if e != api.OK || len(row) != n+2 || row[0] != byte(n) || row[1] != byte(n>>8) || !bytes.Equal(row[2:], some(n)) {
			t.Errorf("PutRow of %d bytes: %d bytes, %d", n, len(row), e)
		}
	}
	for _, n := range []int{65536, 65537, 65538, 131071, 131072, 131073, 1 << 20} {
		row, e := PutRow(make([]byte, n))
		bodyRefused(t, fmt.Sprint("PutRow of ", n, " bytes"), row, e, api.ErrLimit)
	}
}

// P8.1: rows that are got, wherever they stand, with as many bytes as may be.
func TestGetRow(t *testing.T) {
	for _, n := range []int{0, 1, 2, 3, 255, 256, 257, 511, 512, 513, 65534, 65535} {
		row := rowOf(some(n))
		for _, ahead := range []int{0, 1, 2, 9} {
			for _, behind := range []int{0, 1, 2, 300} {
				b := slices.Concat(bytes.Repeat([]byte{0xee}, ahead), row, bytes.Repeat([]byte{0xdd}, behind))
				for _, most := range []int{n, n + 1, n + 2, 65535, 65536, 1 << 40, math.MaxInt} {
					if n > most {
						continue
					}
					if got, next, e := GetRow(b, ahead, most); !bytes.Equal(got, some(n)) || next != ahead+2+n || e != api.OK {
						t.Errorf("GetRow of %d bytes at %d, most %d: %d bytes, %d, %d", n, ahead, most, len(got), next, e)
					}
				}
			}
		}
	}
	two := slices.Concat(rowOf([]byte{1, 2}), rowOf(nil), rowOf([]byte{3}))
	want := [][]byte{{1, 2}, {}, {3}}
	at := 0
	for _, w := range want {
		got, next, e := GetRow(two, at, 2)
		if !bytes.Equal(got, w) || next != at+2+len(w) || e != api.OK {
			t.Errorf("GetRow(%x, %d) = %x, %d, %d; want %x", two, at, got, next, e, w)
		}
		at = next
	}
}

// P8.1: places that are none, whatever stands there and whatever may be the most.
func TestGetRowNoPlace(t *testing.T) {
	for _, b := range [][]byte{nil, {}, {0}, {0, 0}, {1, 0, 7}, {5, 0, 7}, rowOf(some(600)), make([]byte, 70)} {
		n := len(b)
		for _, at := range []int{-1, -2, -3, -n - 1, n + 1, n + 2, n + 3, 1 << 31, 1 << 40, math.MaxInt, math.MaxInt - 1, math.MaxInt - 2, math.MinInt, math.MinInt + 1, math.MinInt + 2} {
			for _, most := range []int{0, 1, 512, 65535, math.MaxInt, -1, math.MinInt} {
				rowRefused(t, "no place", b, at, most, api.ErrArg)
			}
			textRefused(t, "no place", b, at, api.ErrArg)
		}
		for _, most := range []int{0, 1, 512, 65535, math.MaxInt, -1, math.MinInt} {
			rowRefused(t, "the length", b, n, most, api.ErrShort)
			if n > 0 {
				rowRefused(t, "one below the length", b, n-1, most, api.ErrShort)
			}
		}
		textRefused(t, "the length", b, n, api.ErrShort)
	}
}

// P8.1: rows that end ahead of their bytes, wherever they are cut; the room behind the end is none of them.
func TestGetRowShort(t *testing.T) {
	for _, n := range []int{0, 1, 2, 3, 40, 512, 600} {
		row := rowOf(some(n))
		for cut := range row {
			rowRefused(t, "cut", row[:cut:cut], 0, 65535, api.ErrShort)
			rowRefused(t, "cut, with room behind", row[:cut], 0, 65535, api.ErrShort)
			rowRefused(t, "cut, behind others", append([]byte{0, 0, 0}, row[:cut]...), 3, 65535, api.ErrShort)
			rowRefused(t, "cut, of just the most", row[:cut], 0, n, api.ErrShort)
		}
	}
	long := rowOf(make([]byte, 65535))
	for _, cut := range []int{0, 1, 2, 3, 512, 65534, 65535, 65536} {
		rowRefused(t, "cut", long[:cut], 0, 65535, api.ErrShort)
	}
}

// P8.1: more bytes than may be, the most below 0 too.
func TestGetRowMost(t *testing.T) {
	for _, n := range []int{0, 1, 2, 255, 256, 512, 513, 65535} {
		row := rowOf(some(n))
		for _, most := range []int{n - 1, n - 2, n / 2, n % 256, 0, -1, -2, -512, math.MinInt, math.MinInt + 1} {
			if most >= n {
				continue
			}
			rowRefused(t, "more than may be", row, 0, most, api.ErrLimit)
			rowRefused(t, "more than may be, behind others", append([]byte{0, 0, 0, 0}, row...), 4, most, api.ErrLimit)
			// Ahead of what is missing behind.
			rowRefused(t, "more than may be, and cut", row[:2:2], 0, most, api.ErrLimit)
			// Behind what is missing of the number.
			rowRefused(t, "more than may be, and cut in the number", row[:1], 0, most, api.ErrShort)
			rowRefused(t, "more than may be, and nothing there", row[:0], 0, most, api.ErrShort)
			rowRefused(t, "more than may be, and no place", row, -1, most, api.ErrArg)
		}
	}
}

// P8.1: texts that are put, and got wherever they stand.
func TestTexts(t *testing.T) {
	for _, s := range texts {
		row, e := PutText(s)
		if !bytes.Equal(row, textRow(s)) || e != api.OK {
			t.Errorf("PutText(%q) = %x, %d; want %x", s, row, e, textRow(s))
		}
		for _, ahead := range []int{0, 1, 2, 7} {
			for _, behind := range []int{0, 1, 2, 600} {
				b := slices.Concat(bytes.Repeat([]byte{0xff}, ahead), textRow(s), bytes.Repeat([]byte{0xd8}, behind))
				if got, next, e := GetText(b, ahead); got != s || next != ahead+len(row) || e != api.OK {
					t.Errorf("GetText(%x, %d) = %q, %d, %d; want %q", b, ahead, got, next, e, s)
				}
			}
		}
	}
}

// P8.1: texts that are too long, and what is no text.
func TestPutTextRefused(t *testing.T) {
	for _, s := range longTexts {
		b, e := PutText(s)
		bodyRefused(t, fmt.Sprint("PutText of ", len(s)), b, e, api.ErrLimit)
	}
	for _, s := range noTexts {
		b, e := PutText(s)
		bodyRefused(t, fmt.Sprintf("PutText(%q)", s), b, e, api.ErrForm)
		// No text, and told ahead of its being too long.
		for _, long := range []string{s + strings.Repeat("a", 600), strings.Repeat("a", 600) + s, strings.Repeat("a", 40000) + s} {
			b, e = PutText(long)
			bodyRefused(t, fmt.Sprintf("PutText(%q)", long), b, e, api.ErrForm)
		}
	}
}

// P8.1: rows of texts that are too long, too short, or no text's.
func TestGetTextRefused(t *testing.T) {
	for _, s := range texts {
		row := textRow(s)
		for cut := range row {
			textRefused(t, "cut", row[:cut:cut], 0, api.ErrShort)
			textRefused(t, "cut, with room behind", row[:cut], 0, api.ErrShort)
			textRefused(t, "cut, behind others", append([]byte{0, 0}, row[:cut]...), 2, api.ErrShort)
		}
	}
	for _, s := range longTexts {
		if n := 2 * len(utf16.Encode([]rune(s))); n > 65535 {
			continue
		}
		textRefused(t, "too long", textRow(s), 0, api.ErrLimit)
		textRefused(t, "too long, and cut", textRow(s)[:2], 0, api.ErrLimit)
		textRefused(t, "too long, behind others", append([]byte{1}, textRow(s)...), 1, api.ErrLimit)
	}
	for _, n := range []int{513, 514, 515, 1023, 65535} {
		textRefused(t, "too long, and no text", rowOf(bytes.Repeat([]byte{0xd8}, n)), 0, api.ErrLimit)
		textRefused(t, "too long, and cut", rowOf(make([]byte, n))[:512], 0, api.ErrLimit)
	}
	for _, b := range noTextBytes {
		row := rowOf(b)
		textRefused(t, "no text", row, 0, api.ErrForm)
		// What follows is none of it, also where it would make it a text.
		textRefused(t, "no text, with bytes behind", slices.Concat(row, []byte{0, 0xdc, 0, 0xdc}), 0, api.ErrForm)
		textRefused(t, "no text, behind others", slices.Concat([]byte{4, 0, 0, 0xd8}, row), 4, api.ErrForm)
		textRefused(t, "no text, and cut", row[:len(row)-1], 0, api.ErrShort)
	}
	textRefused(t, "nothing", nil, 0, api.ErrShort)
	textRefused(t, "one byte", []byte{0}, 0, api.ErrShort)
}

// P8.2: Asks and Says that are put, each field at its ends.
func TestPut(t *testing.T) {
	for _, x := range askings() {
		if b, e := PutAsk(x.c, x.a); !bytes.Equal(b, x.body) || e != api.OK {
			t.Errorf("PutAsk(%d, %+v) = %x, %d; want %x", x.c, x.a, b, e, x.body)
		}
	}
	for _, x := range sayings() {
		if b, e := PutSay(x.c, x.s); !bytes.Equal(b, x.body) || e != api.OK {
			t.Errorf("PutSay(%d, %+v) = %x, %d; want %x", x.c, x.s, b, e, x.body)
		}
	}
}

// P8.2, P8.3: each number that a command can have, with what is zero and with bodies.
func TestCommands(t *testing.T) {
	bodies := [][]byte{nil, {0, 0, 0, 0}, make([]byte, 16), make([]byte, 18), make([]byte, 34), textRow("a"), {1}, {255, 255}}
	for n := range 1 << 16 {
		c := api.Command(n)
		if slices.Contains(inTable, c) {
			if b, e := PutAsk(c, api.Ask{}); len(b) == 0 || e != api.OK {
				t.Errorf("PutAsk(%d, zero) = %x, %d", c, b, e)
			}
			if b, e := PutSay(c, api.Say{}); len(b) == 0 || e != api.OK {
				t.Errorf("PutSay(%d, zero) = %x, %d", c, b, e)
			}
			continue
		}
		b, e := PutAsk(c, api.Ask{})
		bodyRefused(t, fmt.Sprint("PutAsk of ", c), b, e, api.ErrArg)
		b, e = PutSay(c, api.Say{})
		bodyRefused(t, fmt.Sprint("PutSay of ", c), b, e, api.ErrArg)
		for _, body := range bodies {
			if a, e := GetAsk(c, body); e != api.ErrArg || len(a.Dialects) != 0 || a.User != "" || a.Share != "" {
				t.Errorf("GetAsk(%d, %x) = %+v, %d", c, body, a, e)
			}
			if s, e := GetSay(c, body); e != api.ErrArg || s.Dialect != 0 || s.Size != 0 {
				t.Errorf("GetSay(%d, %x) = %+v, %d", c, body, s, e)
			}
		}
	}
}

// P8.2, P8.3: whatever else is wrong, a command beside the table is told first.
func TestCommandsBeside(t *testing.T) {
	asks := []api.Ask{{Dialects: some16(17)}, {User: "\xff"}, {Share: longTexts[0]}, {Guid: guid}, {File: 1, Size: 1 << 40}}
	says := []api.Say{{Dialect: 1}, {Size: 1 << 40}, {Challenge: challenge}, {File: 1}, {Data: []byte{1}}}
	for _, c := range besideTable {
		for _, x := range askings() {
			askRefused(t, "beside the table", c, x.body, api.ErrArg)
			asks = append(asks[:5:5], x.a)
			for _, a := range asks {
				b, e := PutAsk(c, a)
				bodyRefused(t, fmt.Sprintf("PutAsk(%d, %+v)", c, a), b, e, api.ErrArg)
			}
		}
		for _, x := range sayings() {
			sayRefused(t, "beside the table", c, x.body, api.ErrArg)
			b, e := PutSay(c, x.s)
			bodyRefused(t, fmt.Sprintf("PutSay(%d, %+v)", c, x.s), b, e, api.ErrArg)
		}
		for _, s := range says {
			b, e := PutSay(c, s)
			bodyRefused(t, fmt.Sprintf("PutSay(%d, %+v)", c, s), b, e, api.ErrArg)
		}
		for _, body := range [][]byte{nil, {}, {1}, {17, 0}, {255, 255, 255, 255, 255}, make([]byte, 1000)} {
			askRefused(t, "beside the table", c, body, api.ErrArg)
			sayRefused(t, "beside the table", c, body, api.ErrArg)
		}
	}
}

// change gives a field of what p points to each of several values that are not zero, one after the other, and calls then; after that the field has its value of before.
func change(p any, i int, then func()) {
	f := reflect.ValueOf(p).Elem().Field(i)
	before := reflect.New(f.Type()).Elem()
	before.Set(f)
	defer f.Set(before)
	switch f.Kind() {
	case reflect.Bool:
		f.SetBool(true)
		then()
	case reflect.String:
		for _, s := range []string{"a", "\x00", " ", "\xff", longTexts[0]} {
			f.SetString(s)
			then()
		}
	case reflect.Slice:
		for _, n := range []int{1, 2, 17} {
			f.Set(reflect.MakeSlice(f.Type(), n, n))
			then()
		}
	case reflect.Array:
		for j := range f.Len() {
			for bit := range 8 {
				f.SetZero()
				f.Index(j).SetUint(1 << bit)
				then()
			}
		}
	default:
		for bit := range f.Type().Bits() {
			f.SetUint(1 << bit)
			then()
		}
	}
}

// P8.2: each field of an Ask that is not zero though the command's row does not name it.
func TestPutAskNotNamed(t *testing.T) {
	fields := reflect.TypeFor[api.Ask]()
	for _, x := range askings() {
		a := x.a
		for i := range fields.NumField() {
			name := fields.Field(i).Name
			if slices.Contains(named[x.c].ask, name) {
				continue
			}
			change(&a, i, func() {
				b, e := PutAsk(x.c, a)
				bodyRefused(t, fmt.Sprintf("PutAsk(%d, %+v) with %s", x.c, a, name), b, e, api.ErrArg)
			})
		}
	}
}

// P8.2: each field of a Say that is not zero though the command's row does not name it.
func TestPutSayNotNamed(t *testing.T) {
	fields := reflect.TypeFor[api.Say]()
	for _, x := range sayings() {
		s := x.s
		for i := range fields.NumField() {
			name := fields.Field(i).Name
			if slices.Contains(named[x.c].say, name) {
				continue
			}
			change(&s, i, func() {
				b, e := PutSay(x.c, s)
				bodyRefused(t, fmt.Sprintf("PutSay(%d, %+v) with %s", x.c, s, name), b, e, api.ErrArg)
			})
		}
	}
}

// P8.2: a Size that is none of 4 bytes.
func TestPutSaySize(t *testing.T) {
	for _, size := range []uint64{1 << 32, 1<<32 + 1, 1<<32 + 65536, 1 << 33, 1 << 40, 1 << 63, math.MaxUint64} {
		for _, s := range []api.Say{{Size: size}, {Dialect: 0x0210, Size: size, Challenge: challenge}} {
			b, e := PutSay(api.Negotiate, s)
			bodyRefused(t, fmt.Sprintf("PutSay(Negotiate, %+v)", s), b, e, api.ErrArg)
		}
	}
	// Of another command's it is not named, whatever it is.
	for _, c := range inTable[1:] {
		for _, size := range []uint64{1, math.MaxUint32, 1 << 32, math.MaxUint64} {
			b, e := PutSay(c, api.Say{Size: size})
			bodyRefused(t, fmt.Sprint("PutSay of ", c, " with Size ", size), b, e, api.ErrArg)
		}
	}
	// An Ask's Size is not named by any row.
	for _, c := range inTable {
		b, e := PutAsk(c, api.Ask{Size: 1})
		bodyRefused(t, fmt.Sprint("PutAsk of ", c, " with Size 1"), b, e, api.ErrArg)
	}
}

// P8.2: more dialects than may be, and texts that PutText refuses; what is not named is told ahead of them.
func TestPutAskRefused(t *testing.T) {
	for _, n := range []int{17, 18, 32, 255, 256, 257, 272, 65535, 65536, 65552} {
		b, e := PutAsk(api.Negotiate, api.Ask{Dialects: make([]uint16, n), Guid: guid})
		bodyRefused(t, fmt.Sprint(n, " dialects"), b, e, api.ErrLimit)
		b, e = PutAsk(api.Negotiate, api.Ask{Dialects: make([]uint16, n), User: "a"})
		bodyRefused(t, fmt.Sprint(n, " dialects, and a User"), b, e, api.ErrArg)
		b, e = PutAsk(api.Negotiate, api.Ask{Dialects: make([]uint16, n), Share: "\xff"})
		bodyRefused(t, fmt.Sprint(n, " dialects, and a Share"), b, e, api.ErrArg)
		for _, c := range inTable[1:] {
			b, e = PutAsk(c, api.Ask{Dialects: make([]uint16, n)})
			bodyRefused(t, fmt.Sprint(n, " dialects of ", c), b, e, api.ErrArg)
		}
	}
	for want, l := range map[api.Errno][]string{api.ErrLimit: longTexts, api.ErrForm: append(slices.Clone(noTexts), longTexts[0]+"\xff")} {
		for _, s := range l {
			b, e := PutAsk(api.Setup, api.Ask{Proof: proof, User: s})
			bodyRefused(t, fmt.Sprintf("User %q", s), b, e, want)
			b, e = PutAsk(api.Connect, api.Ask{Share: s})
			bodyRefused(t, fmt.Sprintf("Share %q", s), b, e, want)
			b, e = PutAsk(api.Setup, api.Ask{User: s, Share: "a"})
			bodyRefused(t, fmt.Sprintf("User %q, and a Share", s), b, e, api.ErrArg)
			b, e = PutAsk(api.Connect, api.Ask{User: "a", Share: s})
			bodyRefused(t, fmt.Sprintf("Share %q, and a User", s), b, e, api.ErrArg)
			b, e = PutAsk(api.Connect, api.Ask{Share: s, On: true})
			bodyRefused(t, fmt.Sprintf("Share %q, and On", s), b, e, api.ErrArg)
		}
	}
}

// P8.3: bodies that are got.
func TestGet(t *testing.T) {
	for _, x := range askings() {
		if a, e := GetAsk(x.c, x.body); !same(a, x.a) || e != api.OK {
			t.Errorf("GetAsk(%d, %x) = %+v, %d; want %+v", x.c, x.body, a, e, x.a)
		}
	}
	for _, x := range sayings() {
		if s, e := GetSay(x.c, x.body); !same(s, x.s) || e != api.OK {
			t.Errorf("GetSay(%d, %x) = %+v, %d; want %+v", x.c, x.body, s, e, x.s)
		}
	}
}

// P8.3: each body cut at each place, and with bytes behind it; the room behind the end is none of it.
func TestGetCutAndLeft(t *testing.T) {
	each := func(c api.Command, body []byte, refused func(t *testing.T, why any, c api.Command, b []byte, want api.Errno)) {
		for cut := range body {
			refused(t, "cut", c, body[:cut:cut], api.ErrShort)
			refused(t, "cut, with room behind", c, body[:cut], api.ErrShort)
		}
		for _, behind := range [][]byte{{0}, {1}, {255}, {0, 0}, make([]byte, 4), make([]byte, 8), make([]byte, 600)} {
			refused(t, "left", c, slices.Concat(body, behind), api.ErrForm)
		}
		refused(t, "twice", c, slices.Concat(body, body), api.ErrForm)
	}
	for _, x := range askings() {
		each(x.c, x.body, askRefused)
	}
	for _, x := range sayings() {
		each(x.c, x.body, sayRefused)
	}
	for _, c := range inTable {
		askRefused(t, "nothing", c, nil, api.ErrShort)
		sayRefused(t, "nothing", c, nil, api.ErrShort)
	}
}

// P8.3: each 0 that is not 0, by each other byte, and by several at once.
func TestGetNoughts(t *testing.T) {
	one := func(body []byte, from, to int, refused func(b []byte)) {
		for i := from; i < to; i++ {
			for x := 1; x < 256; x++ {
				b := slices.Clone(body)
				b[i] = byte(x)
				refused(b)
			}
		}
		b := slices.Clone(body)
		copy(b[from:to], bytes.Repeat([]byte{255}, to-from))
		refused(b)
	}
	for _, c := range []api.Command{api.Logoff, api.Disconnect, api.Echo} {
		one(make([]byte, 4), 0, 4, func(b []byte) {
			askRefused(t, "no 0", c, b, api.ErrForm)
			askRefused(t, "no 0, and bytes left", c, append(b, 0), api.ErrForm)
			askRefused(t, "no 0, and cut", c, b[:3], api.ErrShort)
		})
	}
	for _, c := range inTable[1:] {
		one(make([]byte, 4), 0, 4, func(b []byte) {
			sayRefused(t, "no 0", c, b, api.ErrForm)
			sayRefused(t, "no 0, and bytes left", c, append(b, 0), api.ErrForm)
			sayRefused(t, "no 0, and cut", c, b[:3], api.ErrShort)
		})
	}
	for _, s := range []api.Say{{}, {Dialect: 0x0210, Size: 65536, Challenge: challenge}} {
		one(le(s.Dialect, uint16(0), uint32(s.Size), s.Challenge), 2, 4, func(b []byte) {
			sayRefused(t, "no 0", api.Negotiate, b, api.ErrForm)
			sayRefused(t, "no 0, and bytes left", api.Negotiate, append(b, 0), api.ErrForm)
			// Field by field: the 0 stands ahead of what is missing, unless it is missing itself.
			for cut := 4; cut < 16; cut++ {
				sayRefused(t, "no 0, and cut behind it", api.Negotiate, b[:cut], api.ErrForm)
			}
			for cut := range 4 {
				sayRefused(t, "no 0, and cut in it", api.Negotiate, b[:cut], api.ErrShort)
			}
		})
	}
}

// P8.3: more dialects than may be, whatever stands behind, and however little.
func TestGetDialects(t *testing.T) {
	for n := 17; n < 1<<16; n += 1 + n/50 {
		whole := le(uint16(n), make([]uint16, n), guid)
		for _, cut := range []int{2, 3, 4, 18, 34, 35, 36, len(whole) - 1, len(whole)} {
			askRefused(t, "dialects", api.Negotiate, whole[:cut], api.ErrLimit)
		}
		askRefused(t, "dialects, and a byte left", api.Negotiate, append(whole, 0), api.ErrLimit)
		for cut := range 2 {
			askRefused(t, "no count", api.Negotiate, whole[:cut], api.ErrShort)
		}
	}
	askRefused(t, "all", api.Negotiate, bytes.Repeat([]byte{255}, 1000), api.ErrLimit)
	// As many as may be, and fewer than they are.
	askRefused(t, "16, and none there", api.Negotiate, []byte{16, 0}, api.ErrShort)
	askRefused(t, "16, and 15 with a Guid there", api.Negotiate, le(uint16(16), some16(15), guid), api.ErrShort)
	askRefused(t, "15, and 16 with a Guid there", api.Negotiate, le(uint16(15), some16(16), guid), api.ErrForm)
	askRefused(t, "0, and one with a Guid there", api.Negotiate, le(uint16(0), some16(1), guid), api.ErrForm)
}

// P8.3: GetText's errors, in their order, and what is left behind them.
func TestGetTexts(t *testing.T) {
	each := func(row []byte, want api.Errno) {
		askRefused(t, "Share", api.Connect, row, want)
		askRefused(t, "User", api.Setup, le(proof, row), want)
	}
	for _, b := range noTextBytes {
		each(rowOf(b), api.ErrForm)
		each(append(rowOf(b), 0, 0xdc), api.ErrForm)
		each(rowOf(b)[:len(b)+1], api.ErrShort)
	}
	for _, n := range []int{513, 514, 515, 516, 1024, 65535} {
		each(rowOf(make([]byte, n)), api.ErrLimit)
		each(rowOf(make([]byte, n))[:2], api.ErrLimit)
		each(rowOf(make([]byte, n))[:513], api.ErrLimit)
		each(append(rowOf(make([]byte, n)), 1), api.ErrLimit)
		each(rowOf(bytes.Repeat([]byte{0xd8}, n)), api.ErrLimit)
		each(rowOf(make([]byte, n))[:1], api.ErrShort)
	}
	each(nil, api.ErrShort)
	askRefused(t, "no whole Proof", api.Setup, proof[:31], api.ErrShort)
}

// P8.4: what is put is got; two things that are not the same have two bodies.
func TestPutIsGot(t *testing.T) {
	for _, n := range []int{0, 1, 2, 512, 65535} {
		row, e := PutRow(some(n))
		if e != api.OK {
			t.Fatalf("PutRow of %d bytes: %d", n, e)
		}
		if got, next, e := GetRow(row, 0, n); !bytes.Equal(got, some(n)) || next != len(row) || e != api.OK {
			t.Errorf("GetRow of PutRow of %d bytes: %d bytes, %d, %d", n, len(got), next, e)
		}
	}
	for _, s := range texts {
		row, _ := PutText(s)
		if got, next, e := GetText(row, 0); got != s || next != len(row) || e != api.OK {
			t.Errorf("GetText of PutText(%q) = %q, %d, %d", s, got, next, e)
		}
	}
	asks := map[string]api.Ask{}
	for _, x := range askings() {
		b, _ := PutAsk(x.c, x.a)
		if a, e := GetAsk(x.c, b); !same(a, x.a) || e != api.OK {
			t.Errorf("GetAsk of PutAsk(%d, %+v) = %+v, %d", x.c, x.a, a, e)
		}
		key := fmt.Sprintf("%d %x", x.c, b)
		if other, ok := asks[key]; ok && !same(other, x.a) {
			t.Errorf("%+v and %+v are put as %s", x.a, other, key)
		}
		asks[key] = x.a
	}
	says := map[string]api.Say{}
	for _, x := range sayings() {
		b, _ := PutSay(x.c, x.s)
		if s, e := GetSay(x.c, b); !same(s, x.s) || e != api.OK {
			t.Errorf("GetSay of PutSay(%d, %+v) = %+v, %d", x.c, x.s, s, e)
		}
		key := fmt.Sprintf("%d %x", x.c, b)
		if other, ok := says[key]; ok && !same(other, x.s) {
			t.Errorf("%+v and %+v are put as %s", x.s, other, key)
		}
		says[key] = x.s
	}
}

// gotIsPut tells that bytes that a command gets are put again as they were, and that else nothing but an error is answered.
func gotIsPut(t *testing.T, c api.Command, b []byte) {
	t.Helper()
	a, e := GetAsk(c, b)
	switch e {
	case api.OK:
		if again, e := PutAsk(c, a); !bytes.Equal(again, b) || e != api.OK {
			t.Errorf("PutAsk(%d) of GetAsk of %x = %x, %d", c, b, again, e)
		}
	case api.ErrLimit, api.ErrShort, api.ErrForm:
		askRefused(t, "got", c, b, e)
	default:
		t.Errorf("GetAsk(%d, %x) = %+v, %d", c, b, a, e)
	}
	s, e := GetSay(c, b)
	switch e {
	case api.OK:
		if again, e := PutSay(c, s); !bytes.Equal(again, b) || e != api.OK {
			t.Errorf("PutSay(%d) of GetSay of %x = %x, %d", c, b, again, e)
		}
	case api.ErrShort, api.ErrForm:
		sayRefused(t, "got", c, b, e)
	default:
		t.Errorf("GetSay(%d, %x) = %+v, %d", c, b, s, e)
	}
	for _, most := range []int{0, 1, 512, 65535} {
		row, next, e := GetRow(b, 0, most)
		if e != api.OK {
			continue
		}
		if again, e := PutRow(row); !bytes.Equal(again, b[:next]) || e != api.OK {
			t.Errorf("PutRow of GetRow of %x = %x, %d", b, again, e)
		}
	}
	if s, next, e := GetText(b, 0); e == api.OK {
		if again, e := PutText(s); !bytes.Equal(again, b[:next]) || e != api.OK {
			t.Errorf("PutText of GetText of %x = %x, %d", b, again, e)
		}
	}
}

// P8.4: what is got is put as the same bytes: bodies with each byte at each number, and bytes of any kind.
func TestGotIsPut(t *testing.T) {
	bodies := [][]byte{
		le(uint16(0), guid), le(uint16(2), some16(2), guid), le(uint16(16), some16(16), guid), le(proof, textRow("")), le(proof, textRow("aé\U00010348")),
		textRow(""), textRow("\U00010348b"), make([]byte, 4), le(uint16(0x0210), uint16(0), uint32(65536), challenge),
	}
	for _, body := range bodies {
		for _, c := range inTable {
			for i := range body {
				b := slices.Clone(body)
				for x := range 256 {
					b[i] = byte(x)
					gotIsPut(t, c, b)
				}
			}
		}
	}
	random := rand.New(rand.NewSource(8))
	for range 20000 {
		b := make([]byte, random.Intn(60))
		for i := range b {
			// Small numbers and halves of letters, so that many of them are got.
			b[i] = []byte{0, 0, 0, 1, 2, 4, 0x61, 0xd8, 0xdc, byte(random.Intn(256))}[random.Intn(10)]
		}
		gotIsPut(t, inTable[random.Intn(len(inTable))], b)
	}
}

// spoil makes each byte of b, and of the room behind its end, another one.
func spoil(b []byte) {
	b = b[:cap(b)]
	for i := range b {
		b[i] ^= 0x5a
	}
}

// Rule 5: bytes that are handed in stay as they are, the room behind their end too.
func TestBytesStay(t *testing.T) {
	stay := func(whole []byte, call func(b []byte)) {
		for _, n := range []int{0, 1, 2, 3, 4, 5, len(whole) - 100, len(whole) - 99, len(whole)} {
			room := slices.Clone(whole)
			call(room[:n])
			if !bytes.Equal(room, whole) {
				t.Errorf("of %d bytes of %x is left %x", n, whole, room)
			}
		}
	}
	behind := bytes.Repeat([]byte{0xee}, 100)
	gets := func(c api.Command) func(b []byte) {
		return func(b []byte) {
			GetAsk(c, b)
			GetSay(c, b)
			PutRow(b)
			for at := range 6 {
				GetRow(b, at, 512)
				GetText(b, at)
			}
		}
	}
	for _, x := range askings() {
		stay(append(slices.Clone(x.body), behind...), gets(x.c))
		stay(append(slices.Clone(x.body), behind...), gets(5))
	}
	for _, x := range sayings() {
		stay(append(slices.Clone(x.body), behind...), gets(x.c))
	}
}

// Rule 5: the lists of an Ask and of a Say stay as they are, the room behind their ends too, whether it is put or refused.
func TestListsStay(t *testing.T) {
	for _, n := range []int{0, 1, 2, 16, 17, 20} {
		for _, c := range append(slices.Clone(inTable), besideTable...) {
			dialects, data := some16(30), some(30)
			locks := make([]api.Lock, 30)
			entries := make([]api.Entry, 30)
			for i := range locks {
				locks[i], entries[i] = api.Lock{At: uint64(i) + 1, N: 2, Mode: 1}, api.Entry{Name: fmt.Sprint(i)}
			}
			wantLocks, wantEntries := slices.Clone(locks), slices.Clone(entries)
			PutAsk(c, api.Ask{Dialects: dialects[:n]})
			PutAsk(c, api.Ask{Dialects: dialects[:n], Guid: guid, Data: data[:0], Locks: locks[:0]})
			PutAsk(c, api.Ask{Dialects: dialects[:n], Data: data[:n], Locks: locks[:n]})
			PutSay(c, api.Say{Data: data[:0], Entries: entries[:0]})
			PutSay(c, api.Say{Data: data[:n], Entries: entries[:n]})
			if !slices.Equal(dialects, some16(30)) || !bytes.Equal(data, some(30)) || !slices.Equal(locks, wantLocks) || !slices.Equal(entries, wantEntries) {
				t.Errorf("of %d elements of %d is left %x, %x, %v, %v", n, c, dialects, data, locks, entries)
			}
		}
	}
}

// Rule 5: what is put is new memory: no argument and no other answer shares any with it.
func TestPutIsNew(t *testing.T) {
	for _, n := range []int{0, 1, 2, 300, 65535} {
		b := some(n)
		one, _ := PutRow(b)
		two, _ := PutRow(b)
		spoil(one)
		if !bytes.Equal(b, some(n)) || !bytes.Equal(two, rowOf(some(n))) {
			t.Errorf("PutRow of %d bytes shares", n)
		}
		spoil(b)
		if !bytes.Equal(two, rowOf(some(n))) {
			t.Errorf("PutRow of %d bytes shares with them", n)
		}
	}
	for _, s := range texts {
		one, _ := PutText(s)
		two, _ := PutText(s)
		spoil(one)
		if !bytes.Equal(two, textRow(s)) {
			t.Errorf("two answers of PutText(%q) share", s)
		}
	}
	for _, x := range askings() {
		one, _ := PutAsk(x.c, x.a)
		two, _ := PutAsk(x.c, x.a)
		spoil(one)
		if three, _ := PutAsk(x.c, x.a); !bytes.Equal(two, x.body) || !bytes.Equal(three, x.body) {
			t.Errorf("two answers of PutAsk(%d, %+v) share", x.c, x.a)
		}
	}
	for _, x := range sayings() {
		one, _ := PutSay(x.c, x.s)
		two, _ := PutSay(x.c, x.s)
		spoil(one)
		if three, _ := PutSay(x.c, x.s); !bytes.Equal(two, x.body) || !bytes.Equal(three, x.body) {
			t.Errorf("two answers of PutSay(%d, %+v) share", x.c, x.s)
		}
	}
}

// Rule 5: what is got is new memory: neither the bytes nor another answer share any with it.
func TestGotIsNew(t *testing.T) {
	for _, n := range []int{0, 1, 2, 300, 65535} {
		whole := append(rowOf(some(n)), 1, 2, 3)
		b := slices.Clone(whole)
		one, _, _ := GetRow(b, 0, n)
		two, _, _ := GetRow(b, 0, n)
		spoil(one)
		if !bytes.Equal(b, whole) || !bytes.Equal(two, some(n)) {
			t.Errorf("GetRow of %d bytes shares", n)
		}
		spoil(b)
		if !bytes.Equal(two, some(n)) {
			t.Errorf("GetRow of %d bytes shares with them", n)
		}
	}
	for _, s := range texts {
		b := textRow(s)
		got, _, _ := GetText(b, 0)
		spoil(b)
		if got != s {
			t.Errorf("GetText of %q shares with the bytes: %q", s, got)
		}
	}
	for _, x := range askings() {
		b := slices.Clone(x.body)
		one, _ := GetAsk(x.c, b)
		two, _ := GetAsk(x.c, b)
		all := one.Dialects[:cap(one.Dialects)]
		for i := range all {
			all[i] ^= 0x5a5a
		}
		if !bytes.Equal(b, x.body) || !same(two, x.a) {
			t.Errorf("two answers of GetAsk(%d, %x) share: %+v", x.c, x.body, two)
		}
		spoil(b)
		if !same(two, x.a) {
			t.Errorf("what GetAsk(%d, %x) answered shares with the bytes: %+v", x.c, x.body, two)
		}
	}
	for _, x := range sayings() {
		b := slices.Clone(x.body)
		one, _ := GetSay(x.c, b)
		spoil(b)
		if !same(one, x.s) {
			t.Errorf("what GetSay(%d, %x) answered shares with the bytes: %+v", x.c, x.body, one)
		}
	}
}
