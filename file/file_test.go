package file

import (
	"bytes"
	"encoding/binary"
	"fmt"
	"math"
	"math/rand"
	"reflect"
	"slices"
	"strings"
	"testing"
	"unicode/utf16"

	"refectory/api"
)

// named are the commands of the chapter's table, with the fields that their rows name.
var named = map[api.Command]struct{ ask, say []string }{
	api.Create: {[]string{"Access", "Sharing", "Way", "Options", "Level", "Durable", "File", "Name"}, []string{"Level", "Durable", "Made", "File", "Size", "Kind"}},
	api.Close:  {[]string{"File"}, nil},
	api.Flush:  {[]string{"File"}, nil},
	api.Read:   {[]string{"File", "At", "N"}, []string{"Data"}},
	api.Write:  {[]string{"File", "At", "Data"}, []string{"N"}},
	api.LockIt: {[]string{"File", "Locks"}, nil},
}

// inTable are the commands of the table, in order.
var inTable = []api.Command{5, 6, 7, 8, 9, 10}

// besideTable are commands beside it, and numbers that are none.
var besideTable = []api.Command{0, 1, 2, 3, 4, 11, 12, 13, 14, 15, 16, 17, 18, 19, 255, 256, 261, 262, 266, 32773, 65534, 65535}

// noTexts are Go strings that are no text.
var noTexts = []string{"\xff", "\x80", "a\xc3", "\xc3a", "\xed\xa0\x80", "\xed\xbf\xbf", "\xf4\x90\x80\x80", "\xc0\x80", "\xe2\x82", "\xf0\x90\x8d", strings.Repeat("a", 255) + "\xff"}

// noTextBytes are bytes that are no text's.
var noTextBytes = [][]byte{
	{0x61}, {0x61, 0, 0x62}, {0, 0xd8}, {0xff, 0xdb}, {0, 0xdc}, {0xff, 0xdf}, {0, 0xd8, 0x61, 0}, {0, 0xd8, 0, 0xd8}, {0, 0xdc, 0, 0xd8},
	{0, 0xd8, 0, 0xdc, 0, 0xdc}, {0, 0xd8, 0}, {0, 0xd8, 0, 0xe0}, append(bytes.Repeat([]byte{0x61, 0}, 255), 0, 0xd8), bytes.Repeat([]byte{0x61, 0}, 256)[:511],
}

// texts are texts of up to 512 bytes, letters of two units among them, and the edges of these.
var texts = []string{
	"", "a", "A", "ab", "aé", "a/b", "\x00", "\u007f", "\u0080", "\u07ff", "\u0800", "\ud7ff", "\ue000", "\ufffd", "\ufeff", "\uffff", "\U00010000", "\U00010348", "\U0010ffff", "a\U00010348b",
	strings.Repeat("b", 255), strings.Repeat("b", 256), strings.Repeat("é", 256), strings.Repeat("\uffff", 256),
	strings.Repeat("\U00010348", 127), strings.Repeat("\U0010ffff", 128), strings.Repeat("\U00010000", 127) + "cd", strings.Repeat("x", 254) + "\U00010348", "c" + strings.Repeat("\U00010348", 127) + "d",
}

// longTexts are texts of more than 512 bytes.
var longTexts = []string{
	strings.Repeat("b", 257), strings.Repeat("b", 512), strings.Repeat("é", 257), strings.Repeat("\U0010ffff", 128) + "c", strings.Repeat("\U0010ffff", 129), strings.Repeat("x", 255) + "\U00010348",
	strings.Repeat("b", 32767), strings.Repeat("b", 32768), strings.Repeat("b", 1<<17),
}

// le lays numbers and bytes, the lowest byte first, by the language's own library.
func le(parts ...any) []byte {
	b := []byte{}
	for _, p := range parts {
		var e error
		b, e = binary.Append(b, binary.LittleEndian, p)
		if e != nil {
			panic(e)
		}
	}
	return b
}

// rowOf tells the row of bytes.
func rowOf(b []byte) []byte {
	return le(uint16(len(b)), b)
}

// textRow tells the row of a text.
func textRow(s string) []byte {
	return rowOf(le(utf16.Encode([]rune(s))))
}

// some tells n bytes that are not all the same.
func some(n int) []byte {
	b := make([]byte, n)
	for i := range b {
		b[i] = byte(i*7 + i>>8 + 1)
	}
	return b
}

// someLocks tells n Locks that are not all the same.
func someLocks(n int) []api.Lock {
	l := make([]api.Lock, n)
	for i := range l {
		l[i] = api.Lock{At: 0x8172635445362718 + uint64(i), N: 0xf1e2d3c4b5a69788 - uint64(i), Mode: 0xf102 + 0x0301*uint16(i)}
	}
	return l
}

// lockBytes tells a Lock's bytes.
func lockBytes(l api.Lock) []byte {
	return le(l.At, l.N, l.Mode, uint16(0))
}

// locksBytes tells the bytes of Locks, with their number.
func locksBytes(l []api.Lock) []byte {
	b := le(uint16(len(l)), uint16(0))
	for _, x := range l {
		b = append(b, lockBytes(x)...)
	}
	return b
}

// dataBytes tells the bytes of Data, with their number.
func dataBytes(b []byte) []byte {
	return le(uint32(len(b)), b)
}

// asking is an Ask of a command, and its body.
type asking struct {
	c    api.Command
	a    api.Ask
	body []byte
}

// saying is a Say of a command, and its body.
type saying struct {
	c    api.Command
	s    api.Say
	body []byte
}

// create is a Create that asks.
func create(a api.Ask) asking {
	return asking{api.Create, a, le(a.Access, a.Sharing, a.Way, a.Options, a.Level, a.Durable, uint16(0), a.File, textRow(a.Name))}
}

// created is a Create that says.
func created(s api.Say) saying {
	return saying{api.Create, s, le(s.Level, s.Durable, s.Made, s.File, s.Size, uint16(s.Kind), uint16(0))}
}

// read, write and lock ask so.
func read(file, at uint64, n uint32) asking {
	return asking{api.Read, api.Ask{File: file, At: at, N: n}, le(file, at, n)}
}

func write(file, at uint64, data []byte) asking {
	return asking{api.Write, api.Ask{File: file, At: at, Data: data}, le(file, at, dataBytes(data))}
}

func lock(file uint64, l []api.Lock) asking {
	return asking{api.LockIt, api.Ask{File: file, Locks: l}, le(file, locksBytes(l))}
}

// ends8 and ends4 are numbers of 8 and of 4 bytes, the least and the greatest among them.
var (
	ends8 = []uint64{0, 1, 255, 256, 0x0807060504030201, 1 << 31, math.MaxUint32, 1 << 32, 1 << 62, 1<<62 + 1, 1<<63 - 1, 1 << 63, math.MaxUint64 - 1, math.MaxUint64}
	ends4 = []uint32{0, 1, 255, 256, 8192, 32768, 32769, 65536, 0x04030201, 1<<31 - 1, 1 << 31, math.MaxUint32 - 1, math.MaxUint32}
)

// creates are Creates that ask.
func creates() []asking {
	most := api.Ask{Access: math.MaxUint32, Sharing: math.MaxUint32, Way: math.MaxUint32, Options: math.MaxUint32, Level: 255, Durable: 255, File: math.MaxUint64, Name: strings.Repeat("\U0010ffff", 128)}
	each := api.Ask{Access: 0x04030201, Sharing: 0x18171615, Way: 0x2c2b2a29, Options: 0xf3f2f1f0, Level: 0x91, Durable: 0x82, File: 0x8877665544332211, Name: "aé"}
	l := []asking{create(api.Ask{}), create(most), create(each)}
	for _, s := range texts {
		l = append(l, create(api.Ask{Name: s}))
	}
	for _, n := range ends4 {
		l = append(l, create(api.Ask{Access: n}), create(api.Ask{Sharing: n}), create(api.Ask{Way: n}), create(api.Ask{Options: n}))
	}
	for _, n := range ends8 {
		l = append(l, create(api.Ask{File: n}))
	}
	for n := range 256 {
		l = append(l, create(api.Ask{Level: uint8(n)}), create(api.Ask{Durable: uint8(n), Name: "b"}))
	}
	return l
}

// askings are Asks that are put, of each command.
func askings() []asking {
	l := creates()
	for _, n := range ends8 {
		for _, c := range []api.Command{api.Close, api.Flush} {
			l = append(l, asking{c, api.Ask{File: n}, le(n)})
		}
		l = append(l, read(n, 0, 0), read(0, n, 0), write(n, 0, nil), write(0, n, some(3)), lock(n, nil), lock(n, someLocks(2)))
		l = append(l, lock(0, []api.Lock{{At: n}}), lock(1, []api.Lock{{N: n}, {At: 1}}))
	}
	for _, n := range ends4 {
		l = append(l, read(0, 0, n), read(0x8877665544332211, 0xf1e2d3c4b5a69788, n))
	}
	for _, n := range []int{0, 1, 2, 3, 8, 255, 256, 257, 8191, 8192, 8193, 32767, 32768} {
		l = append(l, write(0, 0, make([]byte, n)), write(0x8877665544332211, 0xf1e2d3c4b5a69788, some(n)))
	}
	for _, mode := range []uint16{0, 1, 2, 3, 4, 5, 255, 256, 0x8001, 65535} {
		l = append(l, lock(0, []api.Lock{{Mode: mode}}))
	}
	for n := range 17 {
		l = append(l, lock(0x8877665544332211, someLocks(n)), lock(0, make([]api.Lock, n)))
	}
	// Lists without elements are as those that are nil.
	for _, c := range inTable {
		last := l[slices.IndexFunc(l, func(x asking) bool { return x.c == c && len(x.a.Data) == 0 && len(x.a.Locks) == 0 })]
		last.a.Data, last.a.Locks, last.a.Dialects = []byte{}, []api.Lock{}, []uint16{}
		l = append(l, last)
	}
	return l
}

// sayings are Says that are put, of each command.
func sayings() []saying {
	l := []saying{
		created(api.Say{Level: 255, Durable: 255, Made: 2, File: math.MaxUint64, Size: math.MaxUint64, Kind: 2}),
		created(api.Say{Level: 0x91, Durable: 0x82, Made: 1, File: 0x8877665544332211, Size: 0xf1e2d3c4b5a69788, Kind: 2}),
	}
	for made := range uint16(3) {
		for kind := range api.Kind(3) {
			l = append(l, created(api.Say{Made: made, Kind: kind}))
		}
	}
	for n := range 256 {
		l = append(l, created(api.Say{Level: uint8(n)}), created(api.Say{Durable: uint8(n)}))
	}
	for _, n := range ends8 {
		l = append(l, created(api.Say{File: n}), created(api.Say{Size: n}))
	}
	for _, n := range ends4 {
		l = append(l, saying{api.Write, api.Say{N: n}, le(n)})
	}
	for _, n := range []int{0, 1, 2, 3, 8, 255, 256, 257, 32767, 32768} {
		l = append(l, saying{api.Read, api.Say{Data: some(n)}, dataBytes(some(n))})
	}
	for _, c := range []api.Command{api.Close, api.Flush, api.LockIt} {
		l = append(l, saying{c, api.Say{}, make([]byte, 4)})
	}
	for _, c := range inTable {
		last := l[slices.IndexFunc(l, func(x saying) bool { return x.c == c && len(x.s.Data) == 0 })]
		last.s.Data, last.s.Entries = []byte{}, []api.Entry{}
		l = append(l, last)
	}
	return l
}

// plain is x with its lists without elements as nil.
func plain(x any) any {
	v := reflect.New(reflect.TypeOf(x)).Elem()
	v.Set(reflect.ValueOf(x))
	for i := range v.NumField() {
		if f := v.Field(i); f.Kind() == reflect.Slice && f.Len() == 0 {
			f.SetZero()
		}
	}
	return v.Interface()
}

// same tells whether two Asks, two Says are the same, lists that are nil and lists without elements too.
func same(a, b any) bool {
	return reflect.DeepEqual(plain(a), plain(b))
}

// short tells bytes, or the first of many.
func short(b []byte) string {
	if len(b) > 80 {
		return fmt.Sprintf("%x.. (%d)", b[:80], len(b))
	}
	return fmt.Sprintf("%x", b)
}

// askIsPut tells that PutAsk answers a body.
func askIsPut(t *testing.T, x asking) {
	t.Helper()
	if b, e := PutAsk(x.c, x.a); !bytes.Equal(b, x.body) || e != api.OK {
		t.Errorf("PutAsk of %d = %s, %d; want %s", x.c, short(b), e, short(x.body))
	}
}

// askIsGot tells that GetAsk answers an Ask.
func askIsGot(t *testing.T, x asking) {
	t.Helper()
	if a, e := GetAsk(x.c, x.body); !same(a, x.a) || e != api.OK {
		t.Errorf("GetAsk(%d, %s) = File %x, At %x, %d; want File %x, At %x", x.c, short(x.body), a.File, a.At, e, x.a.File, x.a.At)
	}
}

// sayIsPut tells that PutSay answers a body.
func sayIsPut(t *testing.T, x saying) {
	t.Helper()
	if b, e := PutSay(x.c, x.s); !bytes.Equal(b, x.body) || e != api.OK {
		t.Errorf("PutSay of %d = %s, %d; want %s", x.c, short(b), e, short(x.body))
	}
}

// sayIsGot tells that GetSay answers a Say.
func sayIsGot(t *testing.T, x saying) {
	t.Helper()
	if s, e := GetSay(x.c, x.body); !same(s, x.s) || e != api.OK {
		t.Errorf("GetSay(%d, %s) = %d bytes of Data, File %x, %d", x.c, short(x.body), len(s.Data), s.File, e)
	}
}

// putAskRefused tells that PutAsk answers an error alone.
func putAskRefused(t *testing.T, why any, c api.Command, a api.Ask, want api.Errno) {
	t.Helper()
	if b, e := PutAsk(c, a); len(b) != 0 || e != want {
		t.Errorf("%v: PutAsk of %d = %s, %d; want %d", why, c, short(b), e, want)
	}
}

// putSayRefused tells that PutSay answers an error alone.
func putSayRefused(t *testing.T, why any, c api.Command, s api.Say, want api.Errno) {
	t.Helper()
	if b, e := PutSay(c, s); len(b) != 0 || e != want {
		t.Errorf("%v: PutSay of %d = %s, %d; want %d", why, c, short(b), e, want)
	}
}

// askRefused tells that GetAsk answers an error alone.
func askRefused(t *testing.T, why any, c api.Command, b []byte, want api.Errno) {
	t.Helper()
	if a, e := GetAsk(c, b); e != want || !same(a, api.Ask{}) {
		t.Errorf("%v: GetAsk(%d, %s) = %d; want %d alone", why, c, short(b), e, want)
	}
}

// sayRefused tells that GetSay answers an error alone.
func sayRefused(t *testing.T, why any, c api.Command, b []byte, want api.Errno) {
	t.Helper()
	if s, e := GetSay(c, b); e != want || !same(s, api.Say{}) {
		t.Errorf("%v: GetSay(%d, %s) = %d; want %d alone", why, c, short(b), e, want)
	}
}

// P9.1, P9.2, P9.3: the chapter's examples.
func TestExamples(t *testing.T) {
	if b, e := PutAsk(api.Close, api.Ask{File: 1}); !bytes.Equal(b, []byte{1, 0, 0, 0, 0, 0, 0, 0}) || e != api.OK {
		t.Errorf("PutAsk(Close, File 1) = %x, %d", b, e)
	}
	if a, e := GetAsk(api.Read, make([]byte, 20)); !same(a, api.Ask{}) || e != api.OK {
		t.Errorf("GetAsk(Read, 20 bytes 0) = %+v, %d", a, e)
	}
	askRefused(t, "19 bytes 0", api.Read, make([]byte, 19), api.ErrShort)
	if n := Charge(api.Read, api.Ask{N: 8193}); n != 2 {
		t.Errorf("Charge(Read, N 8193) = %d", n)
	}
	if n := Charge(api.Write, api.Ask{}); n != 1 {
		t.Errorf("Charge(Write, none) = %d", n)
	}
	if n := Charge(api.Create, api.Ask{}); n != 1 {
		t.Errorf("Charge(Create, zero) = %d", n)
	}
	if s, e := GetSay(api.Read, []byte{2, 0, 0, 0, 0x61, 0x62}); !same(s, api.Say{Data: []byte("ab")}) || e != api.OK {
		t.Errorf("GetSay(Read, of ab) = %+v, %d", s, e)
	}
	sayRefused(t, "three of ab", api.Read, []byte{3, 0, 0, 0, 0x61, 0x62}, api.ErrShort)
	sayRefused(t, "65535", api.Read, []byte{255, 255, 0, 0}, api.ErrLimit)
}

// The bodies of the chapter's table, byte by byte.
func TestTable(t *testing.T) {
	for _, x := range []asking{
		{api.Create, api.Ask{Access: 0x04030201, Sharing: 0x08070605, Way: 0x0c0b0a09, Options: 0x100f0e0d, Level: 17, Durable: 18, File: 0x1a19181716151413, Name: "a\U00010348"},
			[]byte{1, 2, 3, 4, 5, 6, 7, 8, 9, 10, 11, 12, 13, 14, 15, 16, 17, 18, 0, 0, 19, 20, 21, 22, 23, 24, 25, 26, 6, 0, 0x61, 0, 0, 0xd8, 0x48, 0xdf}},
		{api.Close, api.Ask{File: 0x0807060504030201}, []byte{1, 2, 3, 4, 5, 6, 7, 8}},
		{api.Flush, api.Ask{File: 0x0807060504030201}, []byte{1, 2, 3, 4, 5, 6, 7, 8}},
		{api.Read, api.Ask{File: 0x0807060504030201, At: 0x100f0e0d0c0b0a09, N: 0x14131211},
			[]byte{1, 2, 3, 4, 5, 6, 7, 8, 9, 10, 11, 12, 13, 14, 15, 16, 17, 18, 19, 20}},
		{api.Write, api.Ask{File: 0x0807060504030201, At: 0x100f0e0d0c0b0a09, Data: []byte{17, 18, 19}},
			[]byte{1, 2, 3, 4, 5, 6, 7, 8, 9, 10, 11, 12, 13, 14, 15, 16, 3, 0, 0, 0, 17, 18, 19}},
		{api.LockIt, api.Ask{File: 0x0807060504030201, Locks: []api.Lock{{At: 0x100f0e0d0c0b0a09, N: 0x1817161514131211, Mode: 0x1a19}, {At: 1, N: 2, Mode: 3}}},
			[]byte{1, 2, 3, 4, 5, 6, 7, 8, 2, 0, 0, 0, 9, 10, 11, 12, 13, 14, 15, 16, 17, 18, 19, 20, 21, 22, 23, 24, 25, 26, 0, 0, 1, 0, 0, 0, 0, 0, 0, 0, 2, 0, 0, 0, 0, 0, 0, 0, 3, 0, 0, 0}},
	} {
		askIsPut(t, x)
		askIsGot(t, x)
	}
	for _, x := range []saying{
		{api.Create, api.Say{Level: 1, Durable: 2, Made: 2, File: 0x0807060504030201, Size: 0x100f0e0d0c0b0a09, Kind: 1},
			[]byte{1, 2, 2, 0, 1, 2, 3, 4, 5, 6, 7, 8, 9, 10, 11, 12, 13, 14, 15, 16, 1, 0, 0, 0}},
		{api.Close, api.Say{}, []byte{0, 0, 0, 0}},
		{api.Flush, api.Say{}, []byte{0, 0, 0, 0}},
		{api.Read, api.Say{Data: []byte{5, 6, 7}}, []byte{3, 0, 0, 0, 5, 6, 7}},
		{api.Write, api.Say{N: 0x04030201}, []byte{1, 2, 3, 4}},
		{api.LockIt, api.Say{}, []byte{0, 0, 0, 0}},
	} {
		sayIsPut(t, x)
		sayIsGot(t, x)
	}
}

// P9.1: Asks and Says that are put, each field at its ends.
func TestPut(t *testing.T) {
	for _, x := range askings() {
		askIsPut(t, x)
	}
	for _, x := range sayings() {
		sayIsPut(t, x)
	}
}

// P9.2: bodies that are got, each field at its ends.
func TestGet(t *testing.T) {
	for _, x := range askings() {
		askIsGot(t, x)
	}
	for _, x := range sayings() {
		sayIsGot(t, x)
	}
}

// P9.1, P9.2: each number that a command can have, with what is zero and with bodies.
func TestCommands(t *testing.T) {
	bodies := [][]byte{nil, {0, 0, 0, 0}, make([]byte, 8), make([]byte, 12), make([]byte, 20), make([]byte, 24), make([]byte, 30), {255, 255, 255, 255}}
	for n := range 1 << 16 {
		c := api.Command(n)
		if slices.Contains(inTable, c) {
			if b, e := PutAsk(c, api.Ask{}); len(b) == 0 || e != api.OK {
				t.Errorf("PutAsk(%d, zero) = %x, %d", c, b, e)
			}
			if b, e := PutSay(c, api.Say{}); len(b) == 0 || e != api.OK {
				t.Errorf("PutSay(%d, zero) = %x, %d", c, b, e)
			}
			continue
		}
		putAskRefused(t, "zero", c, api.Ask{}, api.ErrArg)
		putSayRefused(t, "zero", c, api.Say{}, api.ErrArg)
		for _, body := range bodies {
			if a, e := GetAsk(c, body); e != api.ErrArg || a.File != 0 || a.Access != 0 || len(a.Data) != 0 || len(a.Locks) != 0 {
				t.Errorf("GetAsk(%d, %x) = %+v, %d", c, body, a, e)
			}
			if s, e := GetSay(c, body); e != api.ErrArg || s.File != 0 || s.N != 0 || len(s.Data) != 0 {
				t.Errorf("GetSay(%d, %x) = %+v, %d", c, body, s, e)
			}
		}
	}
}

// P9.1, P9.2: whatever else is wrong, a command beside the table is told first.
func TestCommandsBeside(t *testing.T) {
	asks := []api.Ask{{File: 1}, {Name: "\xff"}, {Name: longTexts[0]}, {Data: make([]byte, 32769)}, {Locks: make([]api.Lock, 17)}, {Locks: []api.Lock{{Open: 1}}}, {On: true}}
	says := []api.Say{{File: 1}, {Made: 3}, {Kind: 3}, {Data: make([]byte, 32769)}, {N: 1}, {More: true}}
	for _, c := range besideTable {
		for _, a := range asks {
			putAskRefused(t, "beside the table", c, a, api.ErrArg)
		}
		for _, s := range says {
			putSayRefused(t, "beside the table", c, s, api.ErrArg)
		}
		for _, x := range askings() {
			putAskRefused(t, "beside the table", c, x.a, api.ErrArg)
			askRefused(t, "beside the table", c, x.body, api.ErrArg)
			sayRefused(t, "beside the table", c, x.body, api.ErrArg)
		}
		for _, x := range sayings() {
			putSayRefused(t, "beside the table", c, x.s, api.ErrArg)
			sayRefused(t, "beside the table", c, x.body, api.ErrArg)
			askRefused(t, "beside the table", c, x.body, api.ErrArg)
		}
		for _, body := range [][]byte{nil, {}, {1}, {1, 2, 3}, bytes.Repeat([]byte{255}, 24), bytes.Repeat([]byte{255}, 1000), make([]byte, 1000)} {
			askRefused(t, "beside the table", c, body, api.ErrArg)
			sayRefused(t, "beside the table", c, body, api.ErrArg)
		}
	}
}

// change gives a field of what p points to each of several values that are not zero, one after the other, and calls then; after that the field has its value of before.
func change(p any, i int, then func()) {
	f := reflect.ValueOf(p).Elem().Field(i)
	before := reflect.New(f.Type()).Elem()
	before.Set(f)
	defer f.Set(before)
	switch f.Kind() {
	case reflect.Bool:
		f.SetBool(true)
		then()
	case reflect.String:
		for _, s := range []string{"a", "\x00", " ", "\xff", longTexts[0]} {
			f.SetString(s)
			then()
		}
	case reflect.Slice:
		for _, n := range []int{1, 2, 16, 17, 32768, 32769} {
			f.Set(reflect.MakeSlice(f.Type(), n, n))
			then()
		}
	case reflect.Array:
		for j := range f.Len() {
			for bit := range 8 {
				f.SetZero()
				f.Index(j).SetUint(1 << bit)
				then()
			}
		}
	default:
		for bit := range f.Type().Bits() {
			f.SetUint(1 << bit)
			then()
		}
	}
}

// P9.1: each field of an Ask that is not zero though the command's row does not name it.
func TestPutAskNotNamed(t *testing.T) {
	fields := reflect.TypeFor[api.Ask]()
	// Of each command one whose named fields are zero, one whose are not, and what would be refused else.
	asks := []asking{create(api.Ask{}), create(api.Ask{Access: 1, Sharing: 2, Way: 3, Options: 4, Level: 5, Durable: 6, File: 7, Name: "a"}), create(api.Ask{Name: "\xff"}), create(api.Ask{Name: longTexts[0]}),
		{api.Close, api.Ask{}, nil}, {api.Close, api.Ask{File: 1}, nil}, {api.Flush, api.Ask{}, nil}, {api.Flush, api.Ask{File: 1}, nil}, read(0, 0, 0), read(1, 2, 3),
		write(0, 0, nil), write(1, 2, []byte{3}), write(1, 2, make([]byte, 32768)), write(1, 2, make([]byte, 32769)), lock(0, nil), lock(1, someLocks(2)), lock(1, make([]api.Lock, 17))}
	for _, x := range asks {
		a := x.a
		for i := range fields.NumField() {
			name := fields.Field(i).Name
			if !slices.Contains(named[x.c].ask, name) {
				change(&a, i, func() { putAskRefused(t, name, x.c, a, api.ErrArg) })
			}
		}
	}
}

// P9.1: each field of a Say that is not zero though the command's row does not name it.
func TestPutSayNotNamed(t *testing.T) {
	fields := reflect.TypeFor[api.Say]()
	says := []saying{created(api.Say{}), created(api.Say{Level: 1, Durable: 2, Made: 1, File: 4, Size: 5, Kind: 1}), created(api.Say{Made: 3}), created(api.Say{Kind: 3}),
		{api.Close, api.Say{}, nil}, {api.Flush, api.Say{}, nil}, {api.LockIt, api.Say{}, nil}, {api.Write, api.Say{}, nil}, {api.Write, api.Say{N: 1}, nil},
		{api.Read, api.Say{}, nil}, {api.Read, api.Say{Data: []byte{1}}, nil}, {api.Read, api.Say{Data: make([]byte, 32768)}, nil}, {api.Read, api.Say{Data: make([]byte, 32769)}, nil}}
	for _, x := range says {
		s := x.s
		for i := range fields.NumField() {
			name := fields.Field(i).Name
			if !slices.Contains(named[x.c].say, name) {
				change(&s, i, func() { putSayRefused(t, name, x.c, s, api.ErrArg) })
			}
		}
	}
}

// P9.1: the Open of a Lock, of whichever of them, is named by no row.
func TestPutAskOpen(t *testing.T) {
	for _, n := range []int{1, 2, 3, 15, 16, 17, 20} {
		for i := range n {
			for _, open := range []int{1, 2, -1, 1 << 32, math.MaxInt, math.MinInt} {
				l := someLocks(n)
				l[i].Open = open
				putAskRefused(t, "Open", api.LockIt, api.Ask{File: 1, Locks: l}, api.ErrArg)
				l = make([]api.Lock, n)
				l[i].Open = open
				putAskRefused(t, "Open alone", api.LockIt, api.Ask{Locks: l}, api.ErrArg)
			}
		}
	}
}

// P9.1: more Data, more Locks than may be, and texts that PutText refuses; what is not named is told ahead of them.
func TestPutRefused(t *testing.T) {
	for _, n := range []int{32769, 32770, 40960, 65535, 65536, 65537, 98304, 1 << 17, 1<<17 + 1} {
		data := make([]byte, n)
		putAskRefused(t, n, api.Write, api.Ask{Data: data}, api.ErrLimit)
		putAskRefused(t, n, api.Write, api.Ask{File: 1, At: math.MaxUint64, Data: data}, api.ErrLimit)
		putSayRefused(t, n, api.Read, api.Say{Data: data}, api.ErrLimit)
		putAskRefused(t, n, api.Write, api.Ask{Data: data, N: 1}, api.ErrArg)
		putAskRefused(t, n, api.Write, api.Ask{Data: data, Name: "\xff"}, api.ErrArg)
		putSayRefused(t, n, api.Read, api.Say{Data: data, N: uint32(n)}, api.ErrArg)
		for _, c := range []api.Command{api.Create, api.Close, api.Flush, api.Read, api.LockIt} {
			putAskRefused(t, n, c, api.Ask{Data: data}, api.ErrArg)
		}
		for _, c := range []api.Command{api.Create, api.Close, api.Flush, api.Write, api.LockIt} {
			putSayRefused(t, n, c, api.Say{Data: data}, api.ErrArg)
		}
	}
	for _, n := range []int{17, 18, 32, 255, 256, 257, 272, 65535, 65536, 65552} {
		locks := make([]api.Lock, n)
		putAskRefused(t, n, api.LockIt, api.Ask{Locks: locks}, api.ErrLimit)
		putAskRefused(t, n, api.LockIt, api.Ask{File: math.MaxUint64, Locks: locks}, api.ErrLimit)
		putAskRefused(t, n, api.LockIt, api.Ask{Locks: locks, At: 1}, api.ErrArg)
		putAskRefused(t, n, api.LockIt, api.Ask{Locks: locks, Data: []byte{1}}, api.ErrArg)
		for _, c := range inTable[:5] {
			putAskRefused(t, n, c, api.Ask{Locks: locks}, api.ErrArg)
		}
	}
	for want, l := range map[api.Errno][]string{api.ErrLimit: longTexts, api.ErrForm: append(slices.Clone(noTexts), longTexts[0]+"\xff")} {
		for _, s := range l {
			putAskRefused(t, "Name", api.Create, api.Ask{Name: s}, want)
			putAskRefused(t, "Name", api.Create, api.Ask{Access: 1, Options: math.MaxUint32, Level: 255, File: 1, Name: s}, want)
			putAskRefused(t, "Name, and On", api.Create, api.Ask{Name: s, On: true}, api.ErrArg)
			putAskRefused(t, "Name, and Data", api.Create, api.Ask{Name: s, Data: make([]byte, 32769)}, api.ErrArg)
			for _, c := range inTable[1:] {
				putAskRefused(t, "Name", c, api.Ask{Name: s}, api.ErrArg)
			}
		}
	}
}

// P9.1: Made and Kind above 2.
func TestPutSayMadeKind(t *testing.T) {
	for _, made := range []uint16{3, 4, 5, 127, 128, 255, 256, 257, 258, 32768, 32770, 65535} {
		putSayRefused(t, made, api.Create, api.Say{Made: made}, api.ErrArg)
		putSayRefused(t, made, api.Create, api.Say{Level: 1, Made: made, File: 1, Size: 2, Kind: 2}, api.ErrArg)
	}
	for kind := 3; kind < 256; kind++ {
		putSayRefused(t, kind, api.Create, api.Say{Kind: api.Kind(kind)}, api.ErrArg)
		putSayRefused(t, kind, api.Create, api.Say{Level: 1, Made: 2, File: 1, Size: 2, Kind: api.Kind(kind)}, api.ErrArg)
	}
	putSayRefused(t, "both", api.Create, api.Say{Made: 3, Kind: 3}, api.ErrArg)
	for _, c := range inTable[1:] {
		for _, n := range []uint16{1, 2, 3, 65535} {
			putSayRefused(t, "Made", c, api.Say{Made: n}, api.ErrArg)
			putSayRefused(t, "Kind", c, api.Say{Kind: api.Kind(n)}, api.ErrArg)
		}
	}
}

// P9.2: each body cut at each place, and with bytes behind it; the room behind the end is none of it.
func TestGetCutAndLeft(t *testing.T) {
	each := func(c api.Command, body []byte, refused func(t *testing.T, why any, c api.Command, b []byte, want api.Errno)) {
		for cut := range body {
			if cut > 40 && cut < len(body)-20 && cut%61 != 0 && len(body) != 32788 && len(body) != 32772 {
				continue
			}
			refused(t, "cut", c, body[:cut:cut], api.ErrShort)
			refused(t, "cut, with room behind", c, body[:cut], api.ErrShort)
		}
		for _, behind := range [][]byte{{0}, {1}, {255}, {0, 0}, make([]byte, 4), make([]byte, 8), make([]byte, 20), make([]byte, 600)} {
			refused(t, "left", c, slices.Concat(body, behind), api.ErrForm)
		}
		refused(t, "twice", c, slices.Concat(body, body), api.ErrForm)
	}
	for _, x := range askings() {
		each(x.c, x.body, askRefused)
	}
	for _, x := range sayings() {
		each(x.c, x.body, sayRefused)
	}
	for _, c := range inTable {
		askRefused(t, "nothing", c, nil, api.ErrShort)
		sayRefused(t, "nothing", c, nil, api.ErrShort)
		askRefused(t, "nothing", c, []byte{}, api.ErrShort)
		sayRefused(t, "nothing", c, []byte{}, api.ErrShort)
	}
}

// gap tells that a body is refused whose bytes of a 0 are not 0: by each other byte, and by all of them at once; also where bytes are missing behind the 0, or left.
func gap(t *testing.T, c api.Command, body []byte, from, to int, refused func(t *testing.T, why any, c api.Command, b []byte, want api.Errno)) {
	t.Helper()
	cuts := func(b []byte) {
		refused(t, "no 0, and bytes left", c, append(slices.Clone(b), 0), api.ErrForm)
		for cut := to; cut < len(b); cut++ {
			refused(t, "no 0, and cut behind it", c, b[:cut], api.ErrForm)
		}
		for cut := range to {
			refused(t, "no 0, and cut in it", c, b[:cut], api.ErrShort)
		}
	}
	for i := from; i < to; i++ {
		b := slices.Clone(body)
		for x := 1; x < 256; x++ {
			b[i] = byte(x)
			refused(t, "no 0", c, b, api.ErrForm)
		}
		cuts(b)
	}
	b := slices.Clone(body)
	copy(b[from:to], bytes.Repeat([]byte{255}, to-from))
	refused(t, "no 0", c, b, api.ErrForm)
	cuts(b)
}

// P9.2: each 0 that is not 0.
func TestGetNoughts(t *testing.T) {
	for _, c := range []api.Command{api.Close, api.Flush, api.LockIt} {
		gap(t, c, make([]byte, 4), 0, 4, sayRefused)
	}
	for _, a := range []api.Ask{{}, {Access: 1, Level: 255, Durable: 255, File: math.MaxUint64, Name: "ab"}} {
		gap(t, api.Create, create(a).body, 18, 20, askRefused)
	}
	for _, s := range []api.Say{{}, {Level: 255, Durable: 255, Made: 2, File: math.MaxUint64, Size: math.MaxUint64, Kind: 2}} {
		gap(t, api.Create, created(s).body, 22, 24, sayRefused)
	}
	for _, n := range []int{0, 1, 2, 3, 16} {
		gap(t, api.LockIt, lock(1, someLocks(n)).body, 10, 12, askRefused)
	}
	for _, n := range []int{1, 2, 3} {
		for i := range n {
			gap(t, api.LockIt, lock(1, someLocks(n)).body, 12+20*i+18, 12+20*i+20, askRefused)
		}
	}
	for i := range 16 {
		b := lock(1, someLocks(16)).body
		b[12+20*i+19] = 1
		askRefused(t, "no 0", api.LockIt, b, api.ErrForm)
	}
}

// P9.2: Made and Kind above 2, ahead of what is missing behind them.
func TestGetMadeKind(t *testing.T) {
	zero, full := created(api.Say{}).body, created(api.Say{Level: 255, Durable: 255, Made: 2, File: math.MaxUint64, Size: math.MaxUint64, Kind: 2}).body
	for _, body := range [][]byte{zero, full} {
		for _, at := range []int{2, 20} {
			for n := 3; n < 1<<16; n += 1 + n/300 {
				b := slices.Clone(body)
				binary.LittleEndian.PutUint16(b[at:], uint16(n))
				sayRefused(t, "above 2", api.Create, b, api.ErrForm)
				sayRefused(t, "above 2, and cut behind it", api.Create, b[:at+2], api.ErrForm)
				sayRefused(t, "above 2, and cut at the end", api.Create, b[:23], api.ErrForm)
				sayRefused(t, "above 2, and a byte left", api.Create, append(b, 0), api.ErrForm)
				sayRefused(t, "above 2, and cut in it", api.Create, b[:at+1], api.ErrShort)
			}
		}
	}
}

// P9.2: numbers of Data above what may be, and above what is there.
func TestGetData(t *testing.T) {
	file := some(16)
	for _, n := range []uint32{32769, 32770, 33024, 65535, 65536, 65537, 98304, 1 << 17, 1 << 24, 1 << 30, 1<<31 - 1, 1 << 31, 1<<31 + 1, math.MaxUint32 - 1, math.MaxUint32} {
		for _, there := range []int{0, 1, 2, 600, 32768, 32769, 70000} {
			b := le(n, make([]byte, there))
			sayRefused(t, "above the limit", api.Read, b, api.ErrLimit)
			askRefused(t, "above the limit", api.Write, le(file, b), api.ErrLimit)
		}
		for cut := range 4 {
			sayRefused(t, "cut in the number", api.Read, le(n)[:cut], api.ErrShort)
			askRefused(t, "cut in the number", api.Write, le(file, le(n)[:cut]), api.ErrShort)
		}
	}
	for _, n := range []int{1, 2, 3, 255, 256, 257, 512, 8192, 32767, 32768} {
		for _, there := range []int{0, n / 2, n - 1} {
			b := le(uint32(n), make([]byte, there))
			sayRefused(t, "above what is there", api.Read, b, api.ErrShort)
			askRefused(t, "above what is there", api.Write, le(file, b), api.ErrShort)
		}
		for _, there := range []int{n + 1, n + 2, 2*n + 4, n + 65536} {
			b := le(uint32(n), make([]byte, there))
			sayRefused(t, "less than is there", api.Read, b, api.ErrForm)
			askRefused(t, "less than is there", api.Write, le(file, b), api.ErrForm)
		}
	}
}

// P9.2: numbers of Locks above what may be, whatever stands behind, and above what is there.
func TestGetLocks(t *testing.T) {
	for n := 17; n < 1<<16; n += 1 + n/40 {
		for _, there := range []int{0, 1, 2, 3, 20, 322, 340, 342} {
			askRefused(t, "above the limit", api.LockIt, le(uint64(1), uint16(n), make([]byte, there)), api.ErrLimit)
			askRefused(t, "above the limit, and no 0", api.LockIt, le(uint64(1), uint16(n), bytes.Repeat([]byte{255}, there)), api.ErrLimit)
		}
		askRefused(t, "cut in the number", api.LockIt, le(uint64(1), byte(n)), api.ErrShort)
	}
	for n := 1; n <= 16; n++ {
		b := lock(1, someLocks(n)).body
		for more := n + 1; more <= 16; more++ {
			binary.LittleEndian.PutUint16(b[8:], uint16(more))
			askRefused(t, "above what is there", api.LockIt, b, api.ErrShort)
		}
		for less := range n {
			binary.LittleEndian.PutUint16(b[8:], uint16(less))
			askRefused(t, "less than is there", api.LockIt, b, api.ErrForm)
		}
	}
}

// P9.2: GetText's errors, in their order, and what is left behind them.
func TestGetNames(t *testing.T) {
	ahead := create(api.Ask{Access: 1, File: 2}).body[:28]
	each := func(row []byte, want api.Errno) {
		t.Helper()
		askRefused(t, "Name", api.Create, le(ahead, row), want)
		// The 0 stands ahead of it.
		b := le(ahead, row)
		b[19] = 1
		askRefused(t, "no 0, and Name", api.Create, b, api.ErrForm)
	}
	for _, b := range noTextBytes {
		each(rowOf(b), api.ErrForm)
		each(append(rowOf(b), 0, 0xdc), api.ErrForm)
		each(rowOf(b)[:len(b)+1], api.ErrShort)
	}
	for _, n := range []int{513, 514, 515, 516, 768, 1024, 65535} {
		each(rowOf(make([]byte, n)), api.ErrLimit)
		each(rowOf(make([]byte, n))[:2], api.ErrLimit)
		each(rowOf(make([]byte, n))[:513], api.ErrLimit)
		each(append(rowOf(make([]byte, n)), 1), api.ErrLimit)
		each(rowOf(bytes.Repeat([]byte{0xd8}, n)), api.ErrLimit)
		each(rowOf(make([]byte, n))[:1], api.ErrShort)
	}
	each(textRow(longTexts[3]), api.ErrLimit)
	each(nil, api.ErrShort)
}

// P9.3: how much is charged.
func TestCharge(t *testing.T) {
	for n, want := range map[uint32]int{0: 1, 1: 1, 2: 1, 8191: 1, 8192: 1, 8193: 2, 16383: 2, 16384: 2, 16385: 3, 24576: 3, 24577: 4, 32767: 4, 32768: 4, 32769: 5, 40960: 5, 40961: 6, 65536: 8, 65537: 9,
		1<<31 - 1: 262144, 1 << 31: 262144, 1<<31 + 1: 262145, math.MaxUint32 - 8192: 524287, math.MaxUint32 - 8191: 524287, math.MaxUint32 - 8190: 524288, math.MaxUint32 - 1: 524288, math.MaxUint32: 524288} {
		if got := Charge(api.Read, api.Ask{N: n}); got != want {
			t.Errorf("Charge(Read, N %d) = %d; want %d", n, got, want)
		}
		// Of a Read the Data count nothing, and of a Write N.
		if got := Charge(api.Read, api.Ask{File: 1, At: 2, N: n, Data: make([]byte, 20000)}); got != want {
			t.Errorf("Charge(Read, N %d, with Data) = %d; want %d", n, got, want)
		}
		if n < 100000 {
			if got := Charge(api.Write, api.Ask{Data: make([]byte, n)}); got != want {
				t.Errorf("Charge(Write, %d Data) = %d; want %d", n, got, want)
			}
			if got := Charge(api.Write, api.Ask{File: 1, At: 2, N: 50000, Data: make([]byte, n)}); got != want {
				t.Errorf("Charge(Write, %d Data, with N) = %d; want %d", n, got, want)
			}
		}
		if got := Charge(api.Write, api.Ask{N: n}); got != 1 {
			t.Errorf("Charge(Write, no Data, N %d) = %d", n, got)
		}
	}
	for n := range 70000 {
		if got, want := Charge(api.Read, api.Ask{N: uint32(n)}), max(1, int(math.Ceil(float64(n)/8192))); got != want {
			t.Fatalf("Charge(Read, N %d) = %d; want %d", n, got, want)
		}
	}
}

// P9.3: each other command is charged 1, whatever it asks.
func TestChargeOthers(t *testing.T) {
	data, locks := make([]byte, 70000), make([]api.Lock, 20)
	for n := range 1 << 16 {
		c := api.Command(n)
		if c == api.Read || c == api.Write {
			continue
		}
		for _, a := range []api.Ask{{}, {N: 8193}, {N: math.MaxUint32}, {Data: data}, {N: 50000, Data: data, Locks: locks, Size: 1 << 60, Most: 65535}} {
			if got := Charge(c, a); got != 1 {
				t.Errorf("Charge(%d) of N %d and %d Data = %d", c, a.N, len(a.Data), got)
			}
		}
	}
}

// P9.4: Charge is at least 1, and at most 4 of what may be put, but of a Read of N above MaxData.
func TestChargeOfPut(t *testing.T) {
	for _, x := range askings() {
		n := Charge(x.c, x.a)
		if n < 1 || n > 4 && (x.c != api.Read || x.a.N <= api.MaxData) {
			t.Errorf("Charge(%d) of N %d and %d Data = %d", x.c, x.a.N, len(x.a.Data), n)
		}
		if x.c == api.Read && x.a.N > api.MaxData && n <= 4 {
			t.Errorf("Charge(Read) of N %d = %d", x.a.N, n)
		}
	}
}

// P9.4: what is put is got; two things that are not the same have two bodies.
func TestPutIsGot(t *testing.T) {
	asks := map[string]api.Ask{}
	for _, x := range askings() {
		b, _ := PutAsk(x.c, x.a)
		if a, e := GetAsk(x.c, b); !same(a, x.a) || e != api.OK {
			t.Errorf("GetAsk of PutAsk of %d, %s: %d", x.c, short(b), e)
		}
		key := fmt.Sprint(x.c, " ", string(b))
		if other, ok := asks[key]; ok && !same(other, x.a) {
			t.Errorf("two Asks of %d are put as %s", x.c, short(b))
		}
		asks[key] = x.a
	}
	says := map[string]api.Say{}
	for _, x := range sayings() {
		b, _ := PutSay(x.c, x.s)
		if s, e := GetSay(x.c, b); !same(s, x.s) || e != api.OK {
			t.Errorf("GetSay of PutSay of %d, %s: %d", x.c, short(b), e)
		}
		key := fmt.Sprint(x.c, " ", string(b))
		if other, ok := says[key]; ok && !same(other, x.s) {
			t.Errorf("two Says of %d are put as %s", x.c, short(b))
		}
		says[key] = x.s
	}
}

// gotIsPut tells that bytes that a command gets are put again as they were, and that else nothing but an error is answered.
func gotIsPut(t *testing.T, c api.Command, b []byte) {
	t.Helper()
	a, e := GetAsk(c, b)
	switch e {
	case api.OK:
		if again, e := PutAsk(c, a); !bytes.Equal(again, b) || e != api.OK {
			t.Errorf("PutAsk(%d) of GetAsk of %s = %s, %d", c, short(b), short(again), e)
		}
	case api.ErrLimit, api.ErrShort, api.ErrForm:
		askRefused(t, "got", c, b, e)
	default:
		t.Errorf("GetAsk(%d, %s) = %d", c, short(b), e)
	}
	s, e := GetSay(c, b)
	switch e {
	case api.OK:
		if again, e := PutSay(c, s); !bytes.Equal(again, b) || e != api.OK {
			t.Errorf("PutSay(%d) of GetSay of %s = %s, %d", c, short(b), short(again), e)
		}
	case api.ErrLimit, api.ErrShort, api.ErrForm:
		sayRefused(t, "got", c, b, e)
	default:
		t.Errorf("GetSay(%d, %s) = %d", c, short(b), e)
	}
}

// P9.4: what is got is put as the same bytes: bodies with each byte at each number, and bytes of any kind.
func TestGotIsPut(t *testing.T) {
	bodies := [][]byte{
		create(api.Ask{}).body, create(api.Ask{Access: 0x04030201, Level: 2, File: 5, Name: "aé\U00010348"}).body, created(api.Say{}).body, created(api.Say{Level: 1, Made: 2, File: 7, Size: 9, Kind: 2}).body,
		make([]byte, 8), make([]byte, 4), read(1, 2, 3).body, write(1, 2, nil).body, write(1, 2, some(5)).body, lock(1, nil).body, lock(1, someLocks(1)).body, lock(1, someLocks(2)).body,
		dataBytes(nil), dataBytes(some(6)), le(uint32(32768)),
	}
	for _, body := range bodies {
		for _, c := range inTable {
			for i := range body {
				b := slices.Clone(body)
				for x := range 256 {
					b[i] = byte(x)
					gotIsPut(t, c, b)
				}
			}
		}
	}
	random := rand.New(rand.NewSource(9))
	lengths := []int{4, 4, 5, 6, 8, 12, 20, 20, 21, 22, 24, 30, 32, 34, 52}
	for range 40000 {
		n := random.Intn(60)
		if random.Intn(3) > 0 {
			n = lengths[random.Intn(len(lengths))]
		}
		b := make([]byte, n)
		for i := range b {
			// Small numbers and halves of letters, so that many of them are got.
			b[i] = []byte{0, 0, 0, 0, 0, 1, 2, 0x61, 0xd8, byte(random.Intn(256))}[random.Intn(10)]
		}
		gotIsPut(t, inTable[random.Intn(len(inTable))], b)
	}
}

// spoil makes each byte of b, and of the room behind its end, another one.
func spoil(b []byte) {
	b = b[:cap(b)]
	for i := range b {
		b[i] ^= 0x5a
	}
}

// spoilLocks makes each Lock of l, and of the room behind its end, another one.
func spoilLocks(l []api.Lock) {
	l = l[:cap(l)]
	for i := range l {
		l[i].At, l[i].N, l[i].Mode, l[i].Open = ^l[i].At, ^l[i].N, ^l[i].Mode, 9
	}
}

// Rule 5: bytes that are handed in stay as they are, the room behind their end too.
func TestBytesStay(t *testing.T) {
	stay := func(c api.Command, body []byte) {
		whole := append(slices.Clone(body), bytes.Repeat([]byte{0xee}, 40)...)
		for _, n := range []int{0, 1, 4, 8, 12, 20, 24, len(body) - 1, len(body), len(body) + 1, len(whole)} {
			room := slices.Clone(whole)
			n = min(n, len(whole))
			GetAsk(c, room[:n])
			GetSay(c, room[:n])
			if !bytes.Equal(room, whole) {
				t.Errorf("of %d bytes of %s of %d is left %s", n, short(whole), c, short(room))
			}
		}
	}
	for _, x := range askings() {
		stay(x.c, x.body)
		stay(13, x.body)
	}
	for _, x := range sayings() {
		stay(x.c, x.body)
	}
}

// Rule 5: the lists of an Ask and of a Say stay as they are, the room behind their ends too, whether it is put, charged or refused.
func TestListsStay(t *testing.T) {
	for _, n := range []int{0, 1, 2, 16, 17, 20} {
		for _, c := range append(slices.Clone(inTable), besideTable...) {
			dialects, data, locks, entries := make([]uint16, 30), some(30), someLocks(30), make([]api.Entry, 30)
			for i := range entries {
				dialects[i], entries[i] = uint16(i)+1, api.Entry{Name: fmt.Sprint(i)}
			}
			wantDialects, wantEntries := slices.Clone(dialects), slices.Clone(entries)
			for _, a := range []api.Ask{{Data: data[:n]}, {Locks: locks[:n]}, {Locks: locks[:n], Dialects: dialects[:0], Data: data[:0]}, {Data: data[:n], Dialects: dialects[:0], Locks: locks[:0]}, {Dialects: dialects[:n], Data: data[:n], Locks: locks[:n]}} {
				PutAsk(c, a)
				Charge(c, a)
			}
			PutSay(c, api.Say{Data: data[:n], Entries: entries[:0]})
			PutSay(c, api.Say{Data: data[:n], Entries: entries[:n]})
			if !slices.Equal(dialects, wantDialects) || !bytes.Equal(data, some(30)) || !slices.Equal(locks, someLocks(30)) || !slices.Equal(entries, wantEntries) {
				t.Errorf("of %d elements of %d is left %x, %x, %v, %v", n, c, dialects, data, locks, entries)
			}
		}
	}
}

// Rule 5: what is put is new memory: no argument and no other answer shares any with it.
func TestPutIsNew(t *testing.T) {
	for _, x := range askings() {
		data, locks := slices.Clone(x.a.Data), slices.Clone(x.a.Locks)
		one, _ := PutAsk(x.c, x.a)
		two, _ := PutAsk(x.c, x.a)
		spoil(one)
		if !bytes.Equal(two, x.body) || !bytes.Equal(x.a.Data, data) || !slices.Equal(x.a.Locks, locks) {
			t.Errorf("an answer of PutAsk of %d, %s shares", x.c, short(x.body))
		}
		spoil(x.a.Data)
		spoilLocks(x.a.Locks)
		if !bytes.Equal(two, x.body) {
			t.Errorf("an answer of PutAsk of %d, %s shares with its lists", x.c, short(x.body))
		}
	}
	for _, x := range sayings() {
		data := slices.Clone(x.s.Data)
		one, _ := PutSay(x.c, x.s)
		two, _ := PutSay(x.c, x.s)
		spoil(one)
		if three, _ := PutSay(x.c, x.s); !bytes.Equal(two, x.body) || !bytes.Equal(three, x.body) || !bytes.Equal(x.s.Data, data) {
			t.Errorf("an answer of PutSay of %d, %s shares", x.c, short(x.body))
		}
		spoil(x.s.Data)
		if !bytes.Equal(two, x.body) {
			t.Errorf("an answer of PutSay of %d, %s shares with its Data", x.c, short(x.body))
		}
	}
}

// Rule 5: what is got is new memory: neither the bytes nor another answer share any with it.
func TestGotIsNew(t *testing.T) {
	for _, x := range askings() {
		whole := append(slices.Clone(x.body), 1, 2, 3)
		b := whole[:len(x.body)]
		one, _ := GetAsk(x.c, b)
		two, _ := GetAsk(x.c, b)
		spoil(one.Data)
		spoilLocks(one.Locks)
		if !bytes.Equal(whole, append(slices.Clone(x.body), 1, 2, 3)) || !same(two, x.a) {
			t.Errorf("an answer of GetAsk(%d, %s) shares", x.c, short(x.body))
		}
		spoil(b)
		if !same(two, x.a) {
			t.Errorf("an answer of GetAsk(%d, %s) shares with the bytes", x.c, short(x.body))
		}
	}
	for _, x := range sayings() {
		whole := append(slices.Clone(x.body), 1, 2, 3)
		b := whole[:len(x.body)]
		one, _ := GetSay(x.c, b)
		two, _ := GetSay(x.c, b)
		spoil(one.Data)
		if !bytes.Equal(whole, append(slices.Clone(x.body), 1, 2, 3)) || !same(two, x.s) {
			t.Errorf("an answer of GetSay(%d, %s) shares", x.c, short(x.body))
		}
		spoil(b)
		if !same(two, x.s) {
			t.Errorf("an answer of GetSay(%d, %s) shares with the bytes", x.c, short(x.body))
		}
	}
}
