package info_test

import (
	"bytes"
	"encoding/binary"
	"fmt"
	"math"
	"math/rand"
	"reflect"
	"slices"
	"strings"
	"testing"
	"unicode/utf16"

	"refectory/api"
	"refectory/info"
)

// askTable and sayTable are the commands of the chapter's table that have a row of what is asked, of what is said, in order.
var (
	askTable = []api.Command{12, 14, 16, 17, 18}
	sayTable = []api.Command{14, 16, 17, 18}
)

// besideTable are commands beside it, and numbers that are none.
var besideTable = []api.Command{0, 1, 2, 3, 4, 5, 6, 7, 8, 9, 10, 11, 13, 15, 19, 20, 255, 256, 268, 270, 272, 273, 274, 4110, 32782, 65534, 65535}

// askNamed tells the fields that the row of what is asked names, of Set by the class.
func askNamed(c api.Command, class uint16) []string {
	switch c {
	case api.List:
		return []string{"File", "Most", "Pattern", "After"}
	case api.Query:
		return []string{"File"}
	case api.BreakIt:
		return []string{"File", "Level"}
	case api.Set:
		return append([]string{"File", "Class"}, [][]string{1: {"Size"}, 2: {"On"}, 3: {"On", "Name"}}[class]...)
	}
	return nil
}

// sayNamed tells the fields that the row of what is said names.
func sayNamed(c api.Command) []string {
	switch c {
	case api.List:
		return []string{"Entries", "More"}
	case api.Query:
		return []string{"Size", "Kind", "Gone"}
	case api.BreakIt:
		return []string{"File", "Level"}
	}
	return nil
}

// noTexts are Go strings that are no text.
var noTexts = []string{
	"\xff", "\x80", "a\xc3", "\xc3a", "\xed\xa0\x80", "\xed\xbf\xbf", "\xf4\x90\x80\x80", "\xc0\x80", "\xe2\x82", "\xf0\x90\x8d",
	strings.Repeat("a", 255) + "\xff", strings.Repeat("a", 257) + "\xff", "\xff" + strings.Repeat("a", 1000),
}

// noTextBytes are bytes that are no text's.
var noTextBytes = [][]byte{
	{0x61}, {0x61, 0, 0x62}, {0, 0xd8}, {0xff, 0xdb}, {0, 0xdc}, {0xff, 0xdf}, {0, 0xd8, 0x61, 0}, {0, 0xd8, 0, 0xd8}, {0, 0xdc, 0, 0xd8},
	{0, 0xd8, 0, 0xdc, 0, 0xdc}, {0, 0xd8, 0}, {0, 0xd8, 0, 0xe0}, append(bytes.Repeat([]byte{0x61, 0}, 255), 0, 0xd8), bytes.Repeat([]byte{0x61, 0}, 256)[:511],
}

// texts are texts of up to 512 bytes, letters of two units among them, and the edges of these.
var texts = []string{
	"", "a", "A", "*", "*.TXT", "a?", "aé", "a\\b", "\x00", "\u007f", "\u0080", "\u07ff", "\u0800", "\ud7ff", "\ue000", "\ufffd", "\uffff", "\U00010000", "\U00010348", "\U0010ffff", "a\U00010348b",
	strings.Repeat("b", 255), strings.Repeat("b", 256), strings.Repeat("*", 256), strings.Repeat("é", 256), strings.Repeat("\uffff", 256),
	strings.Repeat("\U00010348", 127), strings.Repeat("\U0010ffff", 128), strings.Repeat("\U00010000", 127) + "cd", strings.Repeat("x", 254) + "\U00010348", "c" + strings.Repeat("\U00010348", 127) + "d",
}

// longTexts are texts of more than 512 bytes, the first ones of 514.
var longTexts = []string{
	strings.Repeat("b", 257), strings.Repeat("é", 257), strings.Repeat("\U0010ffff", 128) + "c", strings.Repeat("x", 255) + "\U00010348",
	strings.Repeat("\U0010ffff", 129), strings.Repeat("b", 512), strings.Repeat("b", 32767), strings.Repeat("b", 32768), strings.Repeat("b", 1<<17),
}

// longest is a text of 512 bytes.
var longest = strings.Repeat("\U0010ffff", 128)

// ends8 are numbers of 8 bytes, the least and the greatest among them.
var ends8 = []uint64{0, 1, 255, 256, api.MaxQuota, api.MaxQuota + 1, 0x0807060504030201, 1 << 31, math.MaxUint32, 1 << 32, 1 << 62, 1<<62 + 1, 1<<63 - 1, 1 << 63, math.MaxUint64 - 1, math.MaxUint64}

// le lays numbers and bytes, the lowest byte first, by the language's own library.
func le(parts ...any) []byte {
	b := []byte{}
	for _, p := range parts {
		var e error
		b, e = binary.Append(b, binary.LittleEndian, p)
		if e != nil {
			panic(e)
		}
	}
	return b
}

// rowOf tells the row of bytes.
func rowOf(b []byte) []byte {
	return le(uint16(len(b)), b)
}

// textRow tells the row of a text.
func textRow(s string) []byte {
	return rowOf(le(utf16.Encode([]rune(s))))
}

// yes tells a truth's number.
func yes(t bool) uint16 {
	return map[bool]uint16{true: 1}[t]
}

// asking is an Ask of a command, and its body.
type asking struct {
	c    api.Command
	a    api.Ask
	body []byte
}

// saying is a Say of a command, and its body.
type saying struct {
	c    api.Command
	s    api.Say
	body []byte
}

// These ask so, each with its body.

func list(file uint64, most uint16, pattern, after string) asking {
	return asking{api.List, api.Ask{File: file, Most: most, Pattern: pattern, After: after}, le(file, most, uint16(0), textRow(pattern), textRow(after))}
}

func query(file uint64) asking {
	return asking{api.Query, api.Ask{File: file}, le(file)}
}

func setSize(file, size uint64) asking {
	return asking{api.Set, api.Ask{File: file, Class: 1, Size: size}, le(file, uint16(1), size)}
}

func setGone(file uint64, on bool) asking {
	return asking{api.Set, api.Ask{File: file, Class: 2, On: on}, le(file, uint16(2), yes(on))}
}

func setName(file uint64, on bool, name string) asking {
	return asking{api.Set, api.Ask{File: file, Class: 3, On: on, Name: name}, le(file, uint16(3), yes(on), textRow(name))}
}

func breakIt(file uint64, level uint8) asking {
	return asking{api.BreakIt, api.Ask{File: file, Level: level}, le(file, level, [3]byte{})}
}

func cancel() asking {
	return asking{api.Cancel, api.Ask{}, make([]byte, 4)}
}

// These say so, each with its body.

func listed(more bool, entries ...api.Entry) saying {
	b := le(uint16(len(entries)), yes(more))
	for _, x := range entries {
		b = append(b, entryBytes(x)...)
	}
	return saying{api.List, api.Say{Entries: entries, More: more}, b}
}

func queried(size uint64, kind api.Kind, gone bool) saying {
	return saying{api.Query, api.Say{Size: size, Kind: kind, Gone: gone}, le(size, uint16(kind), yes(gone))}
}

func wasSet() saying {
	return saying{api.Set, api.Say{}, make([]byte, 4)}
}

func broken(file uint64, level uint8) saying {
	return saying{api.BreakIt, api.Say{File: file, Level: level}, le(file, level, [3]byte{})}
}

// entry is an Entry.
func entry(name string, kind api.Kind, size int) api.Entry {
	return api.Entry{Name: name, Stat: api.Stat{Kind: kind, Size: size}}
}

// entryBytes tells an Entry's bytes.
func entryBytes(x api.Entry) []byte {
	return le(uint16(x.Stat.Kind), uint16(0), uint64(x.Stat.Size), textRow(x.Name))
}

// someEntries tells n Entries that are not all the same.
func someEntries(n int) []api.Entry {
	l := make([]api.Entry, n)
	for i := range l {
		l[i] = entry(fmt.Sprint("é", i*i*i), api.Kind(i+1)%3, (i*70001+i)%(api.MaxQuota+1))
	}
	return l
}

// askings are Asks that are put, of each command.
func askings() []asking {
	l := []asking{
		cancel(), list(0, 0, "", ""), list(math.MaxUint64, math.MaxUint16, longest, longest), list(0x8877665544332211, 0xbbaa, "*.é", "\U00010348a"),
		setName(0x8877665544332211, true, "a\\é"), setName(math.MaxUint64, true, longest), setName(0, false, ""), breakIt(0x8877665544332211, 0x99), breakIt(math.MaxUint64, 255),
	}
	for _, n := range ends8 {
		l = append(l, list(n, 0, "", ""), list(n, 1, "a", "b"), query(n), setSize(n, 0), setSize(0, n), setSize(n, n), breakIt(n, 0))
		for _, on := range []bool{false, true} {
			l = append(l, setGone(n, on), setName(n, on, ""), setName(n, on, "ab"))
		}
	}
	for _, n := range []uint16{0, 1, 2, 63, 64, 65, 255, 256, 0x0201, 32767, 32768, 65534, 65535} {
		l = append(l, list(0, n, "", ""), list(1, n, "*", ""))
	}
	for _, s := range texts {
		l = append(l, list(0, 0, s, ""), list(0, 0, "", s), list(1, 2, s, s), setName(0, false, s), setName(1, true, s))
	}
	for n := range 256 {
		l = append(l, breakIt(0, uint8(n)))
	}
	// Lists without elements are as those that are nil.
	for _, x := range []asking{list(1, 2, "a", "b"), query(1), setSize(1, 2), setGone(1, true), setName(1, true, "a"), breakIt(1, 2), cancel()} {
		x.a.Dialects, x.a.Data, x.a.Locks = []uint16{}, []byte{}, []api.Lock{}
		l = append(l, x)
	}
	return l
}

// sayings are Says that are put, of each command.
func sayings() []saying {
	l := []saying{wasSet(), listed(false), listed(true), queried(0x8877665544332211, 2, true), queried(math.MaxUint64, 2, true), broken(0x8877665544332211, 0x99), broken(math.MaxUint64, 255)}
	for _, n := range ends8 {
		l = append(l, queried(n, 0, false), broken(n, 0))
	}
	for kind := range api.Kind(3) {
		l = append(l, queried(0, kind, false), queried(1, kind, true), listed(false, entry("", kind, 0)), listed(true, entry("a", kind, 1), entry("b", 0, 2)))
	}
	for _, size := range []int{0, 1, 255, 256, 65535, 65536, 0x030201, api.MaxQuota - 1, api.MaxQuota} {
		l = append(l, listed(false, entry("", 0, size)), listed(false, entry("a", 2, 1), entry("b", 1, size)))
	}
	for _, s := range texts {
		l = append(l, listed(false, entry(s, 0, 0)), listed(true, entry("a", 2, 1), entry(s, 1, 2), entry("b", 2, 3)))
	}
	for n := range 65 {
		l = append(l, listed(n%2 == 0, someEntries(n)...))
	}
	l = append(l, listed(true, slices.Repeat([]api.Entry{entry(longest, 2, api.MaxQuota)}, 64)...), listed(false, make([]api.Entry, 64)...))
	for n := range 256 {
		l = append(l, broken(0, uint8(n)))
	}
	for _, x := range []saying{listed(true), queried(1, 2, true), wasSet(), broken(1, 2)} {
		x.s.Data, x.s.Entries = []byte{}, []api.Entry{}
		l = append(l, x)
	}
	return l
}

// plain is x with its lists without elements as nil.
func plain(x any) any {
	v := reflect.New(reflect.TypeOf(x)).Elem()
	v.Set(reflect.ValueOf(x))
	for i := range v.NumField() {
		if f := v.Field(i); f.Kind() == reflect.Slice && f.Len() == 0 {
			f.SetZero()
		}
	}
	return v.Interface()
}

// same tells whether two Asks, two Says are the same, lists that are nil and lists without elements too.
func same(a, b any) bool {
	return reflect.DeepEqual(plain(a), plain(b))
}

// short tells bytes, or the first of many.
func short(b []byte) string {
	if len(b) > 80 {
		return fmt.Sprintf("%x.. (%d)", b[:80], len(b))
	}
	return fmt.Sprintf("%x", b)
}

// askIsPut tells that PutAsk answers a body.
func askIsPut(t *testing.T, x asking) {
	t.Helper()
	if b, e := info.PutAsk(x.c, x.a); !bytes.Equal(b, x.body) || e != api.OK {
		t.Errorf("PutAsk of %d = %s, %d; want %s", x.c, short(b), e, short(x.body))
	}
}

// askIsGot tells that GetAsk answers an Ask.
func askIsGot(t *testing.T, x asking) {
	t.Helper()
	if a, e := info.GetAsk(x.c, x.body); !same(a, x.a) || e != api.OK {
		t.Errorf("GetAsk(%d, %s) = %+v, %d", x.c, short(x.body), a, e)
	}
}

// sayIsPut tells that PutSay answers a body.
func sayIsPut(t *testing.T, x saying) {
	t.Helper()
	if b, e := info.PutSay(x.c, x.s); !bytes.Equal(b, x.body) || e != api.OK {
		t.Errorf("PutSay of %d = %s, %d; want %s", x.c, short(b), e, short(x.body))
	}
}

// sayIsGot tells that GetSay answers a Say.
func sayIsGot(t *testing.T, x saying) {
	t.Helper()
	if s, e := info.GetSay(x.c, x.body); !same(s, x.s) || e != api.OK {
		t.Errorf("GetSay(%d, %s) = %d Entries, Size %d, %d", x.c, short(x.body), len(s.Entries), s.Size, e)
	}
}

// putAskRefused tells that PutAsk answers an error alone.
func putAskRefused(t *testing.T, why any, c api.Command, a api.Ask, want api.Errno) {
	t.Helper()
	if b, e := info.PutAsk(c, a); len(b) != 0 || e != want {
		t.Errorf("%v: PutAsk of %d = %s, %d; want %d", why, c, short(b), e, want)
	}
}

// putSayRefused tells that PutSay answers an error alone.
func putSayRefused(t *testing.T, why any, c api.Command, s api.Say, want api.Errno) {
	t.Helper()
	if b, e := info.PutSay(c, s); len(b) != 0 || e != want {
		t.Errorf("%v: PutSay of %d = %s, %d; want %d", why, c, short(b), e, want)
	}
}

// refusal tells that bytes are refused by an error alone.
type refusal func(t *testing.T, why any, c api.Command, b []byte, want api.Errno)

// askRefused tells that GetAsk answers an error alone.
func askRefused(t *testing.T, why any, c api.Command, b []byte, want api.Errno) {
	t.Helper()
	if a, e := info.GetAsk(c, b); e != want || !same(a, api.Ask{}) {
		t.Errorf("%v: GetAsk(%d, %s) = %d; want %d alone", why, c, short(b), e, want)
	}
}

// sayRefused tells that GetSay answers an error alone.
func sayRefused(t *testing.T, why any, c api.Command, b []byte, want api.Errno) {
	t.Helper()
	if s, e := info.GetSay(c, b); e != want || !same(s, api.Say{}) {
		t.Errorf("%v: GetSay(%d, %s) = %d; want %d alone", why, c, short(b), e, want)
	}
}

// P10.1, P10.2: the chapter's examples.
func TestExamples(t *testing.T) {
	if b, e := info.PutAsk(api.Set, api.Ask{File: 1, Class: 2, On: true}); !bytes.Equal(b, []byte{1, 0, 0, 0, 0, 0, 0, 0, 2, 0, 1, 0}) || e != api.OK {
		t.Errorf("PutAsk(Set, File 1 Class 2 On) = %x, %d", b, e)
	}
	askRefused(t, "On 2", api.Set, []byte{1, 0, 0, 0, 0, 0, 0, 0, 2, 0, 2, 0}, api.ErrForm)
	if a, e := info.GetAsk(api.Cancel, []byte{0, 0, 0, 0}); !same(a, api.Ask{}) || e != api.OK {
		t.Errorf("GetAsk(Cancel, 00 00 00 00) = %+v, %d", a, e)
	}
	putAskRefused(t, "Class 4", api.Set, api.Ask{Class: 4}, api.ErrArg)
}

// The bodies of the chapter's table, byte by byte.
func TestTable(t *testing.T) {
	file := uint64(0x0807060504030201)
	for _, x := range []asking{
		{api.List, api.Ask{File: file, Most: 0x0a09, Pattern: "*\U00010348", After: "é"},
			[]byte{1, 2, 3, 4, 5, 6, 7, 8, 9, 10, 0, 0, 6, 0, 0x2a, 0, 0, 0xd8, 0x48, 0xdf, 2, 0, 0xe9, 0}},
		{api.Query, api.Ask{File: file}, []byte{1, 2, 3, 4, 5, 6, 7, 8}},
		{api.Set, api.Ask{File: file, Class: 1, Size: 0x100f0e0d0c0b0a09}, []byte{1, 2, 3, 4, 5, 6, 7, 8, 1, 0, 9, 10, 11, 12, 13, 14, 15, 16}},
		{api.Set, api.Ask{File: file, Class: 2, On: true}, []byte{1, 2, 3, 4, 5, 6, 7, 8, 2, 0, 1, 0}},
		{api.Set, api.Ask{File: file, Class: 2}, []byte{1, 2, 3, 4, 5, 6, 7, 8, 2, 0, 0, 0}},
		{api.Set, api.Ask{File: file, Class: 3, On: true, Name: "aé"}, []byte{1, 2, 3, 4, 5, 6, 7, 8, 3, 0, 1, 0, 4, 0, 0x61, 0, 0xe9, 0}},
		{api.Set, api.Ask{File: file, Class: 3, Name: "b"}, []byte{1, 2, 3, 4, 5, 6, 7, 8, 3, 0, 0, 0, 2, 0, 0x62, 0}},
		{api.BreakIt, api.Ask{File: file, Level: 9}, []byte{1, 2, 3, 4, 5, 6, 7, 8, 9, 0, 0, 0}},
		{api.Cancel, api.Ask{}, []byte{0, 0, 0, 0}},
	} {
		askIsPut(t, x)
		askIsGot(t, x)
	}
	for _, x := range []saying{
		{api.List, api.Say{Entries: []api.Entry{{Name: "a\U00010348", Stat: api.Stat{Kind: 2, Size: 0x030201}}, {Name: "é", Stat: api.Stat{Kind: 1}}}, More: true},
			[]byte{2, 0, 1, 0, 2, 0, 0, 0, 1, 2, 3, 0, 0, 0, 0, 0, 6, 0, 0x61, 0, 0, 0xd8, 0x48, 0xdf, 1, 0, 0, 0, 0, 0, 0, 0, 0, 0, 0, 0, 2, 0, 0xe9, 0}},
		{api.List, api.Say{Entries: []api.Entry{{Name: "b", Stat: api.Stat{Kind: 2, Size: api.MaxQuota}}}},
			[]byte{1, 0, 0, 0, 2, 0, 0, 0, 0, 0, 16, 0, 0, 0, 0, 0, 2, 0, 0x62, 0}},
		{api.List, api.Say{}, []byte{0, 0, 0, 0}},
		{api.Query, api.Say{Size: file, Kind: 2, Gone: true}, []byte{1, 2, 3, 4, 5, 6, 7, 8, 2, 0, 1, 0}},
		{api.Query, api.Say{Size: file, Kind: 1}, []byte{1, 2, 3, 4, 5, 6, 7, 8, 1, 0, 0, 0}},
		{api.Set, api.Say{}, []byte{0, 0, 0, 0}},
		{api.BreakIt, api.Say{File: file, Level: 9}, []byte{1, 2, 3, 4, 5, 6, 7, 8, 9, 0, 0, 0}},
	} {
		sayIsPut(t, x)
		sayIsGot(t, x)
	}
}

// What tells an error, of each command: no Status goes in here, so 0 (4) is what the rows make of it. Of List and of Set it says nothing; of the others it ends too soon; of Cancel there is no Say.
func TestTellsError(t *testing.T) {
	for c, want := range map[api.Command]api.Errno{api.List: api.OK, api.Set: api.OK, api.Query: api.ErrShort, api.BreakIt: api.ErrShort, api.Cancel: api.ErrArg, api.Echo: api.ErrArg, api.Create: api.ErrArg} {
		sayRefused(t, "what tells an error", c, []byte{0, 0, 0, 0}, want)
	}
	for _, c := range []api.Command{api.List, api.Set} {
		sayIsPut(t, saying{c, api.Say{}, []byte{0, 0, 0, 0}})
	}
}

// P10.1: Asks and Says that are put, each field at its ends.
func TestPut(t *testing.T) {
	for _, x := range askings() {
		askIsPut(t, x)
	}
	for _, x := range sayings() {
		sayIsPut(t, x)
	}
}

// P10.2: bodies that are got, each field at its ends.
func TestGet(t *testing.T) {
	for _, x := range askings() {
		askIsGot(t, x)
	}
	for _, x := range sayings() {
		sayIsGot(t, x)
	}
}

// P10.1, P10.2: each number that a command can have, with what is zero and with bodies.
func TestCommands(t *testing.T) {
	bodies := [][]byte{nil, make([]byte, 4), make([]byte, 8), make([]byte, 12), make([]byte, 16), bytes.Repeat([]byte{255}, 24)}
	for n := range 1 << 16 {
		c := api.Command(n)
		if !slices.Contains(askTable, c) {
			putAskRefused(t, "zero", c, api.Ask{}, api.ErrArg)
			putAskRefused(t, "of class 1", c, api.Ask{Class: 1}, api.ErrArg)
			for _, b := range bodies {
				if a, e := info.GetAsk(c, b); e != api.ErrArg || a.File != 0 || a.Class != 0 || a.Pattern != "" {
					t.Errorf("GetAsk(%d, %x) = %+v, %d", c, b, a, e)
				}
			}
		}
		if !slices.Contains(sayTable, c) {
			putSayRefused(t, "zero", c, api.Say{}, api.ErrArg)
			for _, b := range bodies {
				if s, e := info.GetSay(c, b); e != api.ErrArg || s.Size != 0 || s.File != 0 || len(s.Entries) != 0 {
					t.Errorf("GetSay(%d, %x) = %+v, %d", c, b, s, e)
				}
			}
		}
	}
}

// P10.1, P10.2: whatever else is wrong, a command beside the table is told first; of what is said Cancel is one.
func TestCommandsBeside(t *testing.T) {
	asks := []api.Ask{{File: 1}, {Name: "\xff"}, {Pattern: longTexts[0]}, {After: "\xff"}, {Class: 1}, {Class: 4}, {On: true}, {Data: make([]byte, 32769)}, {Level: 1}}
	says := []api.Say{{File: 1}, {Kind: 3}, {Size: 1}, {Entries: make([]api.Entry, 1)}, {Entries: make([]api.Entry, 65)}, {Entries: []api.Entry{{Name: "\xff"}}}, {More: true}, {Gone: true}, {Level: 1}}
	bodies := [][]byte{nil, {}, {1}, {1, 2, 3}, {65, 0, 0, 0}, bytes.Repeat([]byte{255}, 24), bytes.Repeat([]byte{255}, 1000), make([]byte, 1000)}
	for _, x := range askings() {
		asks, bodies = append(asks, x.a), append(bodies, x.body)
	}
	for _, x := range sayings() {
		says, bodies = append(says, x.s), append(bodies, x.body)
	}
	for _, c := range append(besideTable, api.Cancel) {
		for _, s := range says {
			putSayRefused(t, "beside the table", c, s, api.ErrArg)
		}
		for _, b := range bodies {
			sayRefused(t, "beside the table", c, b, api.ErrArg)
		}
		if c == api.Cancel {
			continue
		}
		for _, a := range asks {
			putAskRefused(t, "beside the table", c, a, api.ErrArg)
		}
		for _, b := range bodies {
			askRefused(t, "beside the table", c, b, api.ErrArg)
		}
	}
}

// change gives a field of what p points to each of several values that are not zero, one after the other, and calls then; after that the field has its value of before.
func change(p any, i int, then func()) {
	f := reflect.ValueOf(p).Elem().Field(i)
	before := reflect.New(f.Type()).Elem()
	before.Set(f)
	defer f.Set(before)
	switch f.Kind() {
	case reflect.Bool:
		f.SetBool(true)
		then()
	case reflect.String:
		for _, s := range []string{"a", "\x00", " ", "\xff", longTexts[0]} {
			f.SetString(s)
			then()
		}
	case reflect.Slice:
		for _, n := range []int{1, 2, 16, 17, 64, 65, 32769} {
			f.Set(reflect.MakeSlice(f.Type(), n, n))
			then()
		}
	case reflect.Array:
		for j := range f.Len() {
			for bit := range 8 {
				f.SetZero()
				f.Index(j).SetUint(1 << bit)
				then()
			}
		}
	default:
		for bit := range f.Type().Bits() {
			f.SetUint(1 << bit)
			then()
		}
	}
}

// P10.1: each field of an Ask that is not zero though the command's row, or its class, does not name it.
func TestPutAskNotNamed(t *testing.T) {
	fields := reflect.TypeFor[api.Ask]()
	// Of each command and class one whose named fields are zero, one whose are not, and what would be refused else.
	asks := []asking{
		list(0, 0, "", ""), list(1, 2, "a", "b"), {api.List, api.Ask{Pattern: "\xff"}, nil}, {api.List, api.Ask{After: longTexts[0]}, nil}, query(0), query(1),
		setSize(0, 0), setSize(1, 2), setGone(0, false), setGone(1, true), setName(0, false, ""), setName(1, true, "a"), {api.Set, api.Ask{Class: 3, Name: "\xff"}, nil}, {api.Set, api.Ask{Class: 3, Name: longTexts[0]}, nil},
		breakIt(0, 0), breakIt(1, 2), cancel(),
	}
	for _, x := range asks {
		a := x.a
		for i := range fields.NumField() {
			name := fields.Field(i).Name
			if !slices.Contains(askNamed(x.c, a.Class), name) {
				change(&a, i, func() { putAskRefused(t, name, x.c, a, api.ErrArg) })
			}
		}
	}
}

// P10.1: each field of a Say that is not zero though the command's row does not name it.
func TestPutSayNotNamed(t *testing.T) {
	fields := reflect.TypeFor[api.Say]()
	says := []saying{
		listed(false), listed(true, someEntries(2)...), {api.List, api.Say{Entries: make([]api.Entry, 65)}, nil}, {api.List, api.Say{Entries: []api.Entry{{Name: "\xff"}}}, nil}, {api.List, api.Say{Entries: []api.Entry{{Name: longTexts[0]}}}, nil},
		queried(0, 0, false), queried(1, 2, true), {api.Query, api.Say{Kind: 3}, nil}, wasSet(), broken(0, 0), broken(1, 2),
	}
	for _, x := range says {
		s := x.s
		for i := range fields.NumField() {
			name := fields.Field(i).Name
			if !slices.Contains(sayNamed(x.c), name) {
				change(&s, i, func() { putSayRefused(t, name, x.c, s, api.ErrArg) })
			}
		}
	}
}

// P10.1: a class that is none, whatever else is asked.
func TestPutClass(t *testing.T) {
	for n := range 1 << 16 {
		if n < 1 || n > 3 {
			putAskRefused(t, n, api.Set, api.Ask{Class: uint16(n)}, api.ErrArg)
		}
	}
	for _, class := range []uint16{0, 4, 5, 255, 256, 257, 258, 259, 32769, 65535} {
		for _, a := range []api.Ask{{File: 1}, {Size: 1}, {On: true}, {On: true, Name: "a"}, {File: math.MaxUint64, Name: "a"}, {Name: "\xff"}, {Name: longTexts[0]}} {
			a.Class = class
			putAskRefused(t, class, api.Set, a, api.ErrArg)
		}
	}
	for _, c := range []api.Command{api.List, api.Query, api.BreakIt, api.Cancel} {
		for class := range uint16(5) {
			if class > 0 {
				putAskRefused(t, class, c, api.Ask{Class: class}, api.ErrArg)
			}
		}
	}
}

// P10.1: what one class names, another one does not.
func TestPutOtherClass(t *testing.T) {
	for _, a := range []api.Ask{
		{Class: 1, On: true}, {Class: 1, Name: "a"}, {Class: 1, Size: 1, On: true, Name: "a"}, {Class: 2, Size: 1}, {Class: 2, Name: "a"}, {Class: 2, On: true, Name: "a"}, {Class: 3, Size: 1}, {Class: 3, On: true, Name: "a", Size: 1},
		{Class: 1, Name: "\xff"}, {Class: 2, Name: longTexts[0]}, {Class: 3, Name: "\xff", Size: 1}, {Class: 3, Name: longTexts[0], Size: 1},
	} {
		putAskRefused(t, "of another class", api.Set, a, api.ErrArg)
	}
}

// P10.1: texts that PutText refuses, in each text of an Ask, the first one's error first; what is not named is told ahead of them.
func TestPutAskTexts(t *testing.T) {
	for want, l := range map[api.Errno][]string{api.ErrLimit: longTexts, api.ErrForm: noTexts} {
		for _, s := range l {
			for _, file := range []uint64{0, 1, math.MaxUint64} {
				putAskRefused(t, "Pattern", api.List, api.Ask{File: file, Pattern: s}, want)
				putAskRefused(t, "After", api.List, api.Ask{File: file, Most: 1, Pattern: "*", After: s}, want)
				putAskRefused(t, "both", api.List, api.Ask{File: file, Pattern: s, After: s}, want)
				putAskRefused(t, "Name", api.Set, api.Ask{File: file, Class: 3, Name: s}, want)
				putAskRefused(t, "Name", api.Set, api.Ask{File: file, Class: 3, On: true, Name: s}, want)
			}
			putAskRefused(t, "Pattern, and On", api.List, api.Ask{Pattern: s, On: true}, api.ErrArg)
			putAskRefused(t, "After, and Class", api.List, api.Ask{After: s, Class: 3}, api.ErrArg)
			putAskRefused(t, "Name, and Data", api.Set, api.Ask{Class: 3, Name: s, Data: []byte{1}}, api.ErrArg)
			for _, c := range []api.Command{api.List, api.Query, api.BreakIt, api.Cancel} {
				putAskRefused(t, "Name", c, api.Ask{Name: s}, api.ErrArg)
			}
			for _, c := range []api.Command{api.Query, api.Set, api.BreakIt, api.Cancel} {
				putAskRefused(t, "Pattern", c, api.Ask{Class: 3 * yes(c == api.Set), Pattern: s}, api.ErrArg)
				putAskRefused(t, "After", c, api.Ask{Class: 3 * yes(c == api.Set), After: s}, api.ErrArg)
			}
		}
	}
	putAskRefused(t, "long ahead of none", api.List, api.Ask{Pattern: longTexts[0], After: "\xff"}, api.ErrLimit)
	putAskRefused(t, "none ahead of long", api.List, api.Ask{Pattern: "\xff", After: longTexts[0]}, api.ErrForm)
}

// P10.1: names that PutText refuses, in each Entry, the first one's error first.
func TestPutSayNames(t *testing.T) {
	for want, l := range map[api.Errno][]string{api.ErrLimit: longTexts, api.ErrForm: noTexts} {
		for _, s := range l {
			for _, n := range []int{1, 2, 3, 64} {
				for _, i := range []int{0, n / 2, n - 1} {
					entries := someEntries(n)
					entries[i].Name = s
					putSayRefused(t, "Name", api.List, api.Say{Entries: entries}, want)
					putSayRefused(t, "Name", api.List, api.Say{Entries: entries, More: true}, want)
					putSayRefused(t, "Name, and Gone", api.List, api.Say{Entries: entries, Gone: true}, api.ErrArg)
				}
			}
		}
	}
	for i := range 64 {
		entries := someEntries(64)
		entries[i].Name = "\xff"
		putSayRefused(t, i, api.List, api.Say{Entries: entries}, api.ErrForm)
		entries[i].Name = longTexts[0]
		putSayRefused(t, i, api.List, api.Say{Entries: entries}, api.ErrLimit)
	}
	putSayRefused(t, "long ahead of none", api.List, api.Say{Entries: []api.Entry{{Name: longTexts[0]}, {Name: "\xff"}}}, api.ErrLimit)
	putSayRefused(t, "none ahead of long", api.List, api.Say{Entries: []api.Entry{{Name: "a"}, {Name: "\xff"}, {Name: longTexts[0]}}}, api.ErrForm)
}

// P10.1: more Entries than may be; Kinds and Sizes that may not be are told ahead of that, names that are none behind it.
func TestPutManyEntries(t *testing.T) {
	for _, n := range []int{65, 66, 128, 255, 256, 257, 320, 65535, 65536, 65537, 65600} {
		for _, more := range []bool{false, true} {
			putSayRefused(t, n, api.List, api.Say{Entries: someEntries(n), More: more}, api.ErrLimit)
			putSayRefused(t, n, api.List, api.Say{Entries: make([]api.Entry, n), More: more}, api.ErrLimit)
		}
		for _, i := range []int{0, 63, 64, n - 1} {
			for _, name := range []string{"\xff", longTexts[0]} {
				l := make([]api.Entry, n)
				l[i].Name = name
				putSayRefused(t, "Name, too", api.List, api.Say{Entries: l}, api.ErrLimit)
			}
			for _, x := range []api.Entry{entry("a", 3, 0), entry("", 255, 1), entry("a", 2, -1), entry("a", 2, api.MaxQuota+1), entry("\xff", 2, -1)} {
				l := make([]api.Entry, n)
				l[i] = x
				putSayRefused(t, "Kind or Size, too", api.List, api.Say{Entries: l}, api.ErrArg)
			}
		}
		putSayRefused(t, "Level, too", api.List, api.Say{Entries: make([]api.Entry, n), Level: 1}, api.ErrArg)
		for _, c := range []api.Command{api.Query, api.Set, api.BreakIt, api.Cancel} {
			putSayRefused(t, n, c, api.Say{Entries: make([]api.Entry, n)}, api.ErrArg)
		}
	}
}

// P10.1: Kinds above 2, in a Query and in each Entry.
func TestPutKind(t *testing.T) {
	for n := 3; n < 256; n++ {
		kind := api.Kind(n)
		putSayRefused(t, n, api.Query, api.Say{Kind: kind}, api.ErrArg)
		putSayRefused(t, n, api.Query, api.Say{Size: 1, Kind: kind, Gone: true}, api.ErrArg)
		putSayRefused(t, n, api.List, api.Say{Entries: []api.Entry{entry("a", kind, 1)}}, api.ErrArg)
		putSayRefused(t, n, api.List, api.Say{Entries: []api.Entry{entry("\xff", 0, 0), entry("a", kind, 1)}}, api.ErrArg)
		putSayRefused(t, n, api.List, api.Say{Entries: []api.Entry{entry(longTexts[0], kind, 1)}}, api.ErrArg)
		for _, c := range []api.Command{api.List, api.Set, api.BreakIt} {
			putSayRefused(t, n, c, api.Say{Kind: kind}, api.ErrArg)
		}
	}
	for i := range 64 {
		l := someEntries(64)
		l[i].Stat.Kind = 3
		putSayRefused(t, i, api.List, api.Say{Entries: l}, api.ErrArg)
	}
}

// P10.1: an Entry's Size below 0 and above MaxQuota; a Query's Size has no limit.
func TestPutSize(t *testing.T) {
	for _, size := range []int{-1, -2, -255, -256, -api.MaxQuota, math.MinInt32, math.MinInt + 1, math.MinInt, api.MaxQuota + 1, api.MaxQuota + 2, 2 * api.MaxQuota, 1 << 31, 1 << 32, 1<<32 + 1, 1 << 62, math.MaxInt} {
		for kind := range api.Kind(3) {
			putSayRefused(t, size, api.List, api.Say{Entries: []api.Entry{entry("a", kind, size)}}, api.ErrArg)
			putSayRefused(t, size, api.List, api.Say{Entries: []api.Entry{entry("a", 2, 1), entry("\xff", kind, size)}, More: true}, api.ErrArg)
			putSayRefused(t, size, api.List, api.Say{Entries: []api.Entry{entry(longTexts[0], 2, 1), entry("", kind, size)}, More: true}, api.ErrArg)
		}
	}
	for i := range 64 {
		l := someEntries(64)
		l[i].Stat.Size = api.MaxQuota + 1
		putSayRefused(t, i, api.List, api.Say{Entries: l}, api.ErrArg)
		l[i].Stat.Size = -1
		putSayRefused(t, i, api.List, api.Say{Entries: l}, api.ErrArg)
	}
}

// P10.2: each body cut at each place, and with bytes behind it; the room behind the end is none of it.
func TestGetCutAndLeft(t *testing.T) {
	each := func(c api.Command, body []byte, refused refusal) {
		for cut := range body {
			if cut > 80 && cut < len(body)-40 && cut%61 != 0 && len(body) > 1100 {
				continue
			}
			refused(t, "cut", c, body[:cut:cut], api.ErrShort)
			refused(t, "cut, with room behind", c, body[:cut], api.ErrShort)
		}
		for _, behind := range [][]byte{{0}, {1}, {255}, {0, 0}, make([]byte, 4), make([]byte, 8), make([]byte, 20), make([]byte, 600)} {
			refused(t, "left", c, slices.Concat(body, behind), api.ErrForm)
		}
		refused(t, "twice", c, slices.Concat(body, body), api.ErrForm)
	}
	for _, x := range askings() {
		each(x.c, x.body, askRefused)
	}
	for _, x := range sayings() {
		each(x.c, x.body, sayRefused)
	}
	for _, b := range [][]byte{nil, {}} {
		for _, c := range askTable {
			askRefused(t, "nothing", c, b, api.ErrShort)
		}
		for _, c := range sayTable {
			sayRefused(t, "nothing", c, b, api.ErrShort)
		}
	}
}

// wrongAt tells that bodies are refused with another number n of 2 bytes at a place, by want, also where bytes are missing behind it, or left; where it ends within the number, it ends too soon.
func wrongAt(t *testing.T, why string, c api.Command, body []byte, at int, n uint16, want api.Errno, refused refusal) {
	t.Helper()
	b := slices.Clone(body)
	binary.LittleEndian.PutUint16(b[at:], n)
	refused(t, why, c, b, want)
	refused(t, why+", and a byte left", c, slices.Concat(b, []byte{0}), want)
	for cut := range b {
		if cut < at+2 {
			refused(t, why+", and cut ahead of its end", c, b[:cut], api.ErrShort)
		} else if cut-at < 30 || cut > len(b)-3 {
			refused(t, why+", and cut behind it", c, b[:cut], want)
		}
	}
}

// P10.2: truths that are neither 0 nor 1: More, Gone and On.
func TestGetTruths(t *testing.T) {
	for _, x := range []asking{setGone(0, false), setGone(math.MaxUint64, true), setName(1, false, ""), setName(1, true, "ab"), setName(0, true, longest)} {
		for n := 2; n < 1<<16; n += 1 + n/400 {
			wrongAt(t, "On", x.c, x.body, 10, uint16(n), api.ErrForm, askRefused)
		}
	}
	for _, x := range []saying{listed(false), listed(true), listed(false, someEntries(1)...), listed(true, someEntries(3)...), listed(true, someEntries(64)...)} {
		for n := 2; n < 1<<16; n += 1 + n/400 {
			wrongAt(t, "More", x.c, x.body, 2, uint16(n), api.ErrForm, sayRefused)
		}
	}
	for _, x := range []saying{queried(0, 0, false), queried(math.MaxUint64, 2, true)} {
		for n := 2; n < 1<<16; n += 1 + n/400 {
			wrongAt(t, "Gone", x.c, x.body, 10, uint16(n), api.ErrForm, sayRefused)
		}
	}
}

// P10.2: a class that is none, ahead of whatever stands behind it.
func TestGetClass(t *testing.T) {
	for _, behind := range [][]byte{nil, {0}, {1, 0}, {2, 0}, make([]byte, 8), le(uint16(1), textRow("a")), le(uint16(2), rowOf([]byte{1})), make([]byte, 600)} {
		for _, file := range []uint64{0, math.MaxUint64} {
			body := le(file, uint16(0), behind)
			wrongAt(t, "class 0", api.Set, body, 8, 0, api.ErrForm, askRefused)
			for n := 4; n < 1<<16; n += 1 + n/100 {
				wrongAt(t, "class", api.Set, body, 8, uint16(n), api.ErrForm, askRefused)
			}
		}
	}
	// Bodies of one class are none of another one.
	for class, x := range []asking{1: setSize(1, 0), 2: setGone(1, false), 3: setName(1, false, "")} {
		for other := uint16(1); other <= 3 && class > 0; other++ {
			b := slices.Clone(x.body)
			binary.LittleEndian.PutUint16(b[8:], other)
			want := api.ErrForm
			if len(b) < 10+[]int{1: 8, 2: 2, 3: 4}[other] {
				want = api.ErrShort
			}
			if int(other) != class {
				askRefused(t, fmt.Sprint("of class ", class, " as ", other), api.Set, b, want)
			}
		}
	}
}

// P10.2: Kinds above 2, of a Query and of Entries, ahead of what stands behind them.
func TestGetKind(t *testing.T) {
	for n := 3; n < 1<<16; n += 1 + n/400 {
		for _, x := range []saying{queried(0, 0, false), queried(math.MaxUint64, 2, true)} {
			wrongAt(t, "Kind", x.c, x.body, 8, uint16(n), api.ErrForm, sayRefused)
		}
		wrongAt(t, "Kind of an Entry", api.List, listed(false, entry("", 0, 0)).body, 4, uint16(n), api.ErrForm, sayRefused)
		wrongAt(t, "Kind of an Entry", api.List, listed(true, entry("ab", 2, 7), entry("c", 1, 0)).body, 4, uint16(n), api.ErrForm, sayRefused)
		wrongAt(t, "Kind of the second Entry", api.List, listed(true, entry("ab", 2, 7), entry("c", 1, 0)).body, 4+18, uint16(n), api.ErrForm, sayRefused)
	}
	for i := range 64 {
		b := listed(false, make([]api.Entry, 64)...).body
		b[4+14*i] = 3
		sayRefused(t, i, api.List, b, api.ErrForm)
		b[4+14*i], b[4+14*i+1] = 2, 1
		sayRefused(t, i, api.List, b, api.ErrForm)
	}
}

// P10.2: an Entry's Size above MaxQuota, ahead of what stands behind it.
func TestGetSize(t *testing.T) {
	sizes := []uint64{api.MaxQuota + 1, api.MaxQuota + 2, api.MaxQuota + 256, 2 * api.MaxQuota, 1 << 24, 1<<31 - 1, 1 << 31, 1 << 32, 1<<32 + 1, 1 << 40, 1 << 62, 1<<63 - 1, 1 << 63, 1<<63 + 1, math.MaxUint64 - 1, math.MaxUint64}
	for _, size := range sizes {
		for _, row := range [][]byte{textRow(""), textRow("ab"), rowOf([]byte{1}), rowOf(make([]byte, 514)), {0}, nil} {
			head := le(uint16(1), uint16(0), uint16(2), uint16(0), size)
			b := le(head, row)
			sayRefused(t, size, api.List, b, api.ErrForm)
			sayRefused(t, "Size, and a byte left", api.List, append(b, 0), api.ErrForm)
			for cut := range len(head) {
				sayRefused(t, "Size, and cut in it", api.List, head[:cut], api.ErrShort)
			}
		}
		for i := range 64 {
			b := listed(false, make([]api.Entry, 64)...).body
			binary.LittleEndian.PutUint64(b[4+14*i+4:], size)
			sayRefused(t, size, api.List, b, api.ErrForm)
		}
	}
}

// P10.2: numbers of Entries above what may be, whatever stands behind, and other than what is there.
func TestGetEntries(t *testing.T) {
	for n := 65; n < 1<<16; n += 1 + n/40 {
		for _, there := range []int{0, 1, 2, 14, 16, 900, 912} {
			sayRefused(t, "above the limit", api.List, le(uint16(n), make([]byte, there)), api.ErrLimit)
			sayRefused(t, "above the limit, and More", api.List, le(uint16(n), bytes.Repeat([]byte{255}, there)), api.ErrLimit)
		}
		sayRefused(t, "above the limit, and as many", api.List, le(uint16(n), uint16(1), make([]byte, 14*n)), api.ErrLimit)
		sayRefused(t, "cut in the number", api.List, []byte{byte(n)}, api.ErrShort)
	}
	for n := range 65 {
		b := listed(n%2 == 1, someEntries(n)...).body
		for more := n + 1; more <= 64; more++ {
			binary.LittleEndian.PutUint16(b, uint16(more))
			sayRefused(t, "above what is there", api.List, b, api.ErrShort)
		}
		for less := range n {
			binary.LittleEndian.PutUint16(b, uint16(less))
			sayRefused(t, "less than is there", api.List, b, api.ErrForm)
		}
	}
}

// gap tells that a body is refused whose bytes of a 0 are not 0: by each other byte, and by all of them at once; also where bytes are missing behind the 0, or left.
func gap(t *testing.T, c api.Command, body []byte, from, to int, refused refusal) {
	t.Helper()
	cuts := func(b []byte) {
		refused(t, "no 0, and bytes left", c, append(slices.Clone(b), 0), api.ErrForm)
		for cut := to; cut < len(b); cut++ {
			refused(t, "no 0, and cut behind it", c, b[:cut], api.ErrForm)
		}
		for cut := range to {
			refused(t, "no 0, and cut in it", c, b[:cut], api.ErrShort)
		}
	}
	for i := from; i < to; i++ {
		b := slices.Clone(body)
		for x := 1; x < 256; x++ {
			b[i] = byte(x)
			refused(t, "no 0", c, b, api.ErrForm)
		}
		cuts(b)
	}
	b := slices.Clone(body)
	copy(b[from:to], bytes.Repeat([]byte{255}, to-from))
	refused(t, "no 0", c, b, api.ErrForm)
	cuts(b)
}

// P10.2: each 0 that is not 0.
func TestGetNoughts(t *testing.T) {
	for _, x := range []asking{list(0, 0, "", ""), list(math.MaxUint64, math.MaxUint16, "a", "bc")} {
		gap(t, x.c, x.body, 10, 12, askRefused)
	}
	for _, x := range []asking{breakIt(0, 0), breakIt(math.MaxUint64, 255)} {
		gap(t, x.c, x.body, 9, 12, askRefused)
		gap(t, x.c, x.body, 9, 12, sayRefused)
	}
	gap(t, api.Cancel, make([]byte, 4), 0, 4, askRefused)
	gap(t, api.Set, make([]byte, 4), 0, 4, sayRefused)
	for _, n := range []int{1, 2, 3} {
		for i := range n {
			gap(t, api.List, listed(true, slices.Repeat([]api.Entry{entry("a", 2, api.MaxQuota)}, n)...).body, 4+16*i+2, 4+16*i+4, sayRefused)
		}
	}
	for i := range 64 {
		for _, at := range []int{2, 3} {
			b := listed(false, make([]api.Entry, 64)...).body
			b[4+14*i+at] = 1
			sayRefused(t, i, api.List, b, api.ErrForm)
		}
	}
}

// eachText tells that a body is refused with each row that is none of a text, by GetText's error; behind it stand these bytes.
func eachText(t *testing.T, why string, c api.Command, ahead, behind []byte, refused refusal) {
	t.Helper()
	each := func(row []byte, want api.Errno) {
		t.Helper()
		refused(t, why, c, le(ahead, row), want)
	}
	for _, b := range noTextBytes {
		each(rowOf(b), api.ErrForm)
		each(le(rowOf(b), behind), api.ErrForm)
		each(le(rowOf(b), behind, byte(0)), api.ErrForm)
		each(rowOf(b)[:len(b)+1], api.ErrShort)
	}
	for _, n := range []int{513, 514, 515, 516, 768, 1024, 65535} {
		each(rowOf(make([]byte, n)), api.ErrLimit)
		each(rowOf(make([]byte, n))[:2], api.ErrLimit)
		each(rowOf(make([]byte, n))[:513], api.ErrLimit)
		each(le(rowOf(make([]byte, n)), behind), api.ErrLimit)
		each(rowOf(bytes.Repeat([]byte{0xd8}, n)), api.ErrLimit)
		each(rowOf(make([]byte, n))[:1], api.ErrShort)
	}
	for _, s := range longTexts[:4] {
		each(textRow(s), api.ErrLimit)
	}
	each(nil, api.ErrShort)
}

// P10.2: GetText's errors, in each text of an Ask and in each Entry, the first one's first.
func TestGetTexts(t *testing.T) {
	eachText(t, "Pattern", api.List, le(uint64(1), uint32(2)), textRow("b"), askRefused)
	eachText(t, "Pattern, and After", api.List, le(uint64(1), uint32(2)), rowOf(make([]byte, 514)), askRefused)
	eachText(t, "After", api.List, le(uint64(1), uint32(2), textRow("*")), nil, askRefused)
	eachText(t, "After of no Pattern", api.List, le(uint64(0), uint32(0), textRow("")), nil, askRefused)
	eachText(t, "Name", api.Set, le(uint64(1), uint16(3), uint16(1)), nil, askRefused)
	for n := range 64 {
		ahead := listed(true, someEntries(n)...).body
		binary.LittleEndian.PutUint16(ahead, uint16(n+1))
		eachText(t, "Entry", api.List, le(ahead, uint16(2), uint16(0), uint64(api.MaxQuota)), nil, sayRefused)
		binary.LittleEndian.PutUint16(ahead, uint16(min(n+2, 64)))
		eachText(t, "Entry ahead of another one", api.List, le(ahead, uint16(0), uint16(0), uint64(0)), bytes.Repeat([]byte{255}, 14), sayRefused)
	}
	// Where the 0, or a truth, ahead of a text is none, it is told first.
	askRefused(t, "0, and Pattern", api.List, le(uint64(1), uint16(2), uint16(1), rowOf(make([]byte, 514))), api.ErrForm)
	askRefused(t, "On, and Name", api.Set, le(uint64(1), uint16(3), uint16(2), rowOf(make([]byte, 514))), api.ErrForm)
	sayRefused(t, "More, and an Entry's Name", api.List, le(uint16(1), uint16(2), make([]byte, 12), rowOf(make([]byte, 514))), api.ErrForm)
	sayRefused(t, "Kind, and an Entry's Name", api.List, le(uint16(1), uint16(1), uint16(3), make([]byte, 10), rowOf(make([]byte, 514))), api.ErrForm)
	// Of two Entries the first one's error is told.
	none, long := le(make([]byte, 12), rowOf([]byte{1})), le(make([]byte, 12), rowOf(make([]byte, 514)))
	sayRefused(t, "none ahead of long", api.List, le(uint16(2), uint16(0), none, long), api.ErrForm)
	sayRefused(t, "long ahead of none", api.List, le(uint16(2), uint16(0), long, none), api.ErrLimit)
}

// P10.3: what is put is got; two things that are not the same have two bodies.
func TestPutIsGot(t *testing.T) {
	asks := map[string]api.Ask{}
	for _, x := range askings() {
		b, _ := info.PutAsk(x.c, x.a)
		if a, e := info.GetAsk(x.c, b); !same(a, x.a) || e != api.OK {
			t.Errorf("GetAsk of PutAsk of %d, %s: %d", x.c, short(b), e)
		}
		key := fmt.Sprint(x.c, " ", string(b))
		if other, ok := asks[key]; ok && !same(other, x.a) {
			t.Errorf("two Asks of %d are put as %s", x.c, short(b))
		}
		asks[key] = x.a
	}
	says := map[string]api.Say{}
	for _, x := range sayings() {
		b, _ := info.PutSay(x.c, x.s)
		if s, e := info.GetSay(x.c, b); !same(s, x.s) || e != api.OK {
			t.Errorf("GetSay of PutSay of %d, %s: %d", x.c, short(b), e)
		}
		key := fmt.Sprint(x.c, " ", string(b))
		if other, ok := says[key]; ok && !same(other, x.s) {
			t.Errorf("two Says of %d are put as %s", x.c, short(b))
		}
		says[key] = x.s
	}
}

// gotIsPut tells that bytes that a command gets are put again as they were, and that else nothing but an error is answered.
func gotIsPut(t *testing.T, c api.Command, b []byte) {
	t.Helper()
	a, e := info.GetAsk(c, b)
	switch e {
	case api.OK:
		if again, e := info.PutAsk(c, a); !bytes.Equal(again, b) || e != api.OK {
			t.Errorf("PutAsk(%d) of GetAsk of %s = %s, %d", c, short(b), short(again), e)
		}
	case api.ErrLimit, api.ErrShort, api.ErrForm:
		askRefused(t, "got", c, b, e)
	default:
		t.Errorf("GetAsk(%d, %s) = %d", c, short(b), e)
	}
	if c == api.Cancel {
		return
	}
	s, e := info.GetSay(c, b)
	switch e {
	case api.OK:
		if again, e := info.PutSay(c, s); !bytes.Equal(again, b) || e != api.OK {
			t.Errorf("PutSay(%d) of GetSay of %s = %s, %d", c, short(b), short(again), e)
		}
	case api.ErrLimit, api.ErrShort, api.ErrForm:
		sayRefused(t, "got", c, b, e)
	default:
		t.Errorf("GetSay(%d, %s) = %d", c, short(b), e)
	}
}

// P10.3: what is got is put as the same bytes: bodies with each byte at each number, and bytes of any kind.
func TestGotIsPut(t *testing.T) {
	bodies := [][]byte{
		make([]byte, 4), make([]byte, 8), make([]byte, 12), list(0, 0, "", "").body, list(1, 2, "*é", "\U00010348").body, setSize(1, 2).body, setGone(1, true).body, setName(1, false, "").body, setName(1, true, "a\U00010348").body, breakIt(1, 2).body,
		listed(true).body, listed(false, someEntries(1)...).body, listed(true, entry("a", 2, api.MaxQuota), entry("\U00010348", 1, 0)).body, queried(7, 2, true).body, queried(math.MaxUint64, 1, false).body,
	}
	for _, body := range bodies {
		for _, c := range askTable {
			for i := range body {
				b := slices.Clone(body)
				for x := range 256 {
					b[i] = byte(x)
					gotIsPut(t, c, b)
				}
			}
		}
	}
	random := rand.New(rand.NewSource(10))
	lengths := []int{4, 8, 12, 12, 14, 16, 16, 18, 18, 20, 20, 22, 24, 32, 34}
	for range 40000 {
		n := random.Intn(60)
		if random.Intn(3) > 0 {
			n = lengths[random.Intn(len(lengths))]
		}
		b := make([]byte, n)
		for i := range b {
			// Small numbers and halves of letters, so that many of them are got.
			b[i] = []byte{0, 0, 0, 0, 0, 1, 2, 0x61, 0xd8, byte(random.Intn(256))}[random.Intn(10)]
		}
		gotIsPut(t, askTable[random.Intn(len(askTable))], b)
	}
}

// spoil makes each byte of b, and of the room behind its end, another one.
func spoil(b []byte) {
	b = b[:cap(b)]
	for i := range b {
		b[i] ^= 0x5a
	}
}

// spoilEntries makes each Entry of l, and of the room behind its end, another one.
func spoilEntries(l []api.Entry) {
	l = l[:cap(l)]
	for i := range l {
		l[i] = entry("another one", 9, -1)
	}
}

// Rule 5: bytes that are handed in stay as they are, the room behind their end too.
func TestBytesStay(t *testing.T) {
	stay := func(c api.Command, body []byte) {
		whole := append(slices.Clone(body), bytes.Repeat([]byte{0xee}, 40)...)
		for _, n := range []int{0, 1, 4, 8, 12, 18, 24, len(body) - 1, len(body), len(body) + 1, len(whole)} {
			room := slices.Clone(whole)
			n = min(n, len(whole))
			info.GetAsk(c, room[:n])
			info.GetSay(c, room[:n])
			if !bytes.Equal(room, whole) {
				t.Errorf("of %d bytes of %s of %d is left %s", n, short(whole), c, short(room))
			}
		}
	}
	for _, x := range askings() {
		stay(x.c, x.body)
		stay(13, x.body)
	}
	for _, x := range sayings() {
		stay(x.c, x.body)
	}
}

// Rule 5: the lists of an Ask and of a Say stay as they are, the room behind their ends too, whether it is put or refused.
func TestListsStay(t *testing.T) {
	for _, n := range []int{0, 1, 2, 63, 64, 65, 70} {
		for _, c := range append(slices.Clone(askTable), besideTable...) {
			dialects, data, locks, entries := make([]uint16, 80), make([]byte, 80), make([]api.Lock, 80), someEntries(80)
			for i := range dialects {
				dialects[i], data[i], locks[i] = uint16(i)+1, byte(i)+1, api.Lock{At: uint64(i) + 1, Mode: 1}
			}
			wantDialects, wantData, wantLocks := slices.Clone(dialects), slices.Clone(data), slices.Clone(locks)
			for class := range uint16(4) {
				info.PutAsk(c, api.Ask{Class: class, Dialects: dialects[:0], Data: data[:0], Locks: locks[:0]})
				info.PutAsk(c, api.Ask{Class: class, Dialects: dialects[:n], Data: data[:n], Locks: locks[:n]})
			}
			info.PutSay(c, api.Say{Entries: entries[:n]})
			info.PutSay(c, api.Say{Entries: entries[:n], Data: data[:0], More: true})
			info.PutSay(c, api.Say{Entries: entries[:n], Data: data[:n]})
			if !slices.Equal(dialects, wantDialects) || !bytes.Equal(data, wantData) || !slices.Equal(locks, wantLocks) || !slices.Equal(entries, someEntries(80)) {
				t.Errorf("of %d elements of %d is left %x, %x, %v, %v", n, c, dialects, data, locks, entries)
			}
		}
	}
}

// Rule 5: what is put is new memory: no argument and no other answer shares any with it.
func TestPutIsNew(t *testing.T) {
	for _, x := range askings() {
		one, _ := info.PutAsk(x.c, x.a)
		two, _ := info.PutAsk(x.c, x.a)
		spoil(one)
		if three, _ := info.PutAsk(x.c, x.a); !bytes.Equal(two, x.body) || !bytes.Equal(three, x.body) {
			t.Errorf("an answer of PutAsk of %d, %s shares", x.c, short(x.body))
		}
	}
	for _, x := range sayings() {
		entries := slices.Clone(x.s.Entries)
		one, _ := info.PutSay(x.c, x.s)
		two, _ := info.PutSay(x.c, x.s)
		spoil(one)
		if three, _ := info.PutSay(x.c, x.s); !bytes.Equal(two, x.body) || !bytes.Equal(three, x.body) || !slices.Equal(x.s.Entries, entries) {
			t.Errorf("an answer of PutSay of %d, %s shares", x.c, short(x.body))
		}
		spoilEntries(x.s.Entries)
		if !bytes.Equal(two, x.body) {
			t.Errorf("an answer of PutSay of %d, %s shares with its Entries", x.c, short(x.body))
		}
	}
}

// Rule 5: what is got is new memory: neither the bytes nor another answer share any with it.
func TestGotIsNew(t *testing.T) {
	for _, x := range askings() {
		b := append(slices.Clone(x.body), 1, 2, 3)[:len(x.body)]
		one, _ := info.GetAsk(x.c, b)
		spoil(b)
		if !same(one, x.a) {
			t.Errorf("an answer of GetAsk(%d, %s) shares with the bytes", x.c, short(x.body))
		}
	}
	for _, x := range sayings() {
		whole := append(slices.Clone(x.body), 1, 2, 3)
		b := whole[:len(x.body)]
		one, _ := info.GetSay(x.c, b)
		two, _ := info.GetSay(x.c, b)
		spoilEntries(one.Entries)
		if !bytes.Equal(whole, append(slices.Clone(x.body), 1, 2, 3)) || !same(two, x.s) {
			t.Errorf("an answer of GetSay(%d, %s) shares", x.c, short(x.body))
		}
		spoil(b)
		if !same(two, x.s) {
			t.Errorf("an answer of GetSay(%d, %s) shares with the bytes", x.c, short(x.body))
		}
	}
}
