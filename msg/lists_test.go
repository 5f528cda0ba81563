package msg_test

import (
	"encoding/binary"
	"fmt"
	"math"
	"reflect"
	"slices"
	"strings"
	"testing"
	"unicode/utf16"

	"refectory/api"
)

// The commands of each layer below.
var (
	talkCommands = []api.Command{0, 1, 2, 3, 4, 13}
	fileCommands = []api.Command{5, 6, 7, 8, 9, 10}
	infoCommands = []api.Command{12, 14, 16, 17, 18}
	allCommands  = slices.Concat(talkCommands, fileCommands, infoCommands)
)

// noCommands are numbers that are no command's.
var noCommands = []api.Command{11, 15, 19, 20, 255, 256, 257, 261, 268, 269, 32768, 65534, 65535}

// statuses are of heads that tell an error.
var statuses = []uint32{1, 2, 4, 5, 20, 23, 255, 256, 65535, 65536, 1 << 24, 1 << 31, math.MaxUint32}

// nexts are above 0. What a head says of the next one need not be so of the bytes.
var nexts = []uint32{1, 7, 8, 63, 64, 68, 72, 1 << 16, math.MaxUint32 - 7, math.MaxUint32}

// longText is above the limit of texts, noText is none.
var (
	longText = strings.Repeat("b", 257)
	noText   = "a\xff"
)

// le lays numbers and bytes, the lowest byte first, by the language's own library.
func le(parts ...any) []byte {
	b := []byte{}
	for _, p := range parts {
		var e error
		b, e = binary.Append(b, binary.LittleEndian, p)
		if e != nil {
			panic(e)
		}
	}
	return b
}

// textRow tells the row of a text.
func textRow(s string) []byte {
	b := le(utf16.Encode([]rune(s)))
	return le(uint16(len(b)), b)
}

// headOf tells the bytes of a head.
func headOf(h api.Head) []byte {
	place := uint64(h.Tree) << 32
	if h.Flags&api.FlagAsync != 0 {
		place = h.Async
	}
	return le([]byte{0xfe, 'S', 'M', 'B', 64, 0}, h.Charge, h.Status, h.Command, h.Credits, h.Flags, h.Next, h.Id, place, h.Session, h.Signature)
}

// some tells n bytes that are not all the same, none of them 0.
func some(n int) []byte {
	b := make([]byte, n)
	for i := range b {
		b[i] = byte(1 + (i*7+i>>8)%255)
	}
	return b
}

// noughts tells n bytes 0.
func noughts(n int) []byte {
	return make([]byte, n)
}

// someLocks tells n Locks that are not all the same, and their bytes, with their number.
func someLocks(n int) ([]api.Lock, []byte) {
	l := make([]api.Lock, n)
	b := le(uint16(n), uint16(0))
	for i := range l {
		l[i] = api.Lock{At: 0x8172635445362718 + uint64(i), N: 0xf1e2d3c4b5a69788 - uint64(i), Mode: 0xf102 + uint16(i)}
		b = le(b, l[i].At, l[i].N, l[i].Mode, uint16(0))
	}
	return l, b
}

// someEntries tells n Entries that are not all the same, with names of so many letters, and their bytes, without their number.
func someEntries(n, letters int) ([]api.Entry, []byte) {
	l := make([]api.Entry, n)
	b := []byte{}
	for i := range l {
		l[i] = api.Entry{Name: strings.Repeat(string(rune('a'+i)), letters), Stat: api.Stat{Kind: api.Kind(i+1) % 3, Size: (i*70001 + i) % (api.MaxQuota + 1)}}
		b = le(b, uint16(l[i].Stat.Kind), uint16(0), uint64(l[i].Stat.Size), textRow(l[i].Name))
	}
	return l, b
}

// body is what a command asks, or says, and its bytes.
type body struct {
	c     api.Command
	reply bool
	a     api.Ask
	s     api.Say
	b     []byte
}

// asked and said are bodies, their bytes laid of parts.

func asked(c api.Command, a api.Ask, parts ...any) body {
	return body{c: c, a: a, b: le(parts...)}
}

func said(c api.Command, s api.Say, parts ...any) body {
	return body{c: c, reply: true, s: s, b: le(parts...)}
}

// talkBodies are those of talk's commands.
func talkBodies() []body {
	guid, proof, challenge := [16]byte(some(16)), [32]byte(some(32)), [8]byte(some(8))
	l := []body{
		asked(api.Negotiate, api.Ask{}, noughts(18)),
		asked(api.Negotiate, api.Ask{Dialects: slices.Repeat([]uint16{0x210, 0xffff}, 8), Guid: guid}, uint16(16), slices.Repeat([]uint16{0x210, 0xffff}, 8), guid),
		asked(api.Setup, api.Ask{}, noughts(34)),
		asked(api.Setup, api.Ask{Proof: proof, User: strings.Repeat("\U0010ffff", 128)}, proof, textRow(strings.Repeat("\U0010ffff", 128))),
		asked(api.Connect, api.Ask{Share: strings.Repeat("s", 256)}, textRow(strings.Repeat("s", 256))),
		asked(api.Logoff, api.Ask{}, noughts(4)),
		asked(api.Disconnect, api.Ask{}, noughts(4)),
		asked(api.Echo, api.Ask{}, noughts(4)),
		said(api.Negotiate, api.Say{}, noughts(16)),
		said(api.Negotiate, api.Say{Dialect: 0x210, Size: math.MaxUint32, Challenge: challenge}, uint16(0x210), uint16(0), uint32(math.MaxUint32), challenge),
	}
	for n := range 5 {
		name := strings.Repeat("é", n)
		l = append(l,
			asked(api.Negotiate, api.Ask{Dialects: make([]uint16, n), Guid: guid}, uint16(n), make([]uint16, n), guid),
			asked(api.Setup, api.Ask{Proof: proof, User: name}, proof, textRow(name)),
			asked(api.Connect, api.Ask{Share: name}, textRow(name)))
	}
	for _, c := range talkCommands[1:] {
		l = append(l, said(c, api.Say{}, noughts(4)))
	}
	return l
}

// fileBodies are those of file's commands.
func fileBodies() []body {
	file, at := uint64(0x8877665544332211), uint64(math.MaxUint64)
	l := []body{
		asked(api.Close, api.Ask{File: file}, file), asked(api.Close, api.Ask{}, noughts(8)),
		asked(api.Flush, api.Ask{File: at}, at), asked(api.Flush, api.Ask{}, noughts(8)),
		asked(api.Read, api.Ask{File: file, At: at, N: math.MaxUint32}, file, at, uint32(math.MaxUint32)), asked(api.Read, api.Ask{}, noughts(20)),
		said(api.Create, api.Say{}, noughts(24)),
		said(api.Create, api.Say{Level: 3, Durable: 1, Made: 2, File: file, Size: at, Kind: 2}, uint8(3), uint8(1), uint16(2), file, at, uint16(2), uint16(0)),
		said(api.Close, api.Say{}, noughts(4)), said(api.Flush, api.Say{}, noughts(4)), said(api.LockIt, api.Say{}, noughts(4)),
		said(api.Write, api.Say{}, noughts(4)), said(api.Write, api.Say{N: math.MaxUint32}, uint32(math.MaxUint32)),
	}
	for n := range 5 {
		name := strings.Repeat("n", n)
		l = append(l, asked(api.Create, api.Ask{Access: 1, Sharing: 0x04030201, Way: 5, Options: math.MaxUint32, Level: 255, Durable: 2, File: file, Name: name},
			uint32(1), uint32(0x04030201), uint32(5), uint32(math.MaxUint32), uint8(255), uint8(2), uint16(0), file, textRow(name)))
	}
	for _, n := range []int{0, 1, 2, 3, 4, 5, 6, 7, 8, 9, 15, 16, 17, 8191, 8192, api.MaxData - 1, api.MaxData} {
		for _, data := range [][]byte{some(n), noughts(n)} {
			l = append(l,
				asked(api.Write, api.Ask{File: file, At: at, Data: data}, file, at, uint32(n), data),
				said(api.Read, api.Say{Data: data}, uint32(n), data))
		}
	}
	for _, n := range []int{0, 1, 2, 15, 16} {
		locks, b := someLocks(n)
		l = append(l, asked(api.LockIt, api.Ask{File: file, Locks: locks}, file, b))
	}
	return l
}

// infoBodies are those of info's commands.
func infoBodies() []body {
	file, size := uint64(0x8877665544332211), uint64(math.MaxUint64)
	l := []body{
		asked(api.Query, api.Ask{File: file}, file), asked(api.Query, api.Ask{}, noughts(8)),
		asked(api.Set, api.Ask{File: file, Class: 1, Size: size}, file, uint16(1), size), asked(api.Set, api.Ask{Class: 1}, uint64(0), uint16(1), noughts(8)),
		asked(api.Set, api.Ask{File: file, Class: 2, On: true}, file, uint16(2), uint16(1)), asked(api.Set, api.Ask{Class: 2}, uint64(0), uint16(2), uint16(0)),
		asked(api.BreakIt, api.Ask{File: file, Level: 255}, file, uint8(255), noughts(3)), asked(api.BreakIt, api.Ask{}, noughts(12)),
		asked(api.Cancel, api.Ask{}, noughts(4)),
		said(api.Query, api.Say{Size: size, Kind: 2, Gone: true}, size, uint16(2), uint16(1)), said(api.Query, api.Say{}, noughts(12)),
		said(api.Set, api.Say{}, noughts(4)),
		said(api.BreakIt, api.Say{File: file, Level: 2}, file, uint8(2), noughts(3)), said(api.BreakIt, api.Say{}, noughts(12)),
	}
	for n := range 5 {
		name := strings.Repeat("*", n)
		l = append(l,
			asked(api.Set, api.Ask{File: file, Class: 3, On: n == 2, Name: name}, file, uint16(3), map[bool]uint16{true: 1}[n == 2], textRow(name)),
			asked(api.List, api.Ask{File: file, Most: 0xfffe, Pattern: name, After: "ab"}, file, uint16(0xfffe), uint16(0), textRow(name), textRow("ab")))
	}
	for _, n := range []int{0, 1, 2, 3, 63, 64} {
		for _, letters := range []int{0, 1, 2, 256} {
			entries, b := someEntries(n, letters)
			l = append(l, said(api.List, api.Say{Entries: entries, More: n > 1}, uint16(n), map[bool]uint16{true: 1}[n > 1], b))
		}
	}
	return l
}

// bodies are those of each command.
func bodies() []body {
	return slices.Concat(talkBodies(), fileBodies(), infoBodies())
}

// smallBodies are those of at most so many bytes.
func smallBodies(most int) []body {
	return slices.DeleteFunc(bodies(), func(x body) bool { return len(x.b) > most })
}

// full has another byte in each place, but of a Command, Flags, Next and Status, which each message has of its own.
var full = api.Head{
	Charge: 0x0201, Credits: 0x0807, Id: 0x14131211100f0e0d, Tree: 0x18171615, Session: 0x201f1e1d1c1b1a19,
	Signature: [16]byte{0x21, 0x22, 0x23, 0x24, 0x25, 0x26, 0x27, 0x28, 0x29, 0x2a, 0x2b, 0x2c, 0x2d, 0x2e, 0x2f, 0x30},
}

// greatest has the greatest number in each place.
var greatest = api.Head{
	Charge: math.MaxUint16, Credits: math.MaxUint16, Id: math.MaxUint64, Tree: math.MaxUint32, Session: math.MaxUint64,
	Signature: [16]byte{255, 255, 255, 255, 255, 255, 255, 255, 255, 255, 255, 255, 255, 255, 255, 255},
}

// heads are those of messages that are no Reply, of no Status, with each sum of the other flags.
func heads() []api.Head {
	var l []api.Head
	for _, h := range []api.Head{{}, full, greatest} {
		for _, flags := range []uint32{0, api.FlagRelated, api.FlagSigned, api.FlagRelated | api.FlagSigned} {
			h.Flags = flags
			async := h
			async.Flags |= api.FlagAsync
			async.Tree, async.Async = 0, h.Id
			l = append(l, h, async)
		}
	}
	return l
}

// message is a message, its body's bytes, and all its bytes.
type message struct {
	m    api.Msg
	body []byte
	b    []byte
}

// lay tells the message of a head and a body.
func lay(h api.Head, x body) message {
	h.Command = x.c
	if x.reply {
		h.Flags |= api.FlagReply
	}
	b := slices.Concat(headOf(h), x.b)
	for h.Next > 0 && len(b)%8 != 0 {
		b = append(b, 0)
	}
	return message{api.Msg{Head: h, Ask: x.a, Say: x.s}, x.b, b}
}

// telling tells the message of a head that tells an error.
func telling(h api.Head, c api.Command, status uint32) message {
	h.Status = status
	return lay(h, said(c, api.Say{}, noughts(4)))
}

// follow tells a head with a Next.
func follow(h api.Head, next uint32) api.Head {
	h.Next = next
	return h
}

// messages are all these: each body with some heads, without a next one and with one, and what tells an error.
func messages() []message {
	var l []message
	for i, x := range bodies() {
		for j, h := range heads() {
			if len(x.b) > 1000 && j%9 != 0 {
				continue
			}
			l = append(l, lay(h, x), lay(follow(h, nexts[(i+j)%len(nexts)]), x))
			if !x.reply {
				h.Status = statuses[(i+j)%len(statuses)]
				l = append(l, lay(h, x), lay(follow(h, nexts[(i+j)%len(nexts)]), x))
			}
		}
	}
	for _, c := range allCommands {
		for i, status := range statuses {
			for j, h := range heads() {
				l = append(l, telling(h, c, status), telling(follow(h, nexts[(i+j)%len(nexts)]), c, status))
			}
		}
	}
	return l
}

// plain is x with its lists without elements as nil.
func plain(x any) any {
	v := reflect.New(reflect.TypeOf(x)).Elem()
	v.Set(reflect.ValueOf(x))
	for i := range v.NumField() {
		if f := v.Field(i); f.Kind() == reflect.Slice && f.Len() == 0 {
			f.SetZero()
		}
	}
	return v.Interface()
}

// same tells whether two messages are the same, lists that are nil and lists without elements too.
func same(a, b api.Msg) bool {
	return a.Head == b.Head && reflect.DeepEqual(plain(a.Ask), plain(b.Ask)) && reflect.DeepEqual(plain(a.Say), plain(b.Say))
}

// short tells bytes, or the first of many.
func short(b []byte) string {
	if len(b) > 100 {
		return fmt.Sprintf("%x.. (%d)", b[:100], len(b))
	}
	return fmt.Sprintf("%x", b)
}

// The lists above have each command as a message that is no Reply, as a Reply and as what tells an error; and each number of noughts behind what is asked, and what is said.
func TestLists(t *testing.T) {
	type key struct {
		c    api.Command
		kind string
	}
	has := map[key]int{}
	padded := map[string][8]int{}
	for _, x := range messages() {
		kind := "asks"
		if x.m.Head.Flags&api.FlagReply != 0 {
			kind = "says"
			if x.m.Head.Status != 0 {
				kind = "tells"
			}
		}
		has[key{x.m.Head.Command, kind}]++
		if n := padded[kind]; x.m.Head.Next > 0 {
			n[len(x.b)-64-len(x.body)]++
			padded[kind] = n
		}
	}
	for _, c := range allCommands {
		for _, kind := range []string{"asks", "says", "tells"} {
			if (has[key{c, kind}] == 0) != (c == api.Cancel && kind == "says") {
				t.Errorf("%d %s %d times", c, kind, has[key{c, kind}])
			}
		}
	}
	for _, kind := range []string{"asks", "says"} {
		for n, many := range padded[kind] {
			if many == 0 {
				t.Errorf("what %s never has %d noughts behind it", kind, n)
			}
		}
	}
}
