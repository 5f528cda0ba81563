package msg_test

import (
	"bytes"
	"math/rand"
	"reflect"
	"slices"
	"testing"

	"refectory/api"
	"refectory/msg"
)

// isPut tells that Put answers a message's bytes.
func isPut(t *testing.T, x message) {
	t.Helper()
	if b, e := msg.Put(x.m); !bytes.Equal(b, x.b) || e != api.OK {
		t.Errorf("Put of %+v = %s, %d; want %s", x.m.Head, short(b), e, short(x.b))
	}
}

// isGot tells that Get answers a message.
func isGot(t *testing.T, x message) {
	t.Helper()
	if m, e := msg.Get(x.b); !same(m, x.m) || e != api.OK {
		t.Errorf("Get(%s) = %+v, %d; want %+v", short(x.b), m.Head, e, x.m.Head)
	}
}

// putRefused tells that Put and Sign answer an error alone.
func putRefused(t *testing.T, why any, m api.Msg, want api.Errno) {
	t.Helper()
	if b, e := msg.Put(m); len(b) != 0 || e != want {
		t.Errorf("%v: Put of %+v = %s, %d; want %d alone", why, m.Head, short(b), e, want)
	}
	if b, e := msg.Sign(m, []byte("key")); len(b) != 0 || e != want {
		t.Errorf("%v: Sign of %+v = %s, %d; want %d alone", why, m.Head, short(b), e, want)
	}
}

// getRefused tells that Get answers an error alone.
func getRefused(t *testing.T, why any, b []byte, want api.Errno) {
	t.Helper()
	if m, e := msg.Get(b); e != want || !reflect.DeepEqual(m, api.Msg{}) {
		t.Errorf("%v: Get(%s) = %+v, %d; want %d alone", why, short(b), m.Head, e, want)
	}
}

// P11.1, P11.2: the chapter's examples, and the document's fourth.
func TestExamples(t *testing.T) {
	b, e := msg.Put(api.Msg{Head: api.Head{Command: api.Echo, Id: 1}})
	if len(b) != 68 || e != api.OK {
		t.Fatalf("Put(Echo, Id 1) = %x, %d", b, e)
	}
	if m, e := msg.Get(b); !same(m, api.Msg{Head: api.Head{Command: api.Echo, Id: 1}}) || e != api.OK {
		t.Errorf("Get(that) = %+v, %d", m, e)
	}
	getRefused(t, "a byte more", append(slices.Clone(b), 0), api.ErrForm)
	getRefused(t, "a byte less", b[:67], api.ErrShort)
	if b, e := msg.Put(api.Msg{Head: api.Head{Command: api.Echo, Flags: api.FlagReply, Status: 9}}); len(b) != 68 || e != api.OK {
		t.Errorf("Put(an Echo that is a Reply, with Status 9) = %x, %d", b, e)
	}
}

// The bytes of a message of each layer, of a break that is told, and of what tells an error, byte by byte.
func TestTable(t *testing.T) {
	for _, x := range []message{
		{m: api.Msg{Head: api.Head{Charge: 1, Command: api.Connect, Credits: 2, Id: 3, Session: 4}, Ask: api.Ask{Share: "a"}}, b: []byte{
			0xfe, 'S', 'M', 'B', 64, 0, 1, 0, 0, 0, 0, 0, 3, 0, 2, 0, 0, 0, 0, 0, 0, 0, 0, 0, 3, 0, 0, 0, 0, 0, 0, 0,
			0, 0, 0, 0, 0, 0, 0, 0, 4, 0, 0, 0, 0, 0, 0, 0, 0, 0, 0, 0, 0, 0, 0, 0, 0, 0, 0, 0, 0, 0, 0, 0,
			2, 0, 'a', 0}},
		{m: api.Msg{Head: api.Head{Command: api.Read, Flags: 1, Next: 72, Id: 3, Tree: 5, Session: 4}, Say: api.Say{Data: []byte{9}}}, b: []byte{
			0xfe, 'S', 'M', 'B', 64, 0, 0, 0, 0, 0, 0, 0, 8, 0, 0, 0, 1, 0, 0, 0, 72, 0, 0, 0, 3, 0, 0, 0, 0, 0, 0, 0,
			0, 0, 0, 0, 5, 0, 0, 0, 4, 0, 0, 0, 0, 0, 0, 0, 0, 0, 0, 0, 0, 0, 0, 0, 0, 0, 0, 0, 0, 0, 0, 0,
			1, 0, 0, 0, 9, 0, 0, 0}},
		{m: api.Msg{Head: api.Head{Command: api.Set, Flags: 4, Next: 80, Id: 3}, Ask: api.Ask{File: 6, Class: 2, On: true}}, b: []byte{
			0xfe, 'S', 'M', 'B', 64, 0, 0, 0, 0, 0, 0, 0, 17, 0, 0, 0, 4, 0, 0, 0, 80, 0, 0, 0, 3, 0, 0, 0, 0, 0, 0, 0,
			0, 0, 0, 0, 0, 0, 0, 0, 0, 0, 0, 0, 0, 0, 0, 0, 0, 0, 0, 0, 0, 0, 0, 0, 0, 0, 0, 0, 0, 0, 0, 0,
			6, 0, 0, 0, 0, 0, 0, 0, 2, 0, 1, 0, 0, 0, 0, 0}},
		{m: api.Msg{Head: api.Head{Command: api.BreakIt, Flags: 1, Id: 1<<64 - 1, Session: 4}, Say: api.Say{File: 6, Level: 1}}, b: []byte{
			0xfe, 'S', 'M', 'B', 64, 0, 0, 0, 0, 0, 0, 0, 18, 0, 0, 0, 1, 0, 0, 0, 0, 0, 0, 0, 255, 255, 255, 255, 255, 255, 255, 255,
			0, 0, 0, 0, 0, 0, 0, 0, 4, 0, 0, 0, 0, 0, 0, 0, 0, 0, 0, 0, 0, 0, 0, 0, 0, 0, 0, 0, 0, 0, 0, 0,
			6, 0, 0, 0, 0, 0, 0, 0, 1, 0, 0, 0}},
		{m: api.Msg{Head: api.Head{Status: 23, Command: api.Query, Flags: 3, Id: 3, Async: 7, Session: 4}}, b: []byte{
			0xfe, 'S', 'M', 'B', 64, 0, 0, 0, 23, 0, 0, 0, 16, 0, 0, 0, 3, 0, 0, 0, 0, 0, 0, 0, 3, 0, 0, 0, 0, 0, 0, 0,
			7, 0, 0, 0, 0, 0, 0, 0, 4, 0, 0, 0, 0, 0, 0, 0, 0, 0, 0, 0, 0, 0, 0, 0, 0, 0, 0, 0, 0, 0, 0, 0,
			0, 0, 0, 0}},
	} {
		isPut(t, x)
		isGot(t, x)
	}
}

// P11.1: messages that are put.
func TestPut(t *testing.T) {
	for _, x := range messages() {
		isPut(t, x)
	}
}

// P11.2: messages that are got.
func TestGet(t *testing.T) {
	for _, x := range messages() {
		isGot(t, x)
	}
}

// P11.1, P11.2: behind the body of a message stand noughts just if its Next is above 0, whatever number it is.
func TestNext(t *testing.T) {
	for n := range 33 {
		x := asked(api.Write, api.Ask{File: 1, At: 2, Data: some(n)}, uint64(1), uint64(2), uint32(n), some(n))
		if b, _ := msg.Put(lay(api.Head{}, x).m); len(b) != 64+20+n {
			t.Errorf("Next 0, %d bytes of Data: %d bytes", n, len(b))
		}
		for _, next := range nexts {
			y := lay(follow(api.Head{}, next), x)
			if b, _ := msg.Put(y.m); len(b) != (64+20+n+7)/8*8 {
				t.Errorf("Next %d, %d bytes of Data: %d bytes", next, n, len(b))
			}
			isPut(t, y)
			isGot(t, y)
		}
	}
}

// A break that is told, whatever else its head has.
func TestBreakTold(t *testing.T) {
	for _, h := range heads() {
		h.Id = 1<<64 - 1
		for _, level := range []uint8{0, 1, 2, 3, 255} {
			x := said(api.BreakIt, api.Say{File: 7, Level: level}, uint64(7), level, noughts(3))
			for _, next := range []uint32{0, 80} {
				isPut(t, lay(follow(h, next), x))
				isGot(t, lay(follow(h, next), x))
			}
		}
	}
}

// mayNotBe are heads that may not be, each made of h by another way that the head's layer names.
func mayNotBe(h api.Head) []api.Head {
	var l []api.Head
	with := func(change func(h *api.Head)) {
		own := h
		change(&own)
		l = append(l, own)
	}
	for _, c := range noCommands {
		with(func(h *api.Head) { h.Command = c })
	}
	for bit := 4; bit < 32; bit++ {
		with(func(h *api.Head) { h.Flags |= 1 << bit })
	}
	with(func(h *api.Head) { h.Flags, h.Tree, h.Async = h.Flags&^api.FlagAsync, 0, 1 })
	with(func(h *api.Head) { h.Flags, h.Async = h.Flags&^api.FlagAsync, 1<<63 })
	with(func(h *api.Head) { h.Flags, h.Tree = h.Flags|api.FlagAsync, 1 })
	with(func(h *api.Head) { h.Flags, h.Tree, h.Async = h.Flags|api.FlagAsync, 1<<31, 1 })
	return l
}

// P11.1: heads that may not be, with bodies that might be, and ahead of each other error.
func TestPutHeadMayNotBe(t *testing.T) {
	for _, x := range smallBodies(40) {
		for _, h := range []api.Head{{}, full, follow(full, 8)} {
			for _, h := range mayNotBe(lay(h, x).m.Head) {
				putRefused(t, "the head may not be", api.Msg{Head: h, Ask: x.a, Say: x.s}, api.ErrArg)
				h.Status = 5
				putRefused(t, "the head may not be", api.Msg{Head: h, Ask: x.a, Say: x.s}, api.ErrArg)
				putRefused(t, "the head may not be", api.Msg{Head: h}, api.ErrArg)
			}
		}
	}
	for _, h := range mayNotBe(api.Head{Command: api.Create}) {
		putRefused(t, "nor the body", api.Msg{Head: h, Ask: api.Ask{Name: noText}}, api.ErrArg)
		putRefused(t, "nor the body", api.Msg{Head: h, Ask: api.Ask{Name: longText}}, api.ErrArg)
	}
}

// P11.1: each number that a Command can have: the body of each is that of its own layer, or it is none.
func TestCommands(t *testing.T) {
	for n := range 1 << 16 {
		h := api.Head{Command: api.Command(n)}
		if slices.Contains(allCommands, h.Command) {
			continue
		}
		for _, flags := range []uint32{0, api.FlagReply} {
			h.Flags = flags
			if b, e := msg.Put(api.Msg{Head: h}); len(b) != 0 || e != api.ErrArg {
				t.Errorf("Put of the Command %d = %x, %d", n, b, e)
			}
			for _, many := range []int{0, 4, 8} {
				b := le(headOf(h), noughts(many))
				if m, e := msg.Get(b); e != api.ErrForm || m.Head != (api.Head{}) {
					t.Errorf("Get of the Command %d = %+v, %d", n, m, e)
				}
			}
		}
	}
}

// P11.2: bytes whose head is none, or cut, are told ahead of what stands behind.
func TestGetNoHead(t *testing.T) {
	for _, behind := range [][]byte{nil, noughts(4), {1, 0, 0, 0}, noughts(3), noughts(5), noughts(8), some(40)} {
		for _, h := range []api.Head{{Command: api.Echo}, full, follow(greatest, 8), {Command: api.Cancel, Flags: api.FlagReply}, {Command: api.Query, Flags: api.FlagReply, Status: 1}} {
			b := le(headOf(h), behind)
			for i := range 6 {
				for bit := range 8 {
					spoilt := slices.Clone(b)
					spoilt[i] ^= 1 << bit
					getRefused(t, "the first six bytes", spoilt, api.ErrForm)
				}
			}
			for _, c := range noCommands {
				h := h
				h.Command = c
				getRefused(t, c, le(headOf(h), behind), api.ErrForm)
			}
			for bit := 4; bit < 32; bit++ {
				h := h
				h.Flags |= 1 << bit
				getRefused(t, "Flags", le(headOf(h), behind), api.ErrForm)
			}
			for i := 32; i < 36; i++ {
				spoilt := slices.Clone(b)
				spoilt[i] = 1
				getRefused(t, "the 0 ahead of Tree", spoilt, api.ErrForm)
			}
			for cut := range 64 {
				getRefused(t, "cut in the head", b[:cut], api.ErrShort)
				getRefused(t, "cut in the head", b[:cut:cut], api.ErrShort)
				getRefused(t, "noughts", noughts(cut), api.ErrShort)
			}
		}
		getRefused(t, "noughts", le(noughts(64), behind), api.ErrForm)
	}
	getRefused(t, "nothing", nil, api.ErrShort)
	getRefused(t, "nothing", []byte{}, api.ErrShort)
}

// change gives a field of what p points to each of several values that are not zero, one after the other, and calls then; after that the field has its value of before.
func change(p any, i int, then func()) {
	f := reflect.ValueOf(p).Elem().Field(i)
	before := reflect.New(f.Type()).Elem()
	before.Set(f)
	defer f.Set(before)
	switch f.Kind() {
	case reflect.Bool:
		f.SetBool(true)
		then()
	case reflect.String:
		for _, s := range []string{"a", "\x00", noText, longText} {
			f.SetString(s)
			then()
		}
	case reflect.Slice:
		for _, n := range []int{1, 2, 17, 65, 32769} {
			f.Set(reflect.MakeSlice(f.Type(), n, n))
			then()
		}
	case reflect.Array:
		for j := range f.Len() {
			f.SetZero()
			f.Index(j).SetUint(1)
			then()
		}
	default:
		for bit := range f.Type().Bits() {
			f.SetUint(1 << bit)
			then()
		}
	}
}

// P11.1: an Ask in a Reply, of no Status and of one, field by field.
func TestPutAskInReply(t *testing.T) {
	for _, x := range smallBodies(30) {
		if !x.reply {
			continue
		}
		m := lay(full, x).m
		for i := range reflect.TypeFor[api.Ask]().NumField() {
			change(&m.Ask, i, func() {
				putRefused(t, "an Ask in a Reply", m, api.ErrArg)
				told := api.Msg{Head: m.Head, Ask: m.Ask}
				told.Head.Status = 7
				putRefused(t, "an Ask in a Reply of a Status", told, api.ErrArg)
			})
		}
		m.Ask = api.Ask{Dialects: []uint16{}, Data: []byte{}, Locks: []api.Lock{}}
		if _, e := msg.Put(m); e != api.OK {
			t.Errorf("lists without elements in a Reply of %d: %d", x.c, e)
		}
	}
}

// P11.1: a Say in a message that is no Reply, field by field, whatever its Status.
func TestPutSayInAsk(t *testing.T) {
	for _, x := range smallBodies(50) {
		if x.reply {
			continue
		}
		m := lay(full, x).m
		for i := range reflect.TypeFor[api.Say]().NumField() {
			change(&m.Say, i, func() {
				m.Head.Status = 0
				putRefused(t, "a Say in what asks", m, api.ErrArg)
				m.Head.Status = 7
				putRefused(t, "a Say in what asks, with a Status", m, api.ErrArg)
			})
		}
		m.Say = api.Say{Data: []byte{}, Entries: []api.Entry{}}
		if _, e := msg.Put(m); e != api.OK {
			t.Errorf("lists without elements in what %d asks: %d", x.c, e)
		}
	}
}

// P11.1: a Say in a Reply of a Status, field by field, also those that its command's row names.
func TestPutSayOfStatus(t *testing.T) {
	for _, c := range allCommands {
		m := telling(full, c, 0).m
		for i := range reflect.TypeFor[api.Say]().NumField() {
			change(&m.Say, i, func() {
				for _, status := range []uint32{1, 23, 1 << 31} {
					m.Head.Status = status
					putRefused(t, "a Say of a Status", m, api.ErrArg)
				}
			})
		}
		m.Head.Status = 1
		m.Say = api.Say{Data: []byte{}, Entries: []api.Entry{}}
		if b, e := msg.Put(m); len(b) != 68 || e != api.OK {
			t.Errorf("lists without elements in an error of %d: %d, %d", c, len(b), e)
		}
	}
	for _, x := range bodies() {
		if x.reply && !reflect.DeepEqual(plain(x.s), api.Say{}) {
			m := lay(full, x).m
			m.Head.Status = 9
			putRefused(t, "a Say of a Status", m, api.ErrArg)
		}
	}
}

// P11.1: the errors of what is asked, of each layer, whether another message follows or not.
func TestPutAskErrors(t *testing.T) {
	for _, x := range []struct {
		c    api.Command
		a    api.Ask
		want api.Errno
	}{
		{api.Negotiate, api.Ask{Dialects: make([]uint16, 17)}, api.ErrLimit}, {api.Negotiate, api.Ask{User: "a"}, api.ErrArg}, {api.Negotiate, api.Ask{Dialects: make([]uint16, 17), User: "a"}, api.ErrArg},
		{api.Setup, api.Ask{User: longText}, api.ErrLimit}, {api.Setup, api.Ask{User: noText}, api.ErrForm}, {api.Setup, api.Ask{Share: "a"}, api.ErrArg}, {api.Setup, api.Ask{User: noText, Share: "a"}, api.ErrArg},
		{api.Connect, api.Ask{Share: longText}, api.ErrLimit}, {api.Connect, api.Ask{Share: noText}, api.ErrForm}, {api.Connect, api.Ask{User: "a"}, api.ErrArg},
		{api.Logoff, api.Ask{File: 1}, api.ErrArg}, {api.Disconnect, api.Ask{File: 1}, api.ErrArg}, {api.Echo, api.Ask{Data: []byte{1}}, api.ErrArg},
		{api.Create, api.Ask{Name: longText}, api.ErrLimit}, {api.Create, api.Ask{Name: noText}, api.ErrForm}, {api.Create, api.Ask{On: true}, api.ErrArg}, {api.Create, api.Ask{On: true, Name: noText}, api.ErrArg},
		{api.Close, api.Ask{N: 1}, api.ErrArg}, {api.Flush, api.Ask{At: 1}, api.ErrArg}, {api.Read, api.Ask{Data: []byte{1}}, api.ErrArg},
		{api.Write, api.Ask{Data: make([]byte, 32769)}, api.ErrLimit}, {api.Write, api.Ask{N: 1}, api.ErrArg}, {api.Write, api.Ask{N: 1, Data: make([]byte, 32769)}, api.ErrArg},
		{api.LockIt, api.Ask{Locks: make([]api.Lock, 17)}, api.ErrLimit}, {api.LockIt, api.Ask{Locks: []api.Lock{{Open: 1}}}, api.ErrArg},
		{api.List, api.Ask{Pattern: longText}, api.ErrLimit}, {api.List, api.Ask{After: noText}, api.ErrForm}, {api.List, api.Ask{Pattern: longText, After: noText}, api.ErrLimit}, {api.List, api.Ask{Name: "a"}, api.ErrArg},
		{api.Query, api.Ask{Size: 1}, api.ErrArg}, {api.Set, api.Ask{}, api.ErrArg}, {api.Set, api.Ask{Class: 4}, api.ErrArg}, {api.Set, api.Ask{Class: 1, On: true}, api.ErrArg},
		{api.Set, api.Ask{Class: 3, Name: longText}, api.ErrLimit}, {api.Set, api.Ask{Class: 3, Name: noText}, api.ErrForm},
		{api.BreakIt, api.Ask{N: 1}, api.ErrArg}, {api.Cancel, api.Ask{File: 1}, api.ErrArg},
	} {
		for _, h := range heads() {
			for _, next := range []uint32{0, 8} {
				m := lay(follow(h, next), body{c: x.c, a: x.a}).m
				putRefused(t, "what is asked", m, x.want)
				m.Head.Status = 3
				putRefused(t, "what is asked", m, x.want)
				m.Say.N = 1
				putRefused(t, "a Say, too", m, api.ErrArg)
			}
		}
	}
}

// P11.1: the errors of what is said, of each layer, whether another message follows or not.
func TestPutSayErrors(t *testing.T) {
	entry := func(name string, kind api.Kind, size int) []api.Entry {
		return []api.Entry{{Name: name, Stat: api.Stat{Kind: kind, Size: size}}}
	}
	for _, x := range []struct {
		c    api.Command
		s    api.Say
		want api.Errno
	}{
		{api.Negotiate, api.Say{Size: 1 << 32}, api.ErrArg}, {api.Negotiate, api.Say{File: 1}, api.ErrArg}, {api.Setup, api.Say{Dialect: 1}, api.ErrArg},
		{api.Connect, api.Say{N: 1}, api.ErrArg}, {api.Logoff, api.Say{N: 1}, api.ErrArg}, {api.Disconnect, api.Say{N: 1}, api.ErrArg}, {api.Echo, api.Say{Data: []byte{1}}, api.ErrArg},
		{api.Create, api.Say{Made: 3}, api.ErrArg}, {api.Create, api.Say{Kind: 3}, api.ErrArg}, {api.Create, api.Say{N: 1}, api.ErrArg}, {api.Close, api.Say{File: 1}, api.ErrArg}, {api.Flush, api.Say{Size: 1}, api.ErrArg},
		{api.Read, api.Say{Data: make([]byte, 32769)}, api.ErrLimit}, {api.Read, api.Say{N: 1}, api.ErrArg}, {api.Read, api.Say{N: 1, Data: make([]byte, 32769)}, api.ErrArg},
		{api.Write, api.Say{Data: []byte{1}}, api.ErrArg}, {api.LockIt, api.Say{N: 1}, api.ErrArg},
		{api.List, api.Say{Entries: make([]api.Entry, 65)}, api.ErrLimit}, {api.List, api.Say{Gone: true}, api.ErrArg}, {api.List, api.Say{Entries: entry(longText, 1, 1)}, api.ErrLimit}, {api.List, api.Say{Entries: entry(noText, 1, 1)}, api.ErrForm},
		{api.List, api.Say{Entries: entry("a", 3, 1)}, api.ErrArg}, {api.List, api.Say{Entries: entry("a", 2, -1)}, api.ErrArg}, {api.List, api.Say{Entries: entry("a", 2, api.MaxQuota+1)}, api.ErrArg},
		{api.Query, api.Say{Kind: 3}, api.ErrArg}, {api.Query, api.Say{More: true}, api.ErrArg}, {api.Set, api.Say{File: 1}, api.ErrArg}, {api.BreakIt, api.Say{Size: 1}, api.ErrArg},
		{api.Cancel, api.Say{}, api.ErrArg}, {api.Cancel, api.Say{File: 1}, api.ErrArg},
	} {
		for _, h := range heads() {
			for _, next := range []uint32{0, 8} {
				m := lay(follow(h, next), body{c: x.c, reply: true, s: x.s}).m
				putRefused(t, "what is said", m, x.want)
				m.Ask.N = 1
				putRefused(t, "an Ask, too", m, api.ErrArg)
			}
		}
	}
}

// P11.2: the errors of a body's bytes, of each layer. Where another message follows, noughts behind change nothing of an error that stands ahead of them.
func TestGetBodyErrors(t *testing.T) {
	long, none := le(uint16(514), noughts(514)), []byte{2, 0, 0, 0xd8}
	for _, x := range []struct {
		c     api.Command
		reply bool
		b     []byte
		want  api.Errno
	}{
		{api.Negotiate, false, le(uint16(17), noughts(50)), api.ErrLimit}, {api.Setup, false, le(noughts(32), long), api.ErrLimit}, {api.Setup, false, le(noughts(32), none), api.ErrForm},
		{api.Connect, false, long, api.ErrLimit}, {api.Connect, false, none, api.ErrForm}, {api.Logoff, false, []byte{0, 0, 0, 1}, api.ErrForm}, {api.Disconnect, false, []byte{1, 0, 0, 0}, api.ErrForm}, {api.Echo, false, []byte{0, 1, 0, 0}, api.ErrForm},
		{api.Negotiate, true, le(uint16(1), uint16(1), noughts(12)), api.ErrForm}, {api.Setup, true, []byte{1, 0, 0, 0}, api.ErrForm}, {api.Connect, true, []byte{1, 0, 0, 0}, api.ErrForm}, {api.Echo, true, []byte{0, 0, 0, 1}, api.ErrForm},
		{api.Create, false, le(noughts(18), uint16(1), noughts(10)), api.ErrForm}, {api.Create, false, le(noughts(28), long), api.ErrLimit}, {api.Create, false, le(noughts(28), none), api.ErrForm},
		{api.Write, false, le(noughts(16), uint32(32769), noughts(32769)), api.ErrLimit}, {api.Write, false, le(noughts(16), uint32(32769)), api.ErrLimit}, {api.LockIt, false, le(noughts(8), uint16(17), uint16(0)), api.ErrLimit}, {api.LockIt, false, le(noughts(8), uint16(0), uint16(1)), api.ErrForm},
		{api.Create, true, le(uint16(0), uint16(3), noughts(20)), api.ErrForm}, {api.Create, true, le(noughts(20), uint16(3), uint16(0)), api.ErrForm}, {api.Close, true, []byte{1, 0, 0, 0}, api.ErrForm}, {api.Flush, true, []byte{1, 0, 0, 0}, api.ErrForm},
		{api.Read, true, le(uint32(32769)), api.ErrLimit}, {api.LockIt, true, []byte{1, 0, 0, 0}, api.ErrForm},
		{api.List, false, le(noughts(10), uint16(1), uint32(0)), api.ErrForm}, {api.List, false, le(noughts(12), long, none), api.ErrLimit}, {api.List, false, le(noughts(12), none, long), api.ErrForm},
		{api.Set, false, le(noughts(8), uint16(0)), api.ErrForm}, {api.Set, false, le(noughts(8), uint16(4)), api.ErrForm}, {api.Set, false, le(noughts(8), uint16(2), uint16(2)), api.ErrForm}, {api.Set, false, le(noughts(8), uint16(3), uint16(1), long), api.ErrLimit},
		{api.BreakIt, false, le(noughts(11), uint8(1)), api.ErrForm}, {api.Cancel, false, []byte{0, 0, 1, 0}, api.ErrForm},
		{api.List, true, le(uint16(65), uint16(0)), api.ErrLimit}, {api.List, true, le(uint16(0), uint16(2)), api.ErrForm}, {api.List, true, le(uint16(1), uint16(0), uint16(3), noughts(12)), api.ErrForm},
		{api.List, true, le(uint16(1), uint16(0), noughts(4), uint64(api.MaxQuota+1), uint16(0)), api.ErrForm}, {api.List, true, le(uint16(1), uint16(0), noughts(12), long), api.ErrLimit},
		{api.Query, true, le(noughts(8), uint16(3), uint16(0)), api.ErrForm}, {api.Query, true, le(noughts(8), uint16(0), uint16(2)), api.ErrForm}, {api.Set, true, []byte{0, 1, 0, 0}, api.ErrForm}, {api.BreakIt, true, le(noughts(9), uint8(1), noughts(2)), api.ErrForm},
	} {
		for _, h := range heads() {
			ahead := headOf(lay(h, body{c: x.c, reply: x.reply}).m.Head)
			followed := headOf(lay(follow(h, 8), body{c: x.c, reply: x.reply}).m.Head)
			for n := range 10 {
				getRefused(t, short(x.b), le(ahead, x.b, noughts(n)), x.want)
				getRefused(t, short(x.b), le(followed, x.b, noughts(n)), x.want)
			}
		}
	}
}

// P11.2: a Say of Cancel, whatever stands there.
func TestGetCancelSaid(t *testing.T) {
	for _, h := range heads() {
		for _, next := range []uint32{0, 1, 72} {
			ahead := headOf(lay(follow(h, next), body{c: api.Cancel, reply: true}).m.Head)
			for n := range 17 {
				getRefused(t, "a Say of Cancel", le(ahead, noughts(n)), api.ErrForm)
				getRefused(t, "a Say of Cancel", le(ahead, some(n)), api.ErrForm)
			}
		}
	}
}

// P11.2: what tells an error, where 0 (4) is not that.
func TestGetStatus(t *testing.T) {
	for i, c := range allCommands {
		for j, h := range heads() {
			ahead := headOf(telling(h, c, statuses[(i+j)%len(statuses)]).m.Head)
			followed := headOf(telling(follow(h, 72), c, statuses[(i+j)%len(statuses)]).m.Head)
			for n := range 4 {
				getRefused(t, "cut", le(ahead, noughts(n)), api.ErrShort)
				getRefused(t, "cut, not 0", le(ahead, some(n)), api.ErrShort)
				getRefused(t, "cut, and followed", le(followed, noughts(n)), api.ErrShort)
			}
			for _, n := range []int{5, 6, 7, 8, 9, 12, 16, 24} {
				getRefused(t, "bytes behind", le(ahead, noughts(n)), api.ErrForm)
			}
			for k := range 4 {
				for bit := range 8 {
					b := noughts(4)
					b[k] = 1 << bit
					getRefused(t, "not 0", le(ahead, b), api.ErrForm)
					getRefused(t, "not 0, and bytes behind", le(ahead, b, b), api.ErrForm)
					getRefused(t, "not 0, and followed", le(followed, b, noughts(4)), api.ErrForm)
					getRefused(t, "padding not 0", le(followed, noughts(4), b), api.ErrForm)
				}
			}
			for _, n := range []int{4, 5, 6, 7, 9, 12, 16} {
				getRefused(t, "padding of another length", le(followed, noughts(n)), api.ErrForm)
			}
		}
	}
	// What a command says where it has no Status is no error's.
	for _, x := range smallBodies(100) {
		if h := lay(api.Head{Status: 9}, x).m.Head; x.reply && !bytes.Equal(x.b, noughts(4)) {
			getRefused(t, "a Say of a Status", le(headOf(h), x.b), api.ErrForm)
		}
	}
}

// P11.2: padding that is too short, too long, not 0, or not there though another message follows; and padding where none does.
func TestGetPadding(t *testing.T) {
	for i, x := range bodies() {
		if len(x.b) > 1000 && i%5 != 0 {
			continue
		}
		y := lay(follow(full, nexts[i%len(nexts)]), x)
		padding := len(y.b) - 64 - len(x.b)
		for n := range 18 {
			if n != padding {
				getRefused(t, "padding of another length", le(headOf(y.m.Head), x.b, noughts(n)), api.ErrForm)
			}
			if n > 0 {
				getRefused(t, "padding, and none follows", le(headOf(lay(full, x).m.Head), x.b, noughts(n)), api.ErrForm)
			}
		}
		for at := 64 + len(x.b); at < len(y.b); at++ {
			for bit := range 8 {
				b := slices.Clone(y.b)
				b[at] = 1 << bit
				getRefused(t, "padding not 0", b, api.ErrForm)
			}
		}
	}
}

// P11.2: each message cut at each place, and with bytes behind it; the room behind the end is none of it.
func TestGetCutAndLeft(t *testing.T) {
	each := func(x message) {
		end := 64 + len(x.body)
		for cut := range x.b {
			if cut > 150 && cut < len(x.b)-20 && cut%499 != 0 {
				continue
			}
			want := api.ErrShort
			if cut >= end {
				want = api.ErrForm
			}
			getRefused(t, "cut", x.b[:cut:cut], want)
			getRefused(t, "cut, with room behind", x.b[:cut], want)
		}
		for _, behind := range [][]byte{{0}, {1}, noughts(2), noughts(4), noughts(7), noughts(8), some(8), noughts(16), x.body} {
			getRefused(t, "left", slices.Concat(x.b, behind), api.ErrForm)
		}
	}
	for i, x := range bodies() {
		if len(x.b) < 1000 || i%5 == 0 {
			each(lay(full, x))
			each(lay(follow(full, 8), x))
		}
	}
	for _, c := range allCommands {
		each(telling(full, c, 9))
		each(telling(follow(full, 8), c, 9))
	}
}

// P11.5: what is put is got; two messages that are not the same have two rows of bytes.
func TestPutIsGot(t *testing.T) {
	seen := map[string]api.Msg{}
	for _, x := range messages() {
		b, _ := msg.Put(x.m)
		if m, e := msg.Get(b); !same(m, x.m) || e != api.OK {
			t.Errorf("Get of Put of %+v = %+v, %d", x.m.Head, m.Head, e)
		}
		if other, ok := seen[string(b)]; ok && !same(other, x.m) {
			t.Errorf("two messages are put as %s", short(b))
		}
		seen[string(b)] = x.m
	}
}

// gotIsPut tells that bytes that are got are put again as they were, and that else nothing but an error is answered. It answers whether they are got.
func gotIsPut(t *testing.T, b []byte) bool {
	t.Helper()
	m, e := msg.Get(b)
	switch e {
	case api.OK:
		if again, e := msg.Put(m); !bytes.Equal(again, b) || e != api.OK {
			t.Errorf("Put of Get of %s = %s, %d", short(b), short(again), e)
		}
		return true
	case api.ErrLimit, api.ErrShort, api.ErrForm:
		getRefused(t, "got", b, e)
	default:
		t.Errorf("Get(%s) = %d", short(b), e)
	}
	return false
}

// P11.5: what is got is put as the same bytes: messages with each byte at each number, and bytes of any kind.
func TestGotIsPut(t *testing.T) {
	for i, x := range smallBodies(24) {
		b := lay(follow([]api.Head{{}, full}[i%2], uint32(i%3)), x).b
		for at := range b {
			own := slices.Clone(b)
			for n := range 256 {
				// A head's own numbers are looked at in few messages: whatever stands behind, they are the same.
				if at >= 64 || i%10 == 0 {
					own[at] = byte(n)
					gotIsPut(t, own)
				}
			}
		}
	}
	random := rand.New(rand.NewSource(11))
	all := heads()
	got := 0
	for range 60000 {
		h := all[random.Intn(len(all))]
		h.Command = allCommands[random.Intn(len(allCommands))]
		h.Flags |= uint32(random.Intn(2))
		h.Status = uint32(random.Intn(2))
		h.Next = uint32(random.Intn(2))
		behind := make([]byte, []int{4, 8, 12, 16, 18, 20, 24, 32, random.Intn(48)}[random.Intn(9)])
		for i := range behind {
			// Small numbers and halves of letters, so that many of them are got.
			behind[i] = []byte{0, 0, 0, 0, 0, 0, 0, 1, 2, 0x61, 0xd8, byte(random.Intn(256))}[random.Intn(12)]
		}
		if gotIsPut(t, le(headOf(h), behind)) {
			got++
		}
	}
	if got < 1000 {
		t.Errorf("of all these only %d are got", got)
	}
}
