package head

import (
	"bytes"
	"encoding/binary"
	"math"
	"slices"
	"testing"

	"refectory/api"
)

// commands are those of the chapter.
var commands = []api.Command{0, 1, 2, 3, 4, 5, 6, 7, 8, 9, 10, 12, 13, 14, 16, 17, 18}

// noCommands are numbers beside them.
var noCommands = []api.Command{11, 15, 19, 20, 32, 255, 256, 257, 1 << 15, 65534, 65535}

// noFlags are flags of which one bit, or more, is none.
var noFlags = []uint32{16, 17, 18, 31, 32, 255, 256, 1 << 16, 1 << 31, 1<<31 | 15, math.MaxUint32 - 15, math.MaxUint32 - 1, math.MaxUint32}

// full has another byte in each place, and no Async.
var full = api.Head{
	Charge: 0x0201, Status: 0x06050403, Command: api.Set, Credits: 0x0807, Flags: api.FlagReply | api.FlagSigned, Next: 0x0c0b0a09,
	Id: 0x14131211100f0e0d, Tree: 0x18171615, Session: 0x201f1e1d1c1b1a19,
	Signature: [16]byte{0x21, 0x22, 0x23, 0x24, 0x25, 0x26, 0x27, 0x28, 0x29, 0x2a, 0x2b, 0x2c, 0x2d, 0x2e, 0x2f, 0x30},
}

// fullBytes are its bytes, as the chapter's table has them.
var fullBytes = []byte{
	0xfe, 0x53, 0x4d, 0x42, 64, 0, 0x01, 0x02, 0x03, 0x04, 0x05, 0x06, 17, 0, 0x07, 0x08,
	9, 0, 0, 0, 0x09, 0x0a, 0x0b, 0x0c, 0x0d, 0x0e, 0x0f, 0x10, 0x11, 0x12, 0x13, 0x14,
	0, 0, 0, 0, 0x15, 0x16, 0x17, 0x18, 0x19, 0x1a, 0x1b, 0x1c, 0x1d, 0x1e, 0x1f, 0x20,
	0x21, 0x22, 0x23, 0x24, 0x25, 0x26, 0x27, 0x28, 0x29, 0x2a, 0x2b, 0x2c, 0x2d, 0x2e, 0x2f, 0x30,
}

// asyncOf tells a head with the flag Async, and with n as its Async in place of its Tree.
func asyncOf(h api.Head, n uint64) api.Head {
	h.Flags |= api.FlagAsync
	h.Tree, h.Async = 0, n
	return h
}

// laid tells the bytes of a head, by the language's own library.
func laid(h api.Head) []byte {
	le := binary.LittleEndian
	b := []byte{0xfe, 'S', 'M', 'B', 64, 0}
	b = le.AppendUint16(b, h.Charge)
	b = le.AppendUint32(b, h.Status)
	b = le.AppendUint16(b, uint16(h.Command))
	b = le.AppendUint16(b, h.Credits)
	b = le.AppendUint32(b, h.Flags)
	b = le.AppendUint32(b, h.Next)
	b = le.AppendUint64(b, h.Id)
	if h.Flags&2 == 2 {
		b = le.AppendUint64(b, h.Async)
	} else {
		b = le.AppendUint32(b, 0)
		b = le.AppendUint32(b, h.Tree)
	}
	b = le.AppendUint64(b, h.Session)
	return append(b, h.Signature[:]...)
}

// ofWidth are numbers of so many bits: both ends, each single bit, and bytes that are all different.
func ofWidth(bits int) []uint64 {
	most := uint64(math.MaxUint64) >> (64 - bits)
	l := []uint64{0, 1, most, most - 1, most>>1 + 1, 0x0807060504030201 & most, 0xf1e2d3c4b5a69788 & most}
	for i := range bits {
		l = append(l, 1<<i)
	}
	return l
}

// mayBe are heads that may be: the zero one and full ones, and these with one field at a time at each of its numbers.
func mayBe() []api.Head {
	var l []api.Head
	for _, h := range []api.Head{{}, full, asyncOf(api.Head{}, 0), asyncOf(full, 0x1817161514131211)} {
		l = append(l, h)
		each := func(bits int, change func(h *api.Head, n uint64)) {
			for _, n := range ofWidth(bits) {
				one := h
				change(&one, n)
				l = append(l, one)
			}
		}
		each(16, func(h *api.Head, n uint64) { h.Charge = uint16(n) })
		each(32, func(h *api.Head, n uint64) { h.Status = uint32(n) })
		each(16, func(h *api.Head, n uint64) { h.Credits = uint16(n) })
		each(32, func(h *api.Head, n uint64) { h.Next = uint32(n) })
		each(64, func(h *api.Head, n uint64) { h.Id = n })
		each(64, func(h *api.Head, n uint64) { h.Session = n })
		if h.Flags&2 == 2 {
			each(64, func(h *api.Head, n uint64) { h.Async = n })
		} else {
			each(32, func(h *api.Head, n uint64) { h.Tree = uint32(n) })
		}
		for i := range h.Signature {
			each(8, func(h *api.Head, n uint64) { h.Signature[i] = byte(n) })
		}
		for _, c := range commands {
			one := h
			one.Command = c
			l = append(l, one)
		}
		for flags := range uint32(16) {
			one := h
			if one.Flags&2 != flags&2 {
				one.Tree, one.Async = 0, 0
			}
			one.Flags = flags
			l = append(l, one)
		}
	}
	all := api.Head{Charge: math.MaxUint16, Status: math.MaxUint32, Command: api.BreakIt, Credits: math.MaxUint16, Flags: 13, Next: math.MaxUint32, Id: math.MaxUint64, Tree: math.MaxUint32, Session: math.MaxUint64}
	copy(all.Signature[:], bytes.Repeat([]byte{255}, 16))
	return append(l, all, asyncOf(all, math.MaxUint64))
}

// mayNotBe are heads that may not be, for one reason alone and for several.
func mayNotBe() []api.Head {
	var l []api.Head
	for _, h := range []api.Head{{}, full, asyncOf(api.Head{}, 0), asyncOf(full, 1<<40)} {
		for _, c := range noCommands {
			one := h
			one.Command = c
			l = append(l, one)
		}
		for bit := 4; bit < 32; bit++ {
			one := h
			one.Flags |= 1 << bit
			l = append(l, one)
		}
		for _, flags := range noFlags {
			one := h
			one.Flags = flags
			l = append(l, one, api.Head{Flags: flags}, api.Head{Flags: flags, Command: 11})
		}
		for flags := range uint32(16) {
			for _, n := range ofWidth(64)[1:] {
				one := h
				one.Flags, one.Tree, one.Async = flags, uint32(n|1), n
				l = append(l, one)
				if flags&2 == 0 {
					one.Tree = 0
				} else {
					one.Async = 0
				}
				l = append(l, one)
			}
		}
	}
	return l
}

// refused tells that Get answers an error alone.
func refused(t *testing.T, why string, b []byte, at int, want api.Errno) {
	t.Helper()
	if h, e := Get(b, at); h != (api.Head{}) || e != want {
		t.Errorf("%s: Get(%x, %d) = %+v, %d; want %d", why, b, at, h, e, want)
	}
}

// P7.1, P7.2: the chapter's examples.
func TestExamples(t *testing.T) {
	zero, e := Put(api.Head{})
	if len(zero) != 64 || e != api.OK {
		t.Fatalf("Put(zero) = %x, %d", zero, e)
	}
	for _, h := range []api.Head{{Command: 11}, {Flags: 16}, {Flags: 2, Tree: 1}} {
		if b, e := Put(h); len(b) != 0 || e != api.ErrArg {
			t.Errorf("Put(%+v) = %x, %d; want ErrArg", h, b, e)
		}
	}
	refused(t, "63 bytes of it", zero[:63:63], 0, api.ErrShort)
	refused(t, "64 bytes 0", make([]byte, 64), 0, api.ErrForm)
}

// P7.1: each number that a command can have.
func TestKnown(t *testing.T) {
	for n := range 1 << 16 {
		c := api.Command(n)
		want := slices.Contains(commands, c)
		if got := Known(c); got != want {
			t.Errorf("Known(%d) = %t", c, got)
		}
		if got := May(api.Head{Command: c}); got != want {
			t.Errorf("May(Command %d) = %t", c, got)
		}
		if b, e := Put(api.Head{Command: c}); (e == api.OK) != want || (len(b) == 64) != want {
			t.Errorf("Put(Command %d) = %x, %d", c, b, e)
		}
	}
	for _, c := range noCommands {
		if Known(c) {
			t.Errorf("Known(%d)", c)
		}
	}
	named := []api.Command{api.Negotiate, api.Setup, api.Logoff, api.Connect, api.Disconnect, api.Create, api.Close, api.Flush, api.Read, api.Write, api.LockIt, api.Cancel, api.Echo, api.List, api.Query, api.Set, api.BreakIt}
	if !slices.Equal(named, commands) {
		t.Errorf("the commands are %d", named)
	}
}

// P7.1: the bytes of the chapter's table, place by place.
func TestPutPlaces(t *testing.T) {
	if b, e := Put(full); !bytes.Equal(b, fullBytes) || e != api.OK {
		t.Errorf("Put = %x, %d; want %x", b, e, fullBytes)
	}
	want := slices.Clone(fullBytes)
	want[16] = 11
	copy(want[32:], []byte{0x11, 0x12, 0x13, 0x14, 0x15, 0x16, 0x17, 0x18})
	if b, e := Put(asyncOf(full, 0x1817161514131211)); !bytes.Equal(b, want) || e != api.OK {
		t.Errorf("Put with Async = %x, %d; want %x", b, e, want)
	}
	if b, e := Put(api.Head{}); !bytes.Equal(b, append([]byte{0xfe, 0x53, 0x4d, 0x42, 64}, make([]byte, 59)...)) || e != api.OK {
		t.Errorf("Put(zero) = %x, %d", b, e)
	}
}

// P7.1: heads that may be, each field at its ends.
func TestMay(t *testing.T) {
	for _, h := range mayBe() {
		if !May(h) {
			t.Errorf("May(%+v): no", h)
		}
		if b, e := Put(h); !bytes.Equal(b, laid(h)) || e != api.OK {
			t.Errorf("Put(%+v) = %x, %d; want %x", h, b, e, laid(h))
		}
	}
}

// P7.1: heads that may not be.
func TestMayNot(t *testing.T) {
	for _, h := range mayNotBe() {
		if May(h) {
			t.Errorf("May(%+v)", h)
		}
		if b, e := Put(h); len(b) != 0 || e != api.ErrArg {
			t.Errorf("Put(%+v) = %x, %d; want ErrArg", h, b, e)
		}
	}
}

// P7.1: every sum of the flags, and each bit above them alone and beside each sum.
func TestFlags(t *testing.T) {
	for sum := range uint32(16) {
		if !May(api.Head{Flags: sum}) {
			t.Errorf("May(Flags %d): no", sum)
		}
		for bit := 4; bit < 32; bit++ {
			if May(api.Head{Flags: sum | 1<<bit}) || May(api.Head{Flags: 1 << bit}) {
				t.Errorf("May of the flags %d and the bit %d", sum, bit)
			}
		}
	}
}

// P7.1: Async and Tree, with the flag Async and without it, whatever other flags stand beside it.
func TestAsyncAndTree(t *testing.T) {
	for sum := range uint32(16) {
		is := sum&2 == 2
		for _, n := range ofWidth(64) {
			if got := May(api.Head{Flags: sum, Async: n}); got != (is || n == 0) {
				t.Errorf("May(Flags %d, Async %d) = %t", sum, n, got)
			}
			tree := uint32(n)
			if got := May(api.Head{Flags: sum, Tree: tree}); got != (!is || tree == 0) {
				t.Errorf("May(Flags %d, Tree %d) = %t", sum, tree, got)
			}
			if got := May(api.Head{Flags: sum, Tree: tree, Async: n}); got != (is && tree == 0 || !is && n == 0) {
				t.Errorf("May(Flags %d, Tree %d, Async %d) = %t", sum, tree, n, got)
			}
		}
	}
}

// P7.2: heads at the place 0, behind other bytes, with bytes behind them, and next to each other.
func TestGetPlaces(t *testing.T) {
	for _, h := range []api.Head{{}, full, asyncOf(full, 0x1817161514131211), asyncOf(api.Head{}, 0)} {
		for _, around := range []byte{0, 0xfe, 255} {
			for _, ahead := range []int{0, 1, 2, 7, 8, 63, 64, 65, 1000} {
				for _, behind := range []int{0, 1, 8, 63, 64, 200} {
					b := slices.Concat(bytes.Repeat([]byte{around}, ahead), laid(h), bytes.Repeat([]byte{around}, behind))
					if got, e := Get(b, ahead); got != h || e != api.OK {
						t.Errorf("Get with %d bytes ahead and %d behind = %+v, %d; want %+v", ahead, behind, got, e, h)
					}
				}
			}
		}
	}
	two := slices.Concat(laid(full), laid(asyncOf(full, 5)))
	if got, e := Get(two, 0); got != full || e != api.OK {
		t.Errorf("Get of the first one = %+v, %d", got, e)
	}
	if got, e := Get(two, 64); got != asyncOf(full, 5) || e != api.OK {
		t.Errorf("Get of the second one = %+v, %d", got, e)
	}
	refused(t, "between two heads", two, 1, api.ErrForm)
	refused(t, "into the second head", two, 63, api.ErrForm)
}

// P7.2: places that are none, whatever stands there, and how much of it.
func TestGetNoPlace(t *testing.T) {
	for _, b := range [][]byte{nil, {}, {1}, fullBytes[:63:63], fullBytes, append(slices.Clone(fullBytes), 1), bytes.Repeat(fullBytes, 3), make([]byte, 64)} {
		n := len(b)
		for _, at := range []int{-1, -2, -63, -64, -65, -n - 1, n + 1, n + 2, n + 64, 1 << 31, 1 << 40, math.MaxInt, math.MaxInt - 63, math.MinInt, math.MinInt + 1, math.MinInt + 64} {
			refused(t, "no place", b, at, api.ErrArg)
		}
		refused(t, "the length", b, n, api.ErrShort)
	}
}

// P7.2: as many bytes too few as can be, of a head and of what is none; the room behind the end is none of them.
func TestGetShort(t *testing.T) {
	for _, whole := range [][]byte{fullBytes, make([]byte, 64), bytes.Repeat([]byte{255}, 64)} {
		for n := range 64 {
			refused(t, "too few", whole[:n:n], 0, api.ErrShort)
			refused(t, "too few, with room behind", whole[:n], 0, api.ErrShort)
			b := append([]byte{1, 2, 3}, whole[:n]...)
			refused(t, "too few, behind others", b, 3, api.ErrShort)
		}
		for at := 1; at <= 64; at++ {
			refused(t, "not from the first one on", whole, at, api.ErrShort)
		}
	}
}

// P7.2: each of the bytes that stand ahead of the fields, wrong alone, by each other byte.
func TestGetFirstBytes(t *testing.T) {
	for _, h := range []api.Head{{}, full, asyncOf(full, 3)} {
		for i := range 6 {
			b := laid(h)
			right := b[i]
			for x := range 256 {
				b[i] = byte(x)
				if b[i] == right {
					continue
				}
				refused(t, "first bytes", b, 0, api.ErrForm)
				refused(t, "first bytes, behind another one", append([]byte{9}, b...), 1, api.ErrForm)
			}
		}
	}
}

// P7.2: the bytes ahead of Tree: 0 without the flag Async, and any with it.
func TestGetAheadOfTree(t *testing.T) {
	for sum := range uint32(16) {
		h := full
		h.Flags = sum
		for i := 32; i < 36; i++ {
			for x := 1; x < 256; x++ {
				if sum&2 == 2 {
					want := asyncOf(h, uint64(x)<<(8*(i-32)))
					if got, e := Get(laid(want), 0); got != want || e != api.OK {
						t.Errorf("Get of %+v = %+v, %d", want, got, e)
					}
					continue
				}
				b := laid(h)
				b[i] = byte(x)
				refused(t, "ahead of Tree", b, 0, api.ErrForm)
			}
		}
	}
}

// P7.2: commands and flags that are none, in bytes that come.
func TestGetNoCommandNoFlag(t *testing.T) {
	for n := range 1 << 16 {
		b := laid(full)
		binary.LittleEndian.PutUint16(b[12:], uint16(n))
		if !slices.Contains(commands, api.Command(n)) {
			refused(t, "command", b, 0, api.ErrForm)
			continue
		}
		want := full
		want.Command = api.Command(n)
		if got, e := Get(b, 0); got != want || e != api.OK {
			t.Errorf("Get of the command %d = %+v, %d", n, got, e)
		}
	}
	for _, h := range []api.Head{{}, full, asyncOf(api.Head{}, 0), asyncOf(full, 1)} {
		for bit := 4; bit < 32; bit++ {
			h.Flags |= 1 << bit
			refused(t, "flag", laid(h), 0, api.ErrForm)
			h.Flags &^= 1 << bit
		}
		for _, flags := range noFlags {
			h.Flags = flags
			refused(t, "flags", laid(h), 0, api.ErrForm)
		}
	}
}

// P7.2: which error comes first: the place, then how many bytes, then what they are.
func TestGetOrder(t *testing.T) {
	wrong := bytes.Repeat([]byte{0xaa}, 64)
	refused(t, "no place, too few, no head", wrong[:5:5], 6, api.ErrArg)
	refused(t, "no place, too few, no head", wrong[:5:5], -1, api.ErrArg)
	refused(t, "no place, no bytes", nil, 1, api.ErrArg)
	refused(t, "no place ahead of a head", fullBytes, -64, api.ErrArg)
	refused(t, "too few, no head", wrong[:63:63], 0, api.ErrShort)
	refused(t, "too few, no head", wrong, 1, api.ErrShort)
	refused(t, "no head", wrong, 0, api.ErrForm)
}

// P7.3: what is put is got, wherever it stands; two heads have two rows of bytes.
func TestPutIsGot(t *testing.T) {
	seen := map[string]api.Head{}
	for _, h := range mayBe() {
		b, e := Put(h)
		if e != api.OK {
			t.Fatalf("Put(%+v) = %d", h, e)
		}
		if got, e := Get(b, 0); got != h || e != api.OK {
			t.Errorf("Get of Put(%+v) = %+v, %d", h, got, e)
		}
		if got, e := Get(slices.Concat([]byte{1, 2, 3}, b, []byte{4}), 3); got != h || e != api.OK {
			t.Errorf("Get of Put(%+v), between others = %+v, %d", h, got, e)
		}
		if other, ok := seen[string(b)]; ok && other != h {
			t.Errorf("%+v and %+v are put as %x", h, other, b)
		}
		seen[string(b)] = h
	}
}

// P7.3: what is got is put as the same bytes: of a head's bytes with each byte at each number, either none is got, or one that is put so.
func TestGotIsPut(t *testing.T) {
	for _, h := range []api.Head{{}, full, asyncOf(api.Head{}, 0), asyncOf(full, 0xf1e2d3c4b5a69788)} {
		for i := range 64 {
			for x := range 256 {
				b := laid(h)
				b[i] = byte(x)
				got, e := Get(b, 0)
				if e != api.OK {
					if got != (api.Head{}) || e != api.ErrForm {
						t.Errorf("Get(%x) = %+v, %d", b, got, e)
					}
					continue
				}
				if !May(got) {
					t.Errorf("Get(%x) = %+v, which may not be", b, got)
				}
				if again, e := Put(got); !bytes.Equal(again, b) || e != api.OK {
					t.Errorf("Put of Get(%x) = %x, %d", b, again, e)
				}
			}
		}
	}
}

// P7.3: bytes that may be any are got: nothing of them is refused.
func TestGetAny(t *testing.T) {
	for _, h := range mayBe() {
		b := laid(h)
		for i := range 64 {
			free := i >= 6 && i < 12 || i >= 14 && i < 16 || i >= 20 && i < 32 || i >= 36 || i >= 32 && h.Flags&2 == 2
			if !free {
				continue
			}
			one := slices.Clone(b)
			one[i] ^= 0xff
			got, e := Get(one, 0)
			if e != api.OK || got == h || !bytes.Equal(laid(got), one) {
				t.Errorf("Get(%x), the byte %d of which is turned, = %+v, %d", one, i, got, e)
			}
		}
	}
}

// Rule 5: what is handed in stays as it is, the room behind its end too; what is answered is new memory.
func TestNewMemory(t *testing.T) {
	whole := slices.Concat([]byte{7, 7}, fullBytes, bytes.Repeat([]byte{9}, 100))
	for _, n := range []int{0, 1, 60, 66, 70, 166} {
		room := slices.Clone(whole)
		for at := -1; at <= n+1; at++ {
			Get(room[:n], at)
		}
		if !bytes.Equal(room, whole) {
			t.Errorf("Get of %d bytes left %x", n, room)
		}
	}
	h := full
	one, _ := Put(h)
	two, _ := Put(h)
	if h != full {
		t.Errorf("Put left %+v", h)
	}
	one = one[:cap(one)]
	for i := range one {
		one[i] = 0xee
	}
	if !bytes.Equal(two, fullBytes) || h != full {
		t.Errorf("two answers of Put share: %x", two)
	}
	three, _ := Put(h)
	got, _ := Get(three, 0)
	for i := range three {
		three[i] = 0xee
	}
	if got != full {
		t.Errorf("what Get answered shares with the bytes: %+v", got)
	}
}
