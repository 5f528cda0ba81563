package chain_test

import (
	"bytes"
	"crypto/hmac"
	"crypto/sha256"
	"encoding/binary"
	"fmt"
	"math"
	"slices"
	"testing"

	"refectory/api"
	"refectory/chain"
	"refectory/head"
	"refectory/msg"
)

// some tells n bytes that are not all the same, none of them 0.
func some(n int) []byte {
	b := make([]byte, n)
	for i := range b {
		b[i] = byte(1 + (i*7+i>>8)%255)
	}
	return b
}

// of tells a message of a head, with n bytes behind it: a chain does not ask whether they are a body.
func of(h api.Head, n int) []byte {
	b, e := head.Put(h)
	if e != api.OK {
		panic(e)
	}
	return append(b, some(n)...)
}

// put tells the bytes of a message.
func put(m api.Msg) []byte {
	b, e := msg.Put(m)
	if e != api.OK {
		panic(e)
	}
	return b
}

// echo is 68 bytes.
func echo() []byte {
	return put(api.Msg{Head: api.Head{Command: api.Echo}})
}

// full has another byte in each place, but of Next.
var full = api.Head{
	Charge: 0x0201, Status: 0x06050403, Command: api.Set, Credits: 0x0807, Id: 0x14131211100f0e0d, Tree: 0x18171615, Session: 0x201f1e1d1c1b1a19,
	Signature: [16]byte{0x21, 0x22, 0x23, 0x24, 0x25, 0x26, 0x27, 0x28, 0x29, 0x2a, 0x2b, 0x2c, 0x2d, 0x2e, 0x2f, 0x30},
}

// heads may be, of no Next, the first one's not Related: with each sum of the flags, with the least and the greatest numbers.
func heads() []api.Head {
	var l []api.Head
	for _, h := range []api.Head{{}, full, {Charge: math.MaxUint16, Status: math.MaxUint32, Command: api.BreakIt, Credits: math.MaxUint16, Id: math.MaxUint64, Tree: math.MaxUint32, Session: math.MaxUint64, Signature: [16]byte(bytes.Repeat([]byte{255}, 16))}} {
		for flags := range uint32(16) {
			one := h
			one.Flags = flags
			if flags&api.FlagAsync != 0 {
				one.Tree, one.Async = 0, h.Id
			}
			l = append(l, one)
		}
	}
	return l
}

// unrelated tells a head without the flag Related, as the first one of a chain has it.
func unrelated(h api.Head) api.Head {
	h.Flags &^= api.FlagRelated
	return h
}

// lists are those of messages: of each number of them, with heads of all kinds, the first one's not Related, and each with each number of bytes, modulo 8 and none at all, in each place.
func lists() [][][]byte {
	var l [][][]byte
	turn := 0
	for many := 1; many <= 8; many++ {
		for shift := range 17 {
			messages := make([][]byte, many)
			for i := range messages {
				h := heads()[turn%48]
				if i == 0 {
					h = unrelated(h)
				}
				messages[i] = of(h, (shift+i*5)%17)
				turn++
			}
			l = append(l, messages)
		}
	}
	return l
}

// fill tells a list of n Echos, with m in a place of it.
func fill(n, at int, m []byte) [][]byte {
	l := make([][]byte, n)
	for i := range l {
		l[i] = echo()
	}
	l[at] = m
	return l
}

// withNext tells a message with another Next, whether that is so or not.
func withNext(m []byte, next uint32) []byte {
	own := slices.Clone(m)
	binary.LittleEndian.PutUint32(own[20:], next)
	return own
}

// withFlags tells a message with some flags more.
func withFlags(m []byte, flags uint32) []byte {
	own := slices.Clone(m)
	binary.LittleEndian.PutUint32(own[16:], binary.LittleEndian.Uint32(own[16:])|flags)
	return own
}

// padded tells a message with as few noughts behind it as make a multiple of 8.
func padded(m []byte) []byte {
	return slices.Concat(m, make([]byte, (8-len(m)%8)%8))
}

// laidParts tells what the parts of the chain of messages are.
func laidParts(l ...[]byte) [][]byte {
	parts := slices.Clone(l)
	for i, m := range l[:len(l)-1] {
		parts[i] = padded(m)
		parts[i] = withNext(parts[i], uint32(len(parts[i])))
	}
	return parts
}

// signed tells a part with the flag, and with the signature that the language's own library makes of it.
func signed(key, part []byte) []byte {
	own := withFlags(part, api.FlagSigned)
	clear(own[48:64])
	sum := hmac.New(sha256.New, key)
	sum.Write(own)
	copy(own[48:64], sum.Sum(nil))
	return own
}

// keys are of no byte, of one, of a session's many, of a block's many and of one more.
func keys() [][]byte {
	return [][]byte{nil, {}, {0}, {7}, some(16), some(63), some(64), some(65), some(200)}
}

// spoilt is bytes that begin with no head, and head's error of them.
type spoilt struct {
	why string
	b   []byte
	e   api.Errno
}

// noHeads are made of a message by each way that the head's layer names, but by cutting it.
func noHeads(m []byte) []spoilt {
	var l []spoilt
	with := func(why string, change func(b []byte)) {
		own := slices.Clone(m)
		change(own)
		l = append(l, spoilt{why, own, api.ErrForm})
	}
	for i := range 6 {
		for bit := range 8 {
			with(fmt.Sprint("byte ", i), func(b []byte) { b[i] ^= 1 << bit })
		}
	}
	for _, c := range []uint16{11, 15, 19, 20, 255, 256, 261, 269, 32768, 65535} {
		with(fmt.Sprint("Command ", c), func(b []byte) { binary.LittleEndian.PutUint16(b[12:], c) })
	}
	for bit := 4; bit < 32; bit++ {
		with(fmt.Sprint("flag ", bit), func(b []byte) { b[16+bit/8] |= 1 << (bit % 8) })
	}
	for i := 32; i < 36; i++ {
		with(fmt.Sprint("0 at ", i), func(b []byte) { b[16], b[i] = b[16]&^api.FlagAsync, 1 })
	}
	with("noughts", func(b []byte) { clear(b[:64]) })
	return l
}

// cuts are a message's first bytes, fewer than a head has.
func cuts(m []byte) []spoilt {
	var l []spoilt
	for n := range 64 {
		l = append(l, spoilt{fmt.Sprint("cut at ", n), m[:n:n], api.ErrShort}, spoilt{fmt.Sprint("cut at ", n), m[:n], api.ErrShort})
	}
	return l
}

// sameParts tells whether two lists have the same bytes, part by part.
func sameParts(a, b [][]byte) bool {
	return slices.EqualFunc(a, b, bytes.Equal)
}

// short tells bytes, or the first of many.
func short(b []byte) string {
	if len(b) > 100 {
		return fmt.Sprintf("%x.. (%d)", b[:100], len(b))
	}
	return fmt.Sprintf("%x", b)
}

// The lists above have, of each number of messages, each number of bytes modulo 8 in each place, and just a head's.
func TestLists(t *testing.T) {
	type place struct{ many, at int }
	has := map[place]map[int]bool{}
	for _, l := range lists() {
		for at, m := range l {
			p := place{len(l), at}
			if has[p] == nil {
				has[p] = map[int]bool{}
			}
			has[p][len(m)%8] = true
			has[p][len(m)] = true
		}
	}
	for many := 1; many <= 8; many++ {
		for at := range many {
			for _, n := range []int{0, 1, 2, 3, 4, 5, 6, 7, 64} {
				if !has[place{many, at}][n] {
					t.Errorf("of %d messages none has %d bytes in the place %d", many, n, at)
				}
			}
		}
	}
}

// P12.1, P12.2: the chapter's examples.
func TestExamples(t *testing.T) {
	b, e := chain.Join(echo(), echo())
	if len(b) != 140 || e != api.OK {
		t.Fatalf("Join(an Echo, an Echo) = %x, %d", b, e)
	}
	parts, e := chain.Split(b)
	if len(parts) != 2 || len(parts[0]) != 72 || len(parts[1]) != 68 || e != api.OK {
		t.Errorf("Split(that) = %x, %d", parts, e)
	}
	splitRefused(t, "none", nil, api.ErrShort)
	joinRefused(t, "none", nil, api.ErrArg)
}
