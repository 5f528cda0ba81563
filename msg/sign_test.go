package msg_test

import (
	"bytes"
	"crypto/hmac"
	"crypto/sha256"
	"math"
	"reflect"
	"slices"
	"testing"

	"refectory/api"
	"refectory/head"
	"refectory/msg"
)

// keys are of no byte, of one, of a session's many, of a block's many and of one more.
func keys() [][]byte {
	return [][]byte{nil, {}, {7}, some(16), some(64), some(65)}
}

// signedBytes tells bytes with the signature that the language's own library makes of them.
func signedBytes(b, key []byte) []byte {
	own := slices.Clone(b)
	copy(own[48:64], noughts(16))
	sum := hmac.New(sha256.New, key)
	sum.Write(own)
	copy(own[48:64], sum.Sum(nil))
	return own
}

// signed tells the message that is signed by a key, and its bytes.
func signed(x message, key []byte) message {
	h := x.m.Head
	h.Flags |= api.FlagSigned
	b := signedBytes(slices.Concat(headOf(h), x.b[64:]), key)
	h.Signature = [16]byte(b[48:64])
	return message{api.Msg{Head: h, Ask: x.m.Ask, Say: x.m.Say}, x.body, b}
}

// checkRefused tells that Checked answers an error alone.
func checkRefused(t *testing.T, why any, b, key []byte, want api.Errno) {
	t.Helper()
	if m, e := msg.Checked(b, key); e != want || !reflect.DeepEqual(m, api.Msg{}) {
		t.Errorf("%v: Checked(%s, %x) = %+v, %d; want %d alone", why, short(b), key, m.Head, e, want)
	}
}

// few are messages that ask, say and tell an error, of each layer, without a next one and with one.
func few() []message {
	var l []message
	for i, x := range smallBodies(60) {
		if i%3 == 0 {
			l = append(l, lay(heads()[i%24], x), lay(follow(heads()[(i+7)%24], 8), x))
		}
	}
	for i, c := range allCommands {
		l = append(l, telling(heads()[i%24], c, 5), telling(follow(heads()[(i+7)%24], 72), c, 5))
	}
	return l
}

// P11.3: Sign answers the bytes with the flag and the signature, whichever the head had; P11.5: Checked answers the message of them.
func TestSign(t *testing.T) {
	for i, x := range messages() {
		if i%3 != 0 {
			continue
		}
		key := keys()[i/3%len(keys())]
		want := signed(x, key)
		b, e := msg.Sign(x.m, key)
		if !bytes.Equal(b, want.b) || e != api.OK {
			t.Errorf("Sign(%+v, %x) = %s, %d; want %s", x.m.Head, key, short(b), e, short(want.b))
		}
		if m, e := msg.Checked(b, key); !same(m, want.m) || e != api.OK {
			t.Errorf("Checked of Sign of %+v, %x = %+v, %d; want %+v", x.m.Head, key, m.Head, e, want.m.Head)
		}
		if m, e := msg.Get(b); !same(m, want.m) || e != api.OK {
			t.Errorf("Get of Sign of %+v, %x = %+v, %d", x.m.Head, key, m.Head, e)
		}
		if again, e := msg.Sign(want.m, key); !bytes.Equal(again, b) || e != api.OK {
			t.Errorf("Sign of what is signed = %s, %d; want %s", short(again), e, short(b))
		}
	}
}

// P11.3: each key with each of few messages; of all others no key checks them.
func TestKeys(t *testing.T) {
	others := append(keys()[1:], some(17), some(15), some(63), some(66), append(some(16), 1), []byte{8})
	for _, x := range few() {
		for _, key := range keys() {
			want := signed(x, key)
			if b, e := msg.Sign(x.m, key); !bytes.Equal(b, want.b) || e != api.OK {
				t.Errorf("Sign(%+v, %x) = %s, %d", x.m.Head, key, short(b), e)
			}
			if m, e := msg.Checked(want.b, key); !same(m, want.m) || e != api.OK {
				t.Errorf("Checked(%s, %x) = %+v, %d", short(want.b), key, m.Head, e)
			}
			for _, other := range others {
				if !bytes.Equal(other, key) {
					checkRefused(t, "another key", want.b, other, api.ErrSum)
				}
			}
		}
	}
}

// P11.3: bytes whose head has not the flag, though they are signed; and those that have it, and are not.
func TestNotSigned(t *testing.T) {
	key := some(16)
	for _, x := range few() {
		h := x.m.Head
		h.Flags &^= api.FlagSigned
		bare := slices.Concat(headOf(h), x.b[64:])
		checkRefused(t, "no flag", bare, key, api.ErrSum)
		checkRefused(t, "no flag, and a signature", signedBytes(bare, key), key, api.ErrSum)
		h.Flags |= api.FlagSigned
		h.Signature = [16]byte{}
		checkRefused(t, "the Signature 0", slices.Concat(headOf(h), x.b[64:]), key, api.ErrSum)
		h.Signature = greatest.Signature
		checkRefused(t, "a Signature that is none", slices.Concat(headOf(h), x.b[64:]), key, api.ErrSum)
		// Signed ahead of the flag's being set.
		b := signedBytes(bare, key)
		b[16] |= api.FlagSigned
		checkRefused(t, "signed without the flag", b, key, api.ErrSum)
	}
}

// P11.3: one bit turned at each place of what is signed, also where it makes no head, no body, no padding.
func TestTurned(t *testing.T) {
	key := some(16)
	for _, x := range few() {
		b := signed(x, key).b
		for at := range b {
			for bit := range 8 {
				b[at] ^= 1 << bit
				want := api.ErrSum
				if _, e := head.Get(b, 0); e != api.OK {
					want = api.ErrForm
				}
				checkRefused(t, "a bit turned", b, key, want)
				b[at] ^= 1 << bit
			}
		}
		for cut := range b {
			want := api.ErrSum
			if cut < 64 {
				want = api.ErrShort
			}
			checkRefused(t, "cut", b[:cut], key, want)
			checkRefused(t, "cut", b[:cut:cut], key, want)
		}
		for _, behind := range [][]byte{{0}, {1}, noughts(8), b} {
			checkRefused(t, "left", slices.Concat(b, behind), key, api.ErrSum)
		}
	}
}

// P11.3: the order of Checked's errors: head's ahead of ErrSum, that ahead of Get's.
func TestCheckedOrder(t *testing.T) {
	key := some(16)
	asks := api.Head{Command: api.Echo, Flags: api.FlagSigned}
	for _, x := range []struct {
		h    api.Head
		b    []byte
		want api.Errno
	}{
		{asks, nil, api.ErrShort}, {asks, noughts(3), api.ErrShort}, {asks, noughts(5), api.ErrForm}, {asks, []byte{1, 0, 0, 0}, api.ErrForm},
		{follow(asks, 72), noughts(4), api.ErrForm}, {follow(asks, 72), noughts(7), api.ErrForm}, {follow(asks, 72), []byte{0, 0, 0, 0, 0, 0, 0, 1}, api.ErrForm},
		{api.Head{Command: api.Connect, Flags: api.FlagSigned}, le(uint16(514), noughts(514)), api.ErrLimit},
		{api.Head{Command: api.Write, Flags: api.FlagSigned}, le(noughts(16), uint32(32769)), api.ErrLimit},
		{api.Head{Command: api.Cancel, Flags: api.FlagSigned | api.FlagReply}, noughts(4), api.ErrForm},
		{api.Head{Command: api.Query, Flags: api.FlagSigned | api.FlagReply, Status: 1}, noughts(12), api.ErrForm},
		{api.Head{Command: api.Query, Flags: api.FlagSigned | api.FlagReply}, noughts(4), api.ErrShort},
	} {
		b := signedBytes(slices.Concat(headOf(x.h), x.b), key)
		checkRefused(t, "signed, and no body", b, key, x.want)
		getRefused(t, "signed, and no body", b, x.want)
		checkRefused(t, "not signed, and no body", b, some(15), api.ErrSum)
		b[16] &^= api.FlagSigned
		checkRefused(t, "no flag, and no body", signedBytes(b, key), key, api.ErrSum)
		b[12] = 11
		checkRefused(t, "no head", signedBytes(b, key), key, api.ErrForm)
		checkRefused(t, "no head, and not signed", b, key, api.ErrForm)
		checkRefused(t, "a head that is cut", signedBytes(b, key)[:63], key, api.ErrShort)
	}
	for n := range 64 {
		checkRefused(t, "too few bytes", noughts(n), key, api.ErrShort)
	}
	checkRefused(t, "noughts", noughts(68), key, api.ErrForm)
}

// P11.3: what may be without the flag, or with another Signature, is signed; what may not be with the flag is not.
func TestSignMayBe(t *testing.T) {
	for _, flags := range []uint32{0, api.FlagSigned} {
		m := api.Msg{Head: api.Head{Command: api.Echo, Flags: flags, Signature: greatest.Signature}}
		b, e := msg.Sign(m, nil)
		if want := signed(message{m: m, b: noughts(68)}, nil).b; !bytes.Equal(b, want) || e != api.OK {
			t.Errorf("Sign of flags %d = %x, %d; want %x", flags, b, e, want)
		}
		m.Head.Flags |= 16
		putRefused(t, "a flag that is none", m, api.ErrArg)
	}
}

// P11.4: what the head of a Reply has of h's, whichever flags that has.
func TestAnswer(t *testing.T) {
	for flags := range uint32(16) {
		for _, h := range []api.Head{{}, full, greatest, {Charge: 1}, {Credits: 1}, {Id: 1}, {Session: 1}, {Tree: 1}, {Async: 1}, {Next: 1}, {Status: 1}, {Command: api.BreakIt}, {Signature: [16]byte{1}}} {
			h.Flags = flags
			for _, status := range []api.Errno{api.OK, 1, api.ErrWait, 255, 256, math.MaxUint32} {
				want := api.Head{Charge: h.Charge, Status: uint32(status), Command: h.Command, Flags: 1, Id: h.Id, Tree: h.Tree, Session: h.Session}
				if flags&4 != 0 {
					want.Flags = 5
				}
				if flags&2 != 0 {
					want.Tree = 0
				}
				if a := msg.Answer(h, status); a != want {
					t.Errorf("Answer(%+v, %d) = %+v; want %+v", h, status, a, want)
				}
			}
		}
	}
}

// P11.4: each field by itself, at each of its bits: those of an answer hang on h's own alone.
func TestAnswerFields(t *testing.T) {
	kept := []string{"Charge", "Command", "Id", "Tree", "Session"}
	for i := range reflect.TypeFor[api.Head]().NumField() {
		name := reflect.TypeFor[api.Head]().Field(i).Name
		h := api.Head{}
		change(&h, i, func() {
			want := api.Head{}
			if slices.Contains(kept, name) {
				want = h
			}
			want.Flags = 1 | h.Flags&4
			if a := msg.Answer(h, api.OK); a != want {
				t.Errorf("Answer(%+v, 0) = %+v; want %+v", h, a, want)
			}
		})
	}
}

// P11.4: a head that may not be is answered as it is, but for what an answer does not have.
func TestAnswerMayNotBe(t *testing.T) {
	for _, c := range noCommands {
		h := greatest
		h.Command, h.Flags, h.Async, h.Next, h.Status = c, math.MaxUint32&^2, 9, 8, 7
		want := api.Head{Charge: h.Charge, Status: 5, Command: c, Flags: 5, Id: h.Id, Tree: h.Tree, Session: h.Session}
		if a := msg.Answer(h, 5); a != want {
			t.Errorf("Answer(%+v, 5) = %+v; want %+v", h, a, want)
		}
		h.Flags |= 2
		want.Tree = 0
		if a := msg.Answer(h, 5); a != want {
			t.Errorf("Answer(%+v, 5) = %+v; want %+v", h, a, want)
		}
	}
}

// P11.5: the Answer of a head that may be, may be; and so it is put, as what tells an error.
func TestAnswerMayBe(t *testing.T) {
	for _, h := range heads() {
		for _, c := range allCommands {
			for _, flags := range []uint32{0, api.FlagReply} {
				h := follow(h, 8)
				h.Command, h.Status = c, 7
				h.Flags |= flags
				if !head.May(h) {
					t.Fatalf("%+v may not be", h)
				}
				for _, status := range []api.Errno{api.OK, 1, api.ErrWait, math.MaxUint32} {
					if a := msg.Answer(h, status); !head.May(a) {
						t.Errorf("Answer(%+v, %d) = %+v may not be", h, status, a)
					}
				}
				a := msg.Answer(h, api.ErrDrop)
				x := message{m: api.Msg{Head: a}, b: slices.Concat(headOf(a), noughts(4))}
				isPut(t, x)
				isGot(t, x)
			}
		}
	}
}
