package chain_test

import (
	"bytes"
	"math"
	"slices"
	"testing"

	"refectory/api"
	"refectory/chain"
	"refectory/mac"
	"refectory/msg"
)

// joinRefused tells that Join, and Seal with each key, answer an error alone.
func joinRefused(t *testing.T, why any, l [][]byte, want api.Errno) {
	t.Helper()
	if b, e := chain.Join(l...); len(b) != 0 || e != want {
		t.Errorf("%v: Join = %s, %d; want %d alone", why, short(b), e, want)
	}
	for _, key := range keys() {
		if b, e := chain.Seal(key, l...); len(b) != 0 || e != want {
			t.Errorf("%v: Seal(%x) = %s, %d; want %d alone", why, key, short(b), e, want)
		}
	}
}

// isJoined tells that Join, and Seal with no key, answer the chain of messages.
func isJoined(t *testing.T, why any, l [][]byte) {
	t.Helper()
	want := slices.Concat(laidParts(l...)...)
	if b, e := chain.Join(l...); !bytes.Equal(b, want) || e != api.OK {
		t.Errorf("%v: Join = %s, %d; want %s", why, short(b), e, short(want))
	}
	for _, key := range [][]byte{nil, {}} {
		if b, e := chain.Seal(key, l...); !bytes.Equal(b, want) || e != api.OK {
			t.Errorf("%v: Seal of no key = %s, %d; want %s", why, short(b), e, short(want))
		}
	}
}

// P12.1, P12.2: a chain byte by byte: a Connect, a Related Query and a Cancel, of 70, 72 and 68 bytes.
func TestBytes(t *testing.T) {
	l := [][]byte{
		put(api.Msg{Head: api.Head{Command: api.Connect, Id: 1}, Ask: api.Ask{Share: "ab"}}),
		put(api.Msg{Head: api.Head{Command: api.Query, Flags: api.FlagRelated, Id: 2}, Ask: api.Ask{File: 3}}),
		put(api.Msg{Head: api.Head{Command: api.Cancel, Id: 4}}),
	}
	want := []byte{
		0xfe, 'S', 'M', 'B', 64, 0, 0, 0, 0, 0, 0, 0, 3, 0, 0, 0, 0, 0, 0, 0, 72, 0, 0, 0, 1, 0, 0, 0, 0, 0, 0, 0,
		0, 0, 0, 0, 0, 0, 0, 0, 0, 0, 0, 0, 0, 0, 0, 0, 0, 0, 0, 0, 0, 0, 0, 0, 0, 0, 0, 0, 0, 0, 0, 0,
		4, 0, 'a', 0, 'b', 0, 0, 0,
		0xfe, 'S', 'M', 'B', 64, 0, 0, 0, 0, 0, 0, 0, 16, 0, 0, 0, 4, 0, 0, 0, 72, 0, 0, 0, 2, 0, 0, 0, 0, 0, 0, 0,
		0, 0, 0, 0, 0, 0, 0, 0, 0, 0, 0, 0, 0, 0, 0, 0, 0, 0, 0, 0, 0, 0, 0, 0, 0, 0, 0, 0, 0, 0, 0, 0,
		3, 0, 0, 0, 0, 0, 0, 0,
		0xfe, 'S', 'M', 'B', 64, 0, 0, 0, 0, 0, 0, 0, 12, 0, 0, 0, 0, 0, 0, 0, 0, 0, 0, 0, 4, 0, 0, 0, 0, 0, 0, 0,
		0, 0, 0, 0, 0, 0, 0, 0, 0, 0, 0, 0, 0, 0, 0, 0, 0, 0, 0, 0, 0, 0, 0, 0, 0, 0, 0, 0, 0, 0, 0, 0,
		0, 0, 0, 0,
	}
	if b, e := chain.Join(l...); !bytes.Equal(b, want) || e != api.OK {
		t.Errorf("Join = %x, %d; want %x", b, e, want)
	}
	parts, e := chain.Split(want)
	if !sameParts(parts, [][]byte{want[:72], want[72:144], want[144:]}) || e != api.OK {
		t.Errorf("Split = %x, %d", parts, e)
	}
}

// P12.1: each number of messages, each of them with each number of bytes modulo 8.
func TestJoin(t *testing.T) {
	for i, l := range lists() {
		isJoined(t, i, l)
	}
}

// P12.1: a Next has four bytes.
func TestJoinLong(t *testing.T) {
	for _, n := range []int{191, 192, 193, 1000, 65535 - 64, 65536 - 64, 65537 - 64, 1 << 20, 1<<24 - 64, 1<<24 + 5} {
		isJoined(t, n, [][]byte{of(api.Head{}, n), echo()})
		isJoined(t, n, [][]byte{echo(), of(full, n), of(full, n), echo()})
	}
}

// P12.1, P12.4: the chain of one message is it, whatever it has behind its head.
func TestJoinOne(t *testing.T) {
	for _, h := range heads() {
		for n := range 17 {
			m := of(h, n)
			if b, e := chain.Join(m); !bytes.Equal(b, m) || e != api.OK {
				t.Errorf("Join(%x) = %x, %d", m, b, e)
			}
			if b, e := chain.Seal(nil, m); !bytes.Equal(b, m) || e != api.OK {
				t.Errorf("Seal(none, %x) = %x, %d", m, b, e)
			}
		}
	}
}

// P12.1: what is Related stays so; Join names no error of a first one that is.
func TestJoinRelated(t *testing.T) {
	for many := 1; many <= 8; many++ {
		for at := range many {
			isJoined(t, at, fill(many, at, withFlags(echo(), api.FlagRelated)))
		}
		isJoined(t, many, slices.Repeat([][]byte{withFlags(echo(), api.FlagRelated)}, many))
	}
}

// P12.1: no message at all; and messages of no byte.
func TestJoinNothing(t *testing.T) {
	joinRefused(t, "nil", nil, api.ErrArg)
	joinRefused(t, "no message", [][]byte{}, api.ErrArg)
	for many := 1; many <= 10; many++ {
		joinRefused(t, "messages of no byte", make([][]byte, many), api.ErrArg)
	}
}

// P12.1: what is no message, in each place, also among nine: that is told ahead of there being too many.
func TestJoinNoMessage(t *testing.T) {
	for _, many := range []int{1, 2, 3, 8, 9, 10} {
		for _, at := range []int{0, many / 2, many - 1} {
			for _, m := range [][]byte{echo(), of(full, 9)} {
				for _, x := range slices.Concat(noHeads(m), cuts(m)) {
					joinRefused(t, x.why, fill(many, at, x.b), api.ErrArg)
				}
			}
		}
	}
	for many := 9; many <= 12; many++ {
		for at := range many {
			joinRefused(t, "cut, among too many", fill(many, at, echo()[:63]), api.ErrArg)
			joinRefused(t, "noughts, among too many", fill(many, at, make([]byte, 68)), api.ErrArg)
		}
	}
}

// P12.1: a message whose Next is above 0, even if it is what the chain would have there.
func TestJoinNext(t *testing.T) {
	for _, next := range []uint32{1, 7, 8, 56, 63, 64, 68, 72, 140, 255, 256, 1 << 16, 1 << 24, 1 << 31, math.MaxUint32 - 7, math.MaxUint32} {
		for _, many := range []int{1, 2, 3, 8, 9} {
			for at := range many {
				joinRefused(t, next, fill(many, at, withNext(echo(), next)), api.ErrArg)
				joinRefused(t, next, fill(many, at, withNext(of(full, 8), next)), api.ErrArg)
			}
		}
	}
}

// P12.1: the limit itself is allowed, one more is not.
func TestJoinLimit(t *testing.T) {
	isJoined(t, 8, slices.Repeat([][]byte{echo()}, 8))
	for many := 9; many <= 20; many++ {
		joinRefused(t, many, slices.Repeat([][]byte{echo()}, many), api.ErrLimit)
		joinRefused(t, many, slices.Repeat([][]byte{of(api.Head{}, 0)}, many), api.ErrLimit)
		joinRefused(t, many, slices.Repeat([][]byte{withFlags(echo(), api.FlagRelated)}, many), api.ErrLimit)
	}
	joinRefused(t, "very many", slices.Repeat([][]byte{echo()}, 1000), api.ErrLimit)
}

// P12.3: each part has the flag, and is signed as it stands, by each key, whatever flag and Signature it had; by a key of no byte none is.
func TestSeal(t *testing.T) {
	for i, l := range lists() {
		for j, key := range keys() {
			want := laidParts(l...)
			if len(key) > 0 {
				for k, p := range want {
					want[k] = signed(key, p)
				}
			}
			b, e := chain.Seal(key, l...)
			if !bytes.Equal(b, slices.Concat(want...)) || e != api.OK {
				t.Errorf("Seal(%x) of the list %d = %s, %d; want %s", keys()[j], i, short(b), e, short(slices.Concat(want...)))
			}
		}
	}
}

// P12.3: what is Related is sealed as it is joined, the first one too.
func TestSealRelated(t *testing.T) {
	m := withFlags(echo(), api.FlagRelated)
	for _, l := range [][][]byte{{m}, {m, m}, {m, echo()}, {echo(), m, echo()}} {
		want := laidParts(l...)
		for i, p := range want {
			want[i] = signed(some(16), p)
		}
		if b, e := chain.Seal(some(16), l...); !bytes.Equal(b, slices.Concat(want...)) || e != api.OK {
			t.Errorf("Seal = %s, %d; want %s", short(b), e, short(slices.Concat(want...)))
		}
	}
}

// P12.4: Split of Seal has as many parts, each of which the key checks, and no other key; what is turned in any byte of it, its Next and its padding too, the key does not.
func TestSealChecked(t *testing.T) {
	for i, l := range lists() {
		if i%5 != 0 {
			continue
		}
		for _, key := range keys()[2:] {
			b, _ := chain.Seal(key, l...)
			parts, e := chain.Split(b)
			if len(parts) != len(l) || e != api.OK {
				t.Fatalf("Split of Seal: %d parts, %d; want %d", len(parts), e, len(l))
			}
			for _, p := range parts {
				if mac.Check(key, p) != api.OK || p[16]&api.FlagSigned == 0 {
					t.Errorf("%s is not signed by %x", short(p), key)
				}
				if mac.Check(append(some(3), key...), p) != api.ErrSum {
					t.Errorf("%s is signed by another key", short(p))
				}
				for at := range p {
					if at < 48 || at >= 64 {
						p[at]++
						if mac.Check(key, p) != api.ErrSum {
							t.Errorf("the byte %d is not signed", at)
						}
						p[at]--
					}
				}
			}
		}
	}
}

// real are messages as layer 11 has them.
func real() []api.Msg {
	return []api.Msg{
		{Head: api.Head{Command: api.Create, Id: 1, Session: 5, Tree: 6}, Ask: api.Ask{Access: 1, Sharing: 7, Way: 1, Name: "a"}},
		{Head: api.Head{Command: api.Read, Flags: api.FlagRelated, Id: 2, Session: 5, Tree: 6}, Ask: api.Ask{File: math.MaxUint64, N: 9}},
		{Head: api.Head{Command: api.Write, Flags: api.FlagRelated, Id: 3, Session: 5, Tree: 6}, Ask: api.Ask{File: math.MaxUint64, Data: some(5)}},
		{Head: api.Head{Command: api.Close, Flags: api.FlagRelated, Id: 4, Session: 5, Tree: 6}, Ask: api.Ask{File: math.MaxUint64}},
	}
}

// P12.3, P12.4: what is sealed of messages comes back as they are, part by part, with padding and Next.
func TestSealOfMessages(t *testing.T) {
	key := some(16)
	for many := 1; many <= 4; many++ {
		var l [][]byte
		for _, m := range real()[:many] {
			l = append(l, put(m))
		}
		joined, _ := chain.Join(l...)
		sealed, _ := chain.Seal(key, l...)
		bare, _ := chain.Split(joined)
		parts, _ := chain.Split(sealed)
		for i, m := range real()[:many] {
			got, e := msg.Get(bare[i])
			got.Head.Next = 0
			if again := put(got); !bytes.Equal(again, l[i]) || e != api.OK {
				t.Errorf("the part %d of %d is %+v, %d; want %+v", i, many, got, e, m)
			}
			got, e = msg.Checked(parts[i], key)
			got.Head.Next, got.Head.Flags, got.Head.Signature = 0, m.Head.Flags, [16]byte{}
			if again := put(got); !bytes.Equal(again, l[i]) || e != api.OK {
				t.Errorf("the sealed part %d of %d is %+v, %d; want %+v", i, many, got, e, m)
			}
		}
	}
}

// P12.3: sealed again by another key, each part alone, it has that key's signature.
func TestSealAgain(t *testing.T) {
	for _, h := range heads() {
		for _, key := range keys()[2:] {
			once, _ := chain.Seal(key, of(h, 5))
			again, e := chain.Seal(some(17), once)
			if want := signed(some(17), of(h, 5)); !bytes.Equal(again, want) || e != api.OK {
				t.Errorf("Seal of Seal = %x, %d; want %x", again, e, want)
			}
			same, e := chain.Seal(key, once)
			if !bytes.Equal(same, once) || e != api.OK {
				t.Errorf("Seal of Seal by the same key = %x, %d; want %x", same, e, once)
			}
			none, e := chain.Seal(nil, once)
			if !bytes.Equal(none, once) || e != api.OK {
				t.Errorf("Seal of Seal by no key = %x, %d; want %x", none, e, once)
			}
		}
	}
}
