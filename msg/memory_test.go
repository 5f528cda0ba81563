package msg_test

import (
	"bytes"
	"reflect"
	"slices"
	"testing"

	"refectory/api"
	"refectory/msg"
)

// spoil makes each byte of b, and of the room behind its end, another one.
func spoil(b []byte) {
	b = b[:cap(b)]
	for i := range b {
		b[i] ^= 0x5a
	}
}

// spoilLists makes each element of a message's lists, and of the room behind their ends, another one.
func spoilLists(m api.Msg) {
	spoil(m.Ask.Data)
	spoil(m.Say.Data)
	for i := range m.Ask.Dialects[:cap(m.Ask.Dialects)] {
		m.Ask.Dialects[:i+1][i] ^= 0x5a5a
	}
	for i := range m.Ask.Locks[:cap(m.Ask.Locks)] {
		m.Ask.Locks[:i+1][i] = api.Lock{Open: 9, At: 9, N: 9, Mode: 9}
	}
	for i := range m.Say.Entries[:cap(m.Say.Entries)] {
		m.Say.Entries[:i+1][i] = api.Entry{Name: "another one", Stat: api.Stat{Kind: 9, Size: -1}}
	}
}

// roomy tells a list's elements in new memory, and the whole of it, with room behind them that is not zero.
func roomy[T any](l []T, behind T) (list, whole []T) {
	whole = slices.Concat(l, slices.Repeat([]T{behind}, 12))
	return whole[:len(l)], whole
}

// copied tells a message in new memory, with room behind its lists, and all of that memory.
func copied(m api.Msg) (api.Msg, []any) {
	var dialects, askData, locks, sayData, entries any
	m.Ask.Dialects, dialects = roomy(m.Ask.Dialects, 0xeeee)
	m.Ask.Data, askData = roomy(m.Ask.Data, 0xee)
	m.Ask.Locks, locks = roomy(m.Ask.Locks, api.Lock{At: 0xee})
	m.Say.Data, sayData = roomy(m.Say.Data, 0xee)
	m.Say.Entries, entries = roomy(m.Say.Entries, api.Entry{Name: "behind"})
	return m, []any{dialects, askData, locks, sayData, entries}
}

// refused are messages that are not put, with lists in them: by the head, by what is asked or said beside it, and by a body.
func refused() []api.Msg {
	lists := api.Ask{Dialects: []uint16{1, 2}, Data: some(9), Locks: []api.Lock{{Open: 1, At: 2}, {N: 3}}}
	said := api.Say{Data: some(9), Entries: []api.Entry{{Name: "a"}, {Stat: api.Stat{Kind: 3}}}}
	var l []api.Msg
	for _, c := range slices.Concat(allCommands, noCommands) {
		for _, h := range []api.Head{{}, {Flags: api.FlagReply}, {Flags: api.FlagReply, Status: 1}, {Flags: 16}, {Next: 8}} {
			h.Command = c
			l = append(l, api.Msg{Head: h, Ask: lists, Say: said}, api.Msg{Head: h, Ask: lists}, api.Msg{Head: h, Say: said})
		}
	}
	return l
}

// Rule 5: the lists of a message, and the key, stay as they are, the room behind their ends too, whether it is put or refused.
func TestListsStay(t *testing.T) {
	l := refused()
	for _, x := range few() {
		l = append(l, x.m)
	}
	for _, x := range bodies() {
		l = append(l, lay(full, x).m, lay(follow(full, 8), x).m)
	}
	for i, m := range l {
		given, whole := copied(m)
		_, before := copied(m)
		key, wholeKey := roomy(keys()[i%len(keys())], 0xee)
		keyBefore := slices.Clone(wholeKey)
		msg.Put(given)
		msg.Sign(given, key)
		if !reflect.DeepEqual(whole, before) || !bytes.Equal(wholeKey, keyBefore) {
			t.Errorf("of the lists of %+v, or of the key, is left something else", m.Head)
		}
	}
}

// Rule 5: bytes and keys that are handed in stay as they are, the room behind their ends too, whether they are got or refused.
func TestBytesStay(t *testing.T) {
	key := some(16)
	for _, x := range few() {
		for _, own := range [][]byte{x.b, signed(x, key).b} {
			for _, n := range []int{0, 1, 63, 64, 66, len(own) - 1, len(own), len(own) + 1, len(own) + 8} {
				for _, behind := range []byte{0, 0xee} {
					whole := slices.Concat(own, bytes.Repeat([]byte{behind}, 40))
					before := slices.Clone(whole)
					k, wholeKey := roomy(key, 0xee)
					keyBefore := slices.Clone(wholeKey)
					msg.Get(whole[:n])
					msg.Checked(whole[:n], k)
					if !bytes.Equal(whole, before) || !bytes.Equal(wholeKey, keyBefore) {
						t.Errorf("of %d bytes of %s is left %s, of the key %x", n, short(before), short(whole), wholeKey)
					}
				}
			}
		}
	}
}

// Rule 5: what is put is new memory: no argument and no other answer shares any with it.
func TestPutIsNew(t *testing.T) {
	key := some(16)
	for _, h := range []api.Head{full, follow(full, 8)} {
		for _, x := range bodies() {
			y := lay(h, x)
			given, _ := copied(y.m)
			one, _ := msg.Put(given)
			two, _ := msg.Put(given)
			signedOne, _ := msg.Sign(given, key)
			signedTwo, _ := msg.Sign(given, key)
			spoil(one)
			spoil(signedOne)
			if !same(given, y.m) || !bytes.Equal(two, y.b) || !bytes.Equal(signedTwo, signed(y, key).b) {
				t.Errorf("an answer of %+v shares", y.m.Head)
			}
			spoilLists(given)
			if !bytes.Equal(two, y.b) || !bytes.Equal(signedTwo, signed(y, key).b) {
				t.Errorf("an answer of %+v shares with its lists", y.m.Head)
			}
		}
	}
}

// Rule 5: what is got is new memory: neither the bytes, nor the key, nor another answer share any with it.
func TestGotIsNew(t *testing.T) {
	for _, h := range []api.Head{full, follow(full, 8)} {
		for _, x := range bodies() {
			want := signed(lay(h, x), some(16))
			b, whole := roomy(want.b, 0xee)
			before := slices.Clone(whole)
			key := some(16)
			one, _ := msg.Get(b)
			two, _ := msg.Get(b)
			three, _ := msg.Checked(b, key)
			four, _ := msg.Checked(b, key)
			spoilLists(one)
			spoilLists(three)
			if !bytes.Equal(whole, before) || !same(two, want.m) || !same(four, want.m) {
				t.Errorf("an answer of %+v shares", want.m.Head)
			}
			spoil(whole)
			spoil(key)
			if !same(two, want.m) || !same(four, want.m) {
				t.Errorf("an answer of %+v shares with the bytes", want.m.Head)
			}
		}
	}
}
