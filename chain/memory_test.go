package chain_test

import (
	"bytes"
	"slices"
	"testing"

	"refectory/api"
	"refectory/chain"
)

// spoil makes each byte of b, and of the room behind its end, another one.
func spoil(b []byte) {
	b = b[:cap(b)]
	for i := range b {
		b[i] ^= 0x5a
	}
}

// roomy tells bytes in new memory, and the whole of it, with room behind them that is not zero.
func roomy(b []byte) (own, whole []byte) {
	whole = slices.Concat(b, bytes.Repeat([]byte{0xee}, 24))
	return whole[:len(b)], whole
}

// roomyList tells messages in new memory, each with room behind it, in a list with room behind it; and all of that memory.
func roomyList(l [][]byte) (own, wholes, list [][]byte) {
	for _, m := range l {
		one, whole := roomy(m)
		list = append(list, one)
		wholes = append(wholes, whole)
	}
	list = append(list, some(1), some(2))
	return list[:len(l)], wholes, list
}

// given are lists of messages, also such as are refused.
func given() [][][]byte {
	l := lists()
	for _, many := range []int{1, 3, 8, 9} {
		l = append(l, fill(many, many-1, withNext(echo(), 72)), fill(many, many/2, echo()[:63]), fill(many, 0, make([]byte, 70)), fill(many, 0, echo()))
	}
	return append(l, nil)
}

// Rule 5: messages, their list and the key stay as they are, the room behind their ends too, whether they are joined or refused.
func TestMessagesStay(t *testing.T) {
	for i, l := range given() {
		own, wholes, list := roomyList(l)
		_, wholesBefore, listBefore := roomyList(l)
		key, wholeKey := roomy(keys()[i%len(keys())])
		keyBefore := slices.Clone(wholeKey)
		chain.Join(own...)
		chain.Seal(key, own...)
		if !sameParts(wholes, wholesBefore) || !sameParts(list, listBefore) || !bytes.Equal(wholeKey, keyBefore) {
			t.Errorf("of the list %d, or of the key, is left something else", i)
		}
	}
}

// Rule 5: bytes stay as they are, the room behind their end too, whether they are split or refused.
func TestBytesStay(t *testing.T) {
	for _, l := range lists() {
		b := slices.Concat(laidParts(l...)...)
		for _, n := range []int{0, 63, 64, len(b) / 2, len(b) - 1, len(b)} {
			own, whole := roomy(b[:n])
			before := slices.Clone(whole)
			chain.Split(own)
			chain.Next(own)
			if !bytes.Equal(whole, before) {
				t.Errorf("of %s is left %s", short(before), short(whole))
			}
		}
	}
}

// Rule 5: a chain that is answered is new memory: no message, no key and no other answer shares any with it.
func TestChainIsNew(t *testing.T) {
	for i, l := range lists() {
		own, wholes, _ := roomyList(l)
		_, before, _ := roomyList(l)
		key := slices.Clone(keys()[i%len(keys())])
		keyBefore := slices.Clone(key)
		one, _ := chain.Join(own...)
		two, _ := chain.Join(own...)
		three, _ := chain.Seal(key, own...)
		four, _ := chain.Seal(key, own...)
		joined, sealed := slices.Clone(two), slices.Clone(four)
		spoil(one)
		spoil(three)
		if !sameParts(wholes, before) || !bytes.Equal(key, keyBefore) || !bytes.Equal(two, joined) || !bytes.Equal(four, sealed) {
			t.Errorf("an answer of the list %d shares", i)
		}
		for _, whole := range wholes {
			spoil(whole)
		}
		spoil(key)
		if !bytes.Equal(two, joined) || !bytes.Equal(four, sealed) {
			t.Errorf("an answer of the list %d shares with its messages, or with the key", i)
		}
	}
}

// Rule 5: parts that are answered are new memory, each of its own: neither the bytes, nor another part, nor another answer shares any with them.
func TestPartsAreNew(t *testing.T) {
	for i, l := range lists() {
		want := laidParts(l...)
		own, whole := roomy(slices.Concat(want...))
		before := slices.Clone(whole)
		one, e := chain.Split(own)
		two, _ := chain.Split(own)
		if e != api.OK {
			t.Fatalf("the list %d: %d", i, e)
		}
		for j := range one {
			spoil(one[j])
			if j < len(one)-1 && !sameParts(one[j+1:], want[j+1:]) {
				t.Errorf("the part %d of the list %d shares with one behind it", j, i)
			}
		}
		for j := range one {
			spoil(one[j])
			if !bytes.Equal(one[j], want[j]) {
				t.Errorf("the part %d of the list %d shares with another one", j, i)
			}
		}
		clear(one)
		if !bytes.Equal(whole, before) || !sameParts(two, want) {
			t.Errorf("an answer of the list %d shares", i)
		}
		spoil(whole)
		if !sameParts(two, want) {
			t.Errorf("an answer of the list %d shares with the bytes", i)
		}
	}
}
