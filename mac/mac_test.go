package mac

import (
	"bytes"
	"crypto/hmac"
	"crypto/sha256"
	"encoding/hex"
	"slices"
	"strings"
	"testing"

	"refectory/api"
)

// row is n bytes, none of them 0, that are all different from those a few places on.
func row(n int) []byte {
	b := make([]byte, n)
	for i := range b {
		b[i] = byte(1 + (i*7+i>>8)%255)
	}
	return b
}

// keyed are keys of each length at an edge: of none, of a block's, of less and more.
func keyed() [][]byte {
	l := [][]byte{nil, {}, {0}, make([]byte, 64), make([]byte, 65), bytes.Repeat([]byte{255}, 64), bytes.Repeat([]byte{255}, 65)}
	for _, n := range []int{1, 16, 31, 32, 33, 62, 63, 64, 65, 66, 127, 128, 129, 1000} {
		l = append(l, row(n))
	}
	return l
}

// lengths are those of what is summed: around the blocks' edges, up to the longest frame.
func lengths() []int {
	return []int{0, 1, 8, 54, 55, 56, 57, 62, 63, 64, 65, 66, 119, 120, 127, 128, 129, 1000, 65535, 65536, 65537}
}

// want is the HMAC as the language's own library has it.
func want(key []byte, parts ...[]byte) [32]byte {
	h := hmac.New(sha256.New, key)
	for _, p := range parts {
		h.Write(p)
	}
	return [32]byte(h.Sum(nil))
}

// wantSigned is a message with its signature, likewise.
func wantSigned(key, message []byte) []byte {
	b := slices.Clone(message)
	copy(b[48:64], make([]byte, 16))
	s := want(key, b)
	copy(b[48:64], s[:16])
	return b
}

func unhex(t *testing.T, s string) []byte {
	t.Helper()
	b, err := hex.DecodeString(s)
	if err != nil {
		t.Fatal(err)
	}
	return b
}

// P4.1: sums that are known (RFC 4231, and of no key and no bytes).
func TestMac(t *testing.T) {
	for i, c := range []struct{ key, b, want string }{
		{"", "", "b613679a0814d9ec772f95d778c35fc5ff1697c493715653c6c712144292c5ad"},
		{strings.Repeat("0b", 20), "4869205468657265", "b0344c61d8db38535ca8afceaf0bf12b881dc200c9833da726e9376c2e32cff7"},
		{"4a656665", "7768617420646f2079612077616e7420666f72206e6f7468696e673f", "5bdcc146bf60754e6a042426089575c75a003f089d2739839dec58b964ec3843"},
		{strings.Repeat("aa", 20), strings.Repeat("dd", 50), "773ea91e36800e46854db8ebd09181a72959098b3ef8c122d9635514ced565fe"},
		{"0102030405060708090a0b0c0d0e0f10111213141516171819", strings.Repeat("cd", 50), "82558a389a443c0ea4cc819899f2083a85f0faa3e578f8077a2e3ff46729665b"},
		{strings.Repeat("aa", 131), hex.EncodeToString([]byte("Test Using Larger Than Block-Size Key - Hash Key First")), "60e431591ee0b67f0d8a26aacbf5b77f8e0bc6213728c5140546040f0ee37f54"},
		{strings.Repeat("aa", 131), hex.EncodeToString([]byte("This is a test using a larger than block-size key and a larger than block-size data. The key needs to be hashed before being used by the HMAC algorithm.")), "9b09ffa71b942fcb27635fbcd5b0e944bfdc63644f0713938a7f51535c3a35e2"},
	} {
		if sum := Mac(unhex(t, c.key), unhex(t, c.b)); hex.EncodeToString(sum[:]) != c.want {
			t.Errorf("%d: Mac = %x; want %s", i, sum, c.want)
		}
	}
}

// P4.1: keys and bytes of each length at an edge.
func TestMacLengths(t *testing.T) {
	for _, key := range keyed() {
		for _, n := range lengths() {
			for _, b := range [][]byte{row(n), make([]byte, n)} {
				if sum := Mac(key, b); sum != want(key, b) {
					t.Fatalf("Mac(%x, %d bytes) = %x; want %x", key, n, sum, want(key, b))
				}
			}
		}
	}
}

// P4.1: each byte of a key counts, and each of what is summed.
func TestMacTurned(t *testing.T) {
	for _, n := range []int{1, 63, 64, 65, 130} {
		first := Mac(row(n), row(n))
		for i := range n {
			key, b := row(n), row(n)
			key[i] ^= 1
			b[i] ^= 128
			if Mac(key, row(n)) == first {
				t.Errorf("a key of %d bytes: the byte %d does not count", n, i)
			}
			if Mac(row(n), b) == first {
				t.Errorf("%d bytes: the byte %d does not count", n, i)
			}
		}
	}
}

// texts are labels and contexts: none, those that hold noughts, what is no text, long ones.
var texts = []string{"", "a", "b", "ab", "\x00", "a\x00", "\x00a", "a\x00b", "é", "\xff\x00\xff", "SmbSign", "the key of a session\x00", "a label that is longer than a block of the sum, so that it does not fit into one with all that stands beside it", "\x00\x00\x00\x80", "\x00\x00\x00\x01"}

// P4.1: a key of a key is the first 16 bytes of the sum of what stands in that order.
func TestDerive(t *testing.T) {
	for _, key := range keyed() {
		for _, label := range texts {
			for _, context := range texts {
				sum := want(key, []byte("\x00\x00\x00\x01"+label+"\x00"+context+"\x00\x00\x00\x80"))
				if k := Derive(key, label, context); !bytes.Equal(k[:], sum[:16]) {
					t.Fatalf("Derive(%x, %q, %q) = %x; want %x", key, label, context, k, sum[:16])
				}
			}
		}
	}
}

// P4.1: a key that is known, of no label and no context too.
func TestDeriveKnown(t *testing.T) {
	for _, c := range []struct{ key, label, context, all string }{
		{"", "", "", "00000001" + "00" + "00000080"},
		{"key", "", "", "00000001" + "00" + "00000080"},
		{"key", "ab", "", "00000001" + "6162" + "00" + "00000080"},
		{"key", "", "ab", "00000001" + "00" + "6162" + "00000080"},
		{"key", "ab", "c", "00000001" + "6162" + "00" + "63" + "00000080"},
	} {
		sum := Mac([]byte(c.key), unhex(t, c.all))
		if k := Derive([]byte(c.key), c.label, c.context); k != [16]byte(sum[:16]) {
			t.Errorf("Derive(%q, %q, %q) = %x; want %x", c.key, c.label, c.context, k, sum[:16])
		}
	}
	if Derive(nil, "a", "b") == Derive(nil, "b", "a") || Derive(nil, "a", "") == Derive(nil, "", "a") {
		t.Error("a label is as a context")
	}
}

// P4.1: a proof is the sum of the challenge by the password's bytes.
func TestProof(t *testing.T) {
	for _, challenge := range [][8]byte{{}, {1, 2, 3, 4, 5, 6, 7, 8}, {0, 0, 0, 0, 0, 0, 0, 1}, {255, 255, 255, 255, 255, 255, 255, 255}} {
		for _, password := range slices.Concat(texts, []string{strings.Repeat("p", 63), strings.Repeat("p", 64), strings.Repeat("p", 65)}) {
			if p := Proof(password, challenge); p != want([]byte(password), challenge[:]) {
				t.Errorf("Proof(%q, %x) = %x; want %x", password, challenge, p, want([]byte(password), challenge[:]))
			}
		}
	}
	for i := range 8 {
		challenge := [8]byte{}
		challenge[i] = 1
		if Proof("ann", challenge) == Proof("ann", [8]byte{}) {
			t.Errorf("the challenge's byte %d does not count", i)
		}
	}
}

// P4.2: what has fewer than 64 bytes is no message, whatever the key.
func TestTooShort(t *testing.T) {
	for _, key := range keyed() {
		for n := range 64 {
			for _, b := range [][]byte{row(n), make([]byte, n), row(100)[:n]} {
				if m, e := Sign(key, b); m != nil || e != api.ErrArg {
					t.Errorf("Sign(%x, %d bytes) = %x, %d; want ErrArg", key, n, m, e)
				}
				if e := Check(key, b); e != api.ErrArg {
					t.Errorf("Check(%x, %d bytes) = %d; want ErrArg", key, n, e)
				}
			}
		}
		if m, e := Sign(key, nil); m != nil || e != api.ErrArg || Check(key, nil) != api.ErrArg {
			t.Errorf("Sign(%x, none) = %x, %d", key, m, e)
		}
	}
}

// longs are the lengths of messages: as few bytes as may be, a byte more, and those around the blocks' edges.
func longs() []int {
	l := []int{}
	for n := 64; n <= 200; n++ {
		l = append(l, n)
	}
	return append(l, 1000, 32768, 65536)
}

// P4.2, P4.3: a message, with its signature, whatever stood in its place; that is signed, and all other bytes are as they were.
func TestSign(t *testing.T) {
	key := row(16)
	for _, n := range longs() {
		for _, message := range [][]byte{row(n), make([]byte, n), bytes.Repeat([]byte{255}, n)} {
			m, e := Sign(key, message)
			if e != api.OK || !bytes.Equal(m, wantSigned(key, message)) {
				t.Fatalf("Sign of %d bytes = %x, %d", n, m, e)
			}
			if !bytes.Equal(m[:48], message[:48]) || !bytes.Equal(m[64:], message[64:]) || len(m) != n {
				t.Errorf("Sign of %d bytes has other bytes", n)
			}
			if e := Check(key, m); e != api.OK {
				t.Errorf("Check of %d bytes that are signed = %d", n, e)
			}
			if e := Check(key, message); e != api.ErrSum {
				t.Errorf("Check of %d bytes that are not signed = %d", n, e)
			}
			if again, e := Sign(key, m); e != api.OK || !bytes.Equal(again, m) {
				t.Errorf("Sign of Sign of %d bytes = %x, %d; want %x", n, again, e, m)
			}
		}
	}
}

// P4.2, P4.3: likewise, by each key.
func TestSignKeys(t *testing.T) {
	for _, key := range keyed() {
		for _, n := range []int{64, 65, 128, 140} {
			m, e := Sign(key, row(n))
			if e != api.OK || !bytes.Equal(m, wantSigned(key, row(n))) {
				t.Fatalf("Sign(%x, %d bytes) = %x, %d", key, n, m, e)
			}
			if e := Check(key, m); e != api.OK {
				t.Errorf("Check(%x, %d bytes) = %d", key, n, e)
			}
			if e := Check(append(slices.Clone(key), 1), m); e != api.ErrSum {
				t.Errorf("Check by another key than %x = %d", key, e)
			}
		}
	}
}

// P4.2: each bit of a message counts, those of its signature and those beside it.
func TestCheckTurned(t *testing.T) {
	for _, key := range [][]byte{nil, row(16), row(65)} {
		for _, n := range []int{64, 65, 100} {
			m, _ := Sign(key, row(n))
			for i := range 8 * n {
				m[i/8] ^= 1 << (i % 8)
				if e := Check(key, m); e != api.ErrSum {
					t.Errorf("Check by %x of %d bytes, the byte %d turned by %x = %d; want ErrSum", key, n, i/8, 1<<(i%8), e)
				}
				m[i/8] ^= 1 << (i % 8)
			}
			if e := Check(key, m); e != api.OK {
				t.Errorf("Check by %x of %d bytes, turned back = %d", key, n, e)
			}
		}
	}
}

// P4.2: bytes that are gone, or come behind, are missed, as long as it is a message.
func TestCheckCut(t *testing.T) {
	key := row(16)
	m, _ := Sign(key, row(66))
	if e := Check(key, append(slices.Clone(m), 0)); e != api.ErrSum {
		t.Errorf("Check with a byte more = %d; want ErrSum", e)
	}
	for n, want := range map[int]api.Errno{66: api.OK, 65: api.ErrSum, 64: api.ErrSum, 63: api.ErrArg, 0: api.ErrArg} {
		if e := Check(key, m[:n]); e != want {
			t.Errorf("Check of the first %d bytes = %d; want %d", n, e, want)
		}
	}
}

// P4.2: a signature that is made with its place as it stands, or of noughts alone, is none.
func TestCheckOther(t *testing.T) {
	key, m := row(16), row(80)
	asStands := want(key, m)
	copy(m[48:64], asStands[:16])
	if e := Check(key, m); e != api.ErrSum {
		t.Errorf("Check of the sum of what stands = %d; want ErrSum", e)
	}
	signed := wantSigned(key, row(80))
	sum := want(key, slices.Concat(row(48), make([]byte, 16), row(80)[64:]))
	copy(signed[48:64], sum[16:])
	if e := Check(key, signed); e != api.ErrSum {
		t.Errorf("Check of the sum's last bytes = %d; want ErrSum", e)
	}
}

// P4.3: a key with noughts behind it, up to 64 bytes in all, is the same key; one that has more is another one.
func TestSameKey(t *testing.T) {
	for _, n := range []int{0, 1, 16, 32, 62, 63, 64} {
		key := row(n)
		m, _ := Sign(key, row(70))
		for more := 0; n+more <= 66; more++ {
			longer := append(slices.Clone(key), make([]byte, more)...)
			same := n+more <= 64 || more == 0
			if (Mac(longer, row(9)) == Mac(key, row(9))) != same {
				t.Errorf("Mac: a key of %d bytes, and %d noughts behind it: same is not %t", n, more, same)
			}
			if (Derive(longer, "a", "b") == Derive(key, "a", "b")) != same {
				t.Errorf("Derive: a key of %d bytes, and %d noughts behind it: same is not %t", n, more, same)
			}
			if (Proof(string(longer), [8]byte{1}) == Proof(string(key), [8]byte{1})) != same {
				t.Errorf("Proof: a password of %d bytes, and %d noughts behind it: same is not %t", n, more, same)
			}
			if (Check(longer, m) == api.OK) != same {
				t.Errorf("Check: a key of %d bytes, and %d noughts behind it: same is not %t", n, more, same)
			}
		}
	}
}

// P4.1: a key of more than 64 bytes is as its sum.
func TestLongKey(t *testing.T) {
	for _, n := range []int{63, 64, 65, 66, 128, 1000} {
		sum := sha256.Sum256(row(n))
		if same := Mac(row(n), row(9)) == Mac(sum[:], row(9)); same != (n > 64) {
			t.Errorf("a key of %d bytes is as its sum: %t", n, same)
		}
	}
}

// Rule 5: what is handed in stays as it is, the room behind its end too, and that room counts for nothing.
func TestHandedIn(t *testing.T) {
	for _, keyBytes := range []int{0, 16, 63, 64, 65} {
		for _, n := range []int{0, 47, 48, 63, 64, 65, 80} {
			keyRoom, room := row(200), row(200)
			key, b := keyRoom[:keyBytes], room[:n]
			first := all(key, b)
			if !bytes.Equal(keyRoom, row(200)) || !bytes.Equal(room, row(200)) {
				t.Fatalf("a key of %d bytes, %d bytes: what was handed in was changed", keyBytes, n)
			}
			clear(keyRoom[keyBytes:])
			clear(room[n:])
			if !slices.EqualFunc(first, all(key, b), bytes.Equal) {
				t.Errorf("a key of %d bytes, %d bytes: answers hang on what stands behind", keyBytes, n)
			}
			if !slices.EqualFunc(first, all(row(keyBytes), row(n)), bytes.Equal) {
				t.Errorf("a key of %d bytes, %d bytes: answers hang on the room behind", keyBytes, n)
			}
		}
	}
	both := row(100)
	if m, e := Sign(both[40:60], both); e != api.OK || !bytes.Equal(m, wantSigned(row(100)[40:60], row(100))) {
		t.Errorf("Sign by a key that is a part of the message = %x, %d", m, e)
	}
}

// all are the answers of all calls, as bytes.
func all(key, b []byte) [][]byte {
	sum, derived := Mac(key, b), Derive(key, string(b), "c")
	m, e := Sign(key, b)
	return [][]byte{sum[:], derived[:], m, {byte(e), byte(Check(key, b))}}
}

// Rule 5: what is answered is new memory.
func TestNewMemory(t *testing.T) {
	key := row(16)
	for _, n := range []int{64, 65, 128} {
		room := row(200)
		one, _ := Sign(key, room[:n])
		two, _ := Sign(key, room[:n])
		again, _ := Sign(key, one)
		for _, b := range [][]byte{one, again} {
			b = b[:cap(b)]
			for i := range b {
				b[i] = 7
			}
		}
		if !bytes.Equal(room, row(200)) {
			t.Errorf("Sign of %d bytes: the answer shares with the message", n)
		}
		if !bytes.Equal(two, wantSigned(key, row(n))) {
			t.Errorf("Sign of %d bytes: two answers share", n)
		}
		signed := slices.Clone(two)
		third, _ := Sign(key, two)
		third[0]++
		if !bytes.Equal(two, signed) {
			t.Errorf("Sign of %d bytes that are signed answers them", n)
		}
	}
}
