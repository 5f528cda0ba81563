package sha

import (
	"bytes"
	"crypto/sha256"
	"encoding/binary"
	"encoding/hex"
	"math"
	"math/big"
	"math/bits"
	"slices"
	"strings"
	"testing"
)

// primes are the first n of them.
func primes(n int) []int64 {
	l := []int64{}
	for p := int64(2); len(l) < n; p++ {
		if !slices.ContainsFunc(l, func(q int64) bool { return p%q == 0 }) {
			l = append(l, p)
		}
	}
	return l
}

// fraction tells the first 32 bits of the fraction of a root (power 2 or 3) of n: it is sought bit by bit.
func fraction(n, power int64) uint32 {
	want := new(big.Int).Lsh(big.NewInt(n), uint(32*power))
	root := new(big.Int)
	for bit := 40; bit >= 0; bit-- {
		root.SetBit(root, bit, 1)
		if new(big.Int).Exp(root, big.NewInt(power), nil).Cmp(want) > 0 {
			root.SetBit(root, bit, 0)
		}
	}
	return uint32(root.Uint64())
}

// slowPress is Press as FIPS 180-4 has it, word by word, its constants worked out.
func slowPress(state [8]uint32, block [64]byte) [8]uint32 {
	down := func(x uint32, n int) uint32 { return bits.RotateLeft32(x, -n) }
	w := []uint32{}
	for t := range 64 {
		if t < 16 {
			w = append(w, binary.BigEndian.Uint32(block[4*t:]))
			continue
		}
		s0 := down(w[t-15], 7) ^ down(w[t-15], 18) ^ w[t-15]>>3
		s1 := down(w[t-2], 17) ^ down(w[t-2], 19) ^ w[t-2]>>10
		w = append(w, s1+w[t-7]+s0+w[t-16])
	}
	s := state
	for t, p := range primes(64) {
		a, b, c, e, f, g := s[0], s[1], s[2], s[4], s[5], s[6]
		t1 := s[7] + (down(e, 6) ^ down(e, 11) ^ down(e, 25)) + ((e & f) ^ (^e & g)) + fraction(p, 3) + w[t]
		t2 := (down(a, 2) ^ down(a, 13) ^ down(a, 22)) + ((a & b) ^ (a & c) ^ (b & c))
		copy(s[1:], slices.Clone(s[:7]))
		s[0], s[4] = t1+t2, s[4]+t1
	}
	for i := range s {
		s[i] += state[i]
	}
	return s
}

// row is n bytes that are all different from those a few places on.
func row(n int) []byte {
	b := make([]byte, n)
	for i := range b {
		b[i] = byte(i*7 + i>>8 + 1)
	}
	return b
}

// edges are counts of bytes: all small ones, and those around multiples of 64 and around 8 below them.
func edges() []int {
	l := []int{}
	for n := range 330 {
		l = append(l, n)
	}
	for _, m := range []int{512, 1024, 4096, 32768, 65536} {
		for n := m - 66; n <= m+66; n++ {
			l = append(l, n)
		}
	}
	return l
}

// P3.1: the first state, as the chapter writes it, and as the roots of the first eight primes tell it.
func TestBegin(t *testing.T) {
	want := [8]uint32{0x6a09e667, 0xbb67ae85, 0x3c6ef372, 0xa54ff53a, 0x510e527f, 0x9b05688c, 0x1f83d9ab, 0x5be0cd19}
	if s := Begin(); s != want {
		t.Errorf("Begin = %x", s)
	}
	for i, p := range primes(8) {
		if s := Begin(); s[i] != fraction(p, 2) {
			t.Errorf("Begin's word %d = %x; want %x", i, s[i], fraction(p, 2))
		}
	}
	s := Begin()
	s[0] = 0
	if Begin() != want {
		t.Error("a state that was answered is Begin's own")
	}
}

// P3.1: the 64 constants, as the roots of the first 64 primes tell them.
func TestCubeRoots(t *testing.T) {
	for i, p := range primes(64) {
		if k := cubeRoots[i]; k != fraction(p, 3) {
			t.Errorf("constant %d = %x; want %x", i, k, fraction(p, 3))
		}
	}
}

// P3.1: the block that the bytes abc make, pressed into the first state, is the sum of abc as FIPS 180-4's example has it.
func TestPressExample(t *testing.T) {
	block := [64]byte{'a', 'b', 'c', 0x80, 63: 24}
	want := [8]uint32{0xba7816bf, 0x8f01cfea, 0x414140de, 0x5dae2223, 0xb00361a3, 0x96177a9c, 0xb410ff61, 0xf20015ad}
	if s := Press(Begin(), block); s != want {
		t.Errorf("Press = %x; want %x", s, want)
	}
}

// P3.1: any block into any state, each single bit of both among them.
func TestPress(t *testing.T) {
	ones, allOnes := [8]uint32{}, [64]byte{}
	for i := range ones {
		ones[i] = math.MaxUint32
	}
	for i := range allOnes {
		allOnes[i] = 255
	}
	counted := [64]byte(row(64))
	states := [][8]uint32{{}, ones, Begin(), {1, 2, 3, 4, 5, 6, 7, 8}}
	blocks := [][64]byte{{}, allOnes, counted}
	for i := range 256 {
		s := [8]uint32{}
		s[i/32] = 1 << (i % 32)
		press(t, s, counted)
	}
	for i := range 512 {
		b := [64]byte{}
		b[i/8] = 1 << (i % 8)
		press(t, Begin(), b)
	}
	for _, s := range states {
		for _, b := range blocks {
			press(t, s, b)
		}
	}
}

// press holds Press against slowPress, twice: what was handed in stays as it is.
func press(t *testing.T, state [8]uint32, block [64]byte) {
	t.Helper()
	want := slowPress(state, block)
	for range 2 {
		if s := Press(state, block); s != want {
			t.Fatalf("Press(%x, %x) = %x; want %x", state, block, s, want)
		}
	}
}

// P3.1: what stands behind n bytes, the edges of a block and of the counts among them.
func TestBehind(t *testing.T) {
	for _, c := range []struct {
		n       uint64
		noughts int
		count   string
	}{
		{0, 55, "0000000000000000"},
		{1, 54, "0000000000000008"},
		{3, 52, "0000000000000018"},
		{31, 24, "00000000000000f8"},
		{32, 23, "0000000000000100"},
		{54, 1, "00000000000001b0"},
		{55, 0, "00000000000001b8"},
		{56, 63, "00000000000001c0"},
		{57, 62, "00000000000001c8"},
		{63, 56, "00000000000001f8"},
		{64, 55, "0000000000000200"},
		{65, 54, "0000000000000208"},
		{119, 0, "00000000000003b8"},
		{120, 63, "00000000000003c0"},
		{128, 55, "0000000000000400"},
		{1 << 13, 55, "0000000000010000"},
		{1<<29 - 1, 56, "00000000fffffff8"},
		{1 << 29, 55, "0000000100000000"},
		{0x0102030405060708, 47, "0810182028303840"},
		{1<<60 - 73, 0, "7ffffffffffffdb8"},
		{1<<60 - 72, 63, "7ffffffffffffdc0"},
		{1<<60 - 64, 55, "7ffffffffffffe00"},
		{1<<60 - 9, 0, "7fffffffffffffb8"},
		{1<<60 - 8, 63, "7fffffffffffffc0"},
		{1<<60 - 2, 57, "7ffffffffffffff0"},
		{1<<60 - 1, 56, "7ffffffffffffff8"},
	} {
		want := "80" + strings.Repeat("00", c.noughts) + c.count
		if b := Behind(c.n); hex.EncodeToString(b) != want {
			t.Errorf("Behind(%d) = %x; want %s", c.n, b, want)
		}
	}
}

// P3.1: behind 2^60 bytes and more stands none.
func TestBehindTooMany(t *testing.T) {
	for _, n := range []uint64{1 << 60, 1<<60 + 1, 1<<60 + 55, 1<<60 + 56, 1<<61 - 1, 1 << 61, 1<<61 + 3, 1 << 62, 1 << 63, 1<<63 - 1, math.MaxUint64, math.MaxUint64 - 8, math.MaxUint64 - 63} {
		if b := Behind(n); len(b) != 0 {
			t.Errorf("Behind(%d) = %x; want none", n, b)
		}
	}
}

// P3.1: the chapter's examples, and others that are known.
func TestSum(t *testing.T) {
	for _, c := range []struct{ s, want string }{
		{"", "e3b0c44298fc1c149afbf4c8996fb92427ae41e4649b934ca495991b7852b855"},
		{"abc", "ba7816bf8f01cfea414140de5dae2223b00361a396177a9cb410ff61f20015ad"},
		{"abcdbcdecdefdefgefghfghighijhijkijkljklmklmnlmnomnopnopq", "248d6a61d20638b8e5c026930c3e6039a33ce45964ff2167f6ecedd419db06c1"},
		{"abcdefghbcdefghicdefghijdefghijkefghijklfghijklmghijklmnhijklmnoijklmnopjklmnopqklmnopqrlmnopqrsmnopqrstnopqrstu", "cf5b16a778af8380036ce59e7b0492370b249b11e8f07a51afac45037afee9d1"},
		{strings.Repeat("a", 1000000), "cdc76e5c9914fb9281a1c7e284d73e67f1809a48a497200e046d39ccc7112cd0"},
	} {
		if sum := Sum([]byte(c.s)); hex.EncodeToString(sum[:]) != c.want {
			t.Errorf("Sum of %d bytes = %x; want %s", len(c.s), sum, c.want)
		}
	}
	if Sum(nil) != Sum([]byte{}) {
		t.Error("no bytes have two sums")
	}
}

// P3.1: rows of bytes of each length at an edge, as the language's own library sums them.
func TestSumLengths(t *testing.T) {
	for _, n := range edges() {
		for _, b := range [][]byte{row(n), make([]byte, n), bytes.Repeat([]byte{255}, n)} {
			if sum, want := Sum(b), sha256.Sum256(b); sum != want {
				t.Fatalf("Sum of %d bytes = %x; want %x", n, sum, want)
			}
		}
	}
}

// P3.2: Behind has from 9 to 72 bytes, and makes a multiple of 64.
func TestBehindFollows(t *testing.T) {
	counts := []uint64{}
	for n := range uint64(1000) {
		counts = append(counts, n, 1<<32-500+n, 1<<59-500+n, 1<<60-1000+n)
	}
	least, most := 1000, 0
	for _, n := range counts {
		size := len(Behind(n))
		least, most = min(least, size), max(most, size)
		if (n+uint64(size))%64 != 0 {
			t.Errorf("Behind(%d) has %d bytes", n, size)
		}
	}
	if least != 9 || most != 72 {
		t.Errorf("Behind has from %d to %d bytes", least, most)
	}
}

// P3.2: Sum is what pressing block by block comes to.
func TestSumIsPressed(t *testing.T) {
	for _, n := range edges() {
		b := row(n)
		all := slices.Concat(b, Behind(uint64(n)))
		state := Begin()
		for at := 0; at < len(all); at += 64 {
			state = Press(state, [64]byte(all[at:]))
		}
		want := [32]byte{}
		for i, word := range state {
			binary.BigEndian.PutUint32(want[4*i:], word)
		}
		if sum := Sum(b); sum != want {
			t.Fatalf("Sum of %d bytes = %x; pressed: %x", n, sum, want)
		}
	}
}

// Rule 5: what is handed in stays as it is, the room behind its end too, and that room is not summed.
func TestHandedIn(t *testing.T) {
	for n := range 200 {
		room := row(400)
		b := room[:n]
		first := Sum(b)
		if !bytes.Equal(room, row(400)) {
			t.Fatalf("Sum of %d bytes changed what it was handed: %x", n, room)
		}
		for i := range room[n:] {
			room[n+i] = 170
		}
		if Sum(b) != first || first != sha256.Sum256(b) {
			t.Fatalf("Sum of %d bytes hangs on what stands behind them", n)
		}
	}
}

// Rule 5: no two answers share any memory.
func TestNewMemory(t *testing.T) {
	for _, n := range []uint64{0, 55, 56, 64} {
		one, two := Behind(n), Behind(n)
		want := slices.Clone(two)
		one = one[:cap(one)]
		for i := range one {
			one[i] = 7
		}
		if !bytes.Equal(two, want) || !bytes.Equal(Behind(n), want) {
			t.Errorf("two answers of Behind(%d) share", n)
		}
	}
}
