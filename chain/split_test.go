package chain_test

import (
	"bytes"
	"encoding/binary"
	"math"
	"math/rand"
	"slices"
	"testing"

	"refectory/api"
	"refectory/chain"
	"refectory/head"
)

// splitRefused tells that Split answers an error alone.
func splitRefused(t *testing.T, why any, b []byte, want api.Errno) {
	t.Helper()
	if parts, e := chain.Split(b); len(parts) != 0 || e != want {
		t.Errorf("%v: Split(%s) = %x, %d; want %d alone", why, short(b), parts, e, want)
	}
}

// isSplit tells that Split answers these parts of them together.
func isSplit(t *testing.T, why any, want [][]byte) {
	t.Helper()
	b := slices.Concat(want...)
	if parts, e := chain.Split(b); !sameParts(parts, want) || e != api.OK {
		t.Errorf("%v: Split(%s) = %x, %d; want %x", why, short(b), parts, e, want)
	}
}

// row tells n parts of 72 bytes, each with its Next, and behind them an Echo.
func row(n int) []byte {
	return slices.Concat(bytes.Repeat(withNext(padded(echo()), 72), n), echo())
}

// P12.2: head's error at 0, at each place of a cut and each way in which it is no head.
func TestNextRefused(t *testing.T) {
	for _, h := range heads() {
		for _, x := range slices.Concat(cuts(of(h, 9)), noHeads(of(h, 9))) {
			if n, e := chain.Next(x.b); n != 0 || e != x.e {
				t.Errorf("%s: Next(%x) = %d, %d; want %d alone", x.why, x.b, n, e, x.e)
			}
		}
	}
	if n, e := chain.Next(append([]byte{0}, echo()...)); n != 0 || e != api.ErrForm {
		t.Errorf("Next of what stands behind a byte = %d, %d", n, e)
	}
}

// P12.2: Next is what the head has, also what no part may have.
func TestNext(t *testing.T) {
	l := []uint32{0, 1, 7, 8, 63, 64, 65, 68, 72, 1 << 16, math.MaxInt32, 1 << 31, 0xf1e2d3c4, math.MaxUint32 - 7, math.MaxUint32}
	for bit := range 32 {
		l = append(l, 1<<bit)
	}
	for _, next := range l {
		for _, h := range heads() {
			for _, n := range []int{0, 4, 8, 100} {
				if got, e := chain.Next(withNext(of(h, n), next)); got != int(next) || e != api.OK {
					t.Errorf("Next of %d = %d, %d", next, got, e)
				}
			}
		}
	}
	if n, e := chain.Next(row(3)[72*3:]); n != 0 || e != api.OK {
		t.Errorf("Next of the last part = %d, %d", n, e)
	}
	if n, e := chain.Next(row(3)); n != 72 || e != api.OK {
		t.Errorf("Next of the first part = %d, %d", n, e)
	}
}

// P12.2, P12.4: Split of Join has as many parts, each of which begins with the message, but for its Next.
func TestSplitOfJoin(t *testing.T) {
	for i, l := range lists() {
		b, _ := chain.Join(l...)
		isSplit(t, i, laidParts(l...))
		parts, e := chain.Split(b)
		if len(parts) != len(l) || e != api.OK {
			t.Fatalf("%d: Split of Join of %d: %d parts, %d", i, len(l), len(parts), e)
		}
		at := 0
		for j, m := range l {
			next, _ := chain.Next(parts[j])
			if j < len(l)-1 {
				at += next
			}
			if want := (len(m) + 7) / 8 * 8; j < len(l)-1 && (next != want || len(parts[j]) != want) {
				t.Errorf("the Next of %d bytes is %d, of a part of %d", len(m), next, len(parts[j]))
			}
			if j == len(l)-1 && (next != 0 || !bytes.Equal(parts[j], m) || at+len(m) != len(b)) {
				t.Errorf("the last one of %x is %x", m, parts[j])
			}
			if !bytes.Equal(withNext(parts[j], 0)[:len(m)], m) || !bytes.Equal(parts[j][len(m):], make([]byte, len(parts[j])-len(m))) {
				t.Errorf("%x came back as %x", m, parts[j])
			}
		}
	}
}

// P12.2: parts are told as they stand: with more padding than is wanted, with such as is not 0, with nothing behind their heads; and the last one with all that stands behind it.
func TestSplitAsItStands(t *testing.T) {
	for _, next := range []int{64, 72, 80, 136, 1 << 16} {
		one := withNext(of(full, next-64), uint32(next))
		for behind := range 20 {
			for many := range 8 {
				isSplit(t, next, append(slices.Repeat([][]byte{one}, many), of(full, behind)))
				isSplit(t, next, append(slices.Repeat([][]byte{one}, many), slices.Concat(echo(), row(behind))))
			}
		}
	}
	isSplit(t, "each of 64 bytes", append(slices.Repeat([][]byte{withNext(of(api.Head{}, 0), 64)}, 7), of(api.Head{}, 0)))
}

// P12.2: chains that are cut at each place: of the last part its head alone must be there, of all others all.
func TestSplitCut(t *testing.T) {
	for i, l := range lists() {
		if i%4 != 0 {
			continue
		}
		parts := laidParts(l...)
		b := slices.Concat(parts...)
		last := len(b) - len(parts[len(parts)-1])
		for n := range b {
			for _, cut := range [][]byte{b[:n], b[:n:n]} {
				if n < last+64 {
					splitRefused(t, n, cut, api.ErrShort)
				} else {
					isSplit(t, n, append(slices.Clone(parts[:len(parts)-1]), cut[last:]))
				}
			}
		}
	}
}

// P12.2: each Next that no part may have, or that goes to the end or beyond it, in the first part, in middle ones and in the last.
func TestSplitNext(t *testing.T) {
	for behind := range 8 {
		for ahead := range 8 - behind {
			b := row(ahead + behind)
			at := 72 * ahead
			left := len(b) - at
			for next := uint32(1); next < uint32(left+80); next++ {
				spoilt := slices.Clone(b)
				binary.LittleEndian.PutUint32(spoilt[at+20:], next)
				switch {
				case next%8 != 0, next < 64:
					splitRefused(t, next, spoilt, api.ErrForm)
				case int(next) > left, left-int(next) < 64:
					splitRefused(t, next, spoilt, api.ErrShort)
				case next%72 != 0:
					// Another part's middle is no head.
					splitRefused(t, next, spoilt, api.ErrForm)
				default:
					want := slices.Repeat([][]byte{b[:72]}, ahead)
					want = append(want, spoilt[at:at+int(next)])
					want = append(want, slices.Repeat([][]byte{b[:72]}, behind-int(next)/72)...)
					isSplit(t, next, append(want, echo()))
				}
			}
			for _, x := range []struct {
				next uint32
				want api.Errno
			}{{math.MaxUint32, api.ErrForm}, {math.MaxUint32 - 7, api.ErrShort}, {math.MaxUint32 - 8, api.ErrForm}, {1 << 31, api.ErrShort}, {1<<31 + 1, api.ErrForm}, {1<<31 - 8, api.ErrShort}, {1 << 16, api.ErrShort}, {math.MaxUint32 - 71, api.ErrShort}} {
				spoilt := slices.Clone(b)
				binary.LittleEndian.PutUint32(spoilt[at+20:], x.next)
				splitRefused(t, x.next, spoilt, x.want)
			}
		}
	}
}

// P12.2: a Next that goes just to the end: nothing is there that is a head.
func TestSplitNextToTheEnd(t *testing.T) {
	for n := range 9 {
		b := row(n)
		splitRefused(t, n, b[:72*n], api.ErrShort)
		m := withNext(of(full, 8*n), uint32(64+8*n))
		splitRefused(t, n, m, api.ErrShort)
		splitRefused(t, n, slices.Concat(row(2)[:144], m), api.ErrShort)
		isSplit(t, n, [][]byte{m, echo()})
	}
}

// P12.2: what is no head, as the first part, a middle one and the last one, whatever stands in the other ones.
func TestSplitNoHead(t *testing.T) {
	for _, many := range []int{1, 2, 3, 8} {
		for _, at := range []int{0, many / 2, many - 1} {
			for _, m := range [][]byte{echo(), of(full, 9)} {
				parts := laidParts(fill(many, at, m)...)
				for _, x := range noHeads(parts[at]) {
					l := slices.Clone(parts)
					l[at] = x.b
					splitRefused(t, x.why, slices.Concat(l...), x.e)
				}
			}
		}
		for _, x := range cuts(of(full, 9)) {
			splitRefused(t, x.why, slices.Concat(row(many)[:72*many], x.b), x.e)
		}
	}
	for n := range 64 {
		splitRefused(t, n, make([]byte, n), api.ErrShort)
	}
	splitRefused(t, "noughts", make([]byte, 1000), api.ErrForm)
}

// P12.2: the limit itself is allowed, one more is not.
func TestSplitLimit(t *testing.T) {
	for n := range 8 {
		isSplit(t, n, append(slices.Repeat([][]byte{row(1)[:72]}, n), echo()))
	}
	for n := 8; n < 30; n++ {
		splitRefused(t, n, row(n), api.ErrLimit)
	}
	splitRefused(t, "very many", row(10000), api.ErrLimit)
	splitRefused(t, "of 64 bytes", slices.Concat(bytes.Repeat(withNext(of(api.Head{}, 0), 64), 8), of(api.Head{}, 0)), api.ErrLimit)
}

// related tells a chain whose first part is Related.
func related(b []byte) []byte {
	return withFlags(b, api.FlagRelated)
}

// P12.2: which error comes first among nine parts: what is wrong of each up to the ninth one, then that there are more than eight, whatever stands behind.
func TestSplitLimitOrder(t *testing.T) {
	b := row(8)
	for part := range 9 {
		for _, x := range broken(b, 72*part) {
			splitRefused(t, x.why, x.b, x.e)
		}
	}
	splitRefused(t, "the eighth goes just to the end", b[:72*8], api.ErrShort)
	behind := slices.Concat(row(9)[:72*9], make([]byte, 100))
	splitRefused(t, "no head behind the ninth", behind, api.ErrLimit)
	splitRefused(t, "nothing behind the ninth", behind[:72*9], api.ErrLimit)
}

// broken tells the ways in which the part at a place of a chain may not be, one by one.
func broken(b []byte, at int) []spoilt {
	with := func(i int, x byte) []byte {
		own := slices.Clone(b)
		own[at+i] = x
		return own
	}
	return []spoilt{
		{"no head", with(0, 0), api.ErrForm},
		{"a flag that is none", with(17, 1), api.ErrForm},
		{"a Next that is no multiple", with(20, 73), api.ErrForm},
		{"a Next that is too low", with(20, 8), api.ErrForm},
		{"a Next beyond the end", with(22, 1), api.ErrShort},
		{"a Next beyond the end, very far", with(23, 255), api.ErrShort},
		{"cut", b[:at+63], api.ErrShort},
		{"nothing", b[:at], api.ErrShort},
	}
}

// P12.2: a first part that is Related, in a chain of one and of several, also where the others are.
func TestSplitRelated(t *testing.T) {
	for many := 1; many <= 8; many++ {
		for _, h := range heads() {
			h.Flags |= api.FlagRelated
			all := laidParts(fill(many, 0, of(h, 5))...)
			splitRefused(t, many, slices.Concat(all...), api.ErrForm)
			for i := range all {
				all[i] = withFlags(all[i], api.FlagRelated)
			}
			splitRefused(t, many, slices.Concat(all...), api.ErrForm)
			h.Flags &^= api.FlagRelated
			for at := 1; at < many; at++ {
				isSplit(t, at, laidParts(append(fill(many-1, 0, of(h, 5)), withFlags(echo(), api.FlagRelated))...))
			}
			all[0] = laidParts(fill(many, 0, of(h, 5))...)[0]
			isSplit(t, many, all)
		}
	}
}

// P12.2: what else is wrong of the first part comes ahead of its being Related, in a chain of one, of several and of too many.
func TestSplitRelatedBehind(t *testing.T) {
	for n := range 30 {
		b := related(row(n))
		for _, x := range broken(b, 0) {
			splitRefused(t, x.why, x.b, x.e)
		}
		first := 72
		if n == 0 {
			first = 64
		}
		for cut := range first {
			splitRefused(t, cut, b[:cut], api.ErrShort)
			splitRefused(t, cut, b[:cut:cut], api.ErrShort)
		}
	}
}

// P12.2: that the first part is Related comes ahead of whatever is wrong of a later one, and of how many there are.
func TestSplitRelatedAhead(t *testing.T) {
	for n := range 30 {
		b := related(row(n))
		splitRefused(t, n, b, api.ErrForm)
		for cut := 72; cut < len(b); cut++ {
			splitRefused(t, cut, b[:cut], api.ErrForm)
			splitRefused(t, cut, b[:cut:cut], api.ErrForm)
		}
		for part := 1; part <= n; part++ {
			for _, x := range broken(b, 72*part) {
				splitRefused(t, x.why, x.b, api.ErrForm)
			}
		}
	}
	for _, h := range heads() {
		// With nothing behind it, whatever else its head has, and however many bytes it has.
		for n := 0; n < 40; n += 8 {
			one := related(withNext(of(h, n), uint32(64+n)))
			splitRefused(t, h, one, api.ErrForm)
			splitRefused(t, h, slices.Concat(one, some(n)), api.ErrForm)
		}
	}
}

// P12.2: only the first part is asked whether it is Related: of later ones each error is told as if they were not.
func TestSplitRelatedLater(t *testing.T) {
	for n := range 30 {
		b := row(n)
		for part := 1; part <= n; part++ {
			copy(b[72*part:], related(b[72*part:]))
		}
		want := api.OK
		if n > 7 {
			want = api.ErrLimit
		}
		parts, e := chain.Split(b)
		if e != want || (e == api.OK && len(parts) != n+1) {
			t.Errorf("%d later ones are Related: %d parts, %d", n, len(parts), e)
		}
		for part := 1; part <= min(n, 8); part++ {
			for _, x := range broken(b, 72*part) {
				splitRefused(t, x.why, x.b, x.e)
			}
		}
	}
}

// isChain tells whether parts are what b is as a chain, by the chapter's Words.
func isChain(b []byte, parts [][]byte) bool {
	if len(parts) < 1 || len(parts) > 8 || !bytes.Equal(slices.Concat(parts...), b) {
		return false
	}
	for i, p := range parts {
		h, e := head.Get(p, 0)
		last := i == len(parts)-1
		switch {
		case e != api.OK:
			return false
		case last && h.Next != 0, !last && int(h.Next) != len(p), h.Next%8 != 0:
			return false
		case i == 0 && h.Flags&api.FlagRelated != 0:
			return false
		}
	}
	return true
}

// P12.2: whatever bytes come, Split ends, with parts that are the chain, or with one of its errors alone.
func TestSplitAnything(t *testing.T) {
	r := rand.New(rand.NewSource(12))
	all := lists()
	counts := map[api.Errno]int{}
	for range 60000 {
		b := slices.Concat(laidParts(all[r.Intn(len(all))]...)...)
		for range r.Intn(3) {
			at := r.Intn(len(b))
			if r.Intn(2) == 0 {
				// Of all bytes those of the flags and of Next matter most.
				at = min(at/8*8+16+r.Intn(8), len(b)-1)
			}
			b[at] = byte(r.Intn(10) * 8 * r.Intn(4))
		}
		b = b[:len(b)-r.Intn(2)*r.Intn(len(b))]
		parts, e := chain.Split(b)
		counts[e]++
		switch e {
		case api.OK:
			if !isChain(b, parts) {
				t.Fatalf("Split(%x) = %x", b, parts)
			}
		case api.ErrShort, api.ErrForm, api.ErrLimit:
			if len(parts) != 0 {
				t.Fatalf("Split(%x) = %x beside %d", b, parts, e)
			}
		default:
			t.Fatalf("Split(%x): %d", b, e)
		}
	}
	if counts[api.OK] < 1000 || counts[api.ErrForm] < 1000 || counts[api.ErrShort] < 1000 {
		t.Errorf("hardly anything of some kind came: %v", counts)
	}
}
