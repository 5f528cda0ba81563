package frame_test

import (
	"fmt"
	"math/rand/v2"
	"slices"
	"testing"
)

// P13.3: short streams in each row of pieces that there is.
func TestEachRowOfPieces(t *testing.T) {
	for _, s := range streams() {
		if len(s.b) == 0 || len(s.b) > 13 {
			continue
		}
		for cuts := range 1 << (len(s.b) - 1) {
			var pieces [][]byte
			begin := 0
			for i := 1; i < len(s.b); i++ {
				if cuts>>(i-1)&1 == 1 {
					pieces = append(pieces, s.b[begin:i])
					begin = i
				}
			}
			takes(t, s.why, append(pieces, s.b[begin:])...)
		}
	}
}

// P13.3: two and three pieces, cut at each place, with none of a byte and with some ahead of, between and behind them.
func TestCuts(t *testing.T) {
	for _, s := range streams() {
		takes(t, s.why, s.b)
		takes(t, s.why, nil, s.b, []byte{})
		for i := range len(s.b) + 1 {
			takes(t, s.why, s.b[:i], s.b[i:])
			takes(t, s.why, s.b[:i], nil, s.b[i:])
			for j := i; j <= len(s.b); j++ {
				takes(t, s.why, s.b[:i], s.b[i:j], s.b[j:])
				takes(t, s.why, nil, s.b[:i], nil, []byte{}, s.b[i:j], s.b[j:j], s.b[j:], nil)
			}
		}
	}
}

// P13.3: frames at each edge of a byte, cut at each place in two, in three within the four first bytes of the first and of the second one, and by steps behind these.
func TestCutsOfFrames(t *testing.T) {
	for _, n := range []int{1, 2, 255, 256, 257} {
		b := slices.Concat(whole(some(n)), whole(make([]byte, n)), []byte{0, 0})
		for i := range len(b) + 1 {
			takes(t, fmt.Sprint(n, " cut at ", i), b[:i], b[i:])
			for j := i; j <= len(b); j++ {
				near := j%(n+4) < 6 || i%(n+4) < 6 || (i+j)%37 == 0
				if near {
					takes(t, fmt.Sprint(n, " cut at ", i, " and ", j), b[:i], b[i:j], b[j:])
				}
			}
		}
	}
}

// P13.3: the longest frames, cut at places of all kinds.
func TestCutsOfLong(t *testing.T) {
	for _, n := range []int{65535, 65536} {
		b := slices.Concat(whole(some(n)), whole(some(3)))
		var places []int
		for i := range len(b) + 1 {
			if i < 10 || i > len(b)-12 || i%4099 == 0 || i&(i-1) == 0 {
				places = append(places, i)
			}
		}
		for _, i := range places {
			takes(t, fmt.Sprint(n, " cut at ", i), b[:i], b[i:])
			for _, j := range places {
				if i <= j {
					takes(t, fmt.Sprint(n, " cut at ", i, " and ", j), b[:i], b[i:j], b[j:])
				}
			}
		}
	}
}

// P13.3: long rows of frames, with what may not be somewhere or nowhere, in pieces of many lengths, some of no byte.
func TestPieces(t *testing.T) {
	begun := beginnings()
	for turn := range uint64(400) {
		rule := rand.New(rand.NewPCG(13, turn))
		var b []byte
		for range rule.IntN(12) {
			b = append(b, whole(some(1+rule.IntN(1+rule.IntN(400))))...)
		}
		if turn%2 == 0 {
			b = append(b, begun[rule.IntN(len(begun))].b...)
			b = append(b, whole(some(1+rule.IntN(40)))...)
		}
		b = b[:len(b)-rule.IntN(1+len(b)/4)]
		for _, most := range []int{1, 2, 4, 9, 100, 1000} {
			var pieces [][]byte
			for rest := b; len(rest) > 0; {
				n := min(rule.IntN(most+1), len(rest))
				pieces = append(pieces, rest[:n])
				rest = rest[n:]
			}
			takes(t, fmt.Sprint("turn ", turn), pieces...)
		}
	}
}

// P13.3: what is no stream of frames at all, in pieces: each byte of the four first ones of a frame turned.
func TestTurned(t *testing.T) {
	b := slices.Concat(whole(some(2)), whole(some(5)))
	for at := range 10 {
		for x := range 256 {
			own := slices.Clone(b)
			own[at] = byte(x)
			for n := 1; n <= len(own); n++ {
				takes(t, fmt.Sprintf("%x", own), slices.Collect(slices.Chunk(own, n))...)
			}
		}
	}
}
