package share_test

import (
	"math"
	"math/rand"
	"slices"
	"testing"

	"refectory/api"
	"refectory/share"
)

// mode is one of an access and a sharing.
func mode(access, sharing uint32) api.Mode {
	return api.Mode{Access: access, Sharing: sharing}
}

// small are all modes whose access and sharing are from 0 to 7.
func small() []api.Mode {
	var l []api.Mode
	for access := range uint32(8) {
		for sharing := range uint32(8) {
			l = append(l, mode(access, sharing))
		}
	}
	return l
}

// great are modes with each bit there is, alone and among others, above 7 and below.
func great() []api.Mode {
	const most = math.MaxUint32
	l := []api.Mode{{}, mode(most, most), mode(most, 0), mode(0, most), mode(most, 7), mode(7, most), mode(1, most-1), mode(most-1, 1), mode(most/2, most/2+1), mode(most/2+1, most/2), mode(0x55555555, 0xaaaaaaaa), mode(0xaaaaaaaa, 0x55555555), mode(0xaaaaaaaa, 0xaaaaaaaa)}
	for bit := range 32 {
		one := uint32(1) << bit
		l = append(l, mode(one, 0), mode(0, one), mode(one, one), mode(one, most-one), mode(most-one, one), mode(most-one, most), mode(most, most-one))
	}
	return l
}

// clashing tells whether two modes clash, bit by bit.
func clashing(a, b api.Mode) bool {
	for bit := range 32 {
		if has(a.Access, bit) && !has(b.Sharing, bit) || has(b.Access, bit) && !has(a.Sharing, bit) {
			return true
		}
	}
	return false
}

// clashes asks Clash, in both orders, which have to answer alike.
func clashes(t *testing.T, a, b api.Mode) bool {
	t.Helper()
	one, two := share.Clash(a, b), share.Clash(b, a)
	if one != two {
		t.Errorf("Clash(%d, %d) = %t, the other way round %t", a, b, one, two)
	}
	return one
}

// P17.1: the chapter's row, and each bit of each side.
func TestClash(t *testing.T) {
	for _, c := range []struct {
		a, b api.Mode
		want bool
	}{
		{mode(1, 1), mode(1, 1), false}, {mode(1, 1), mode(2, 1), true}, {mode(2, 3), mode(1, 1), true},
		{mode(3, 0), mode(3, 0), true},
		// One bit that is not shared, each of them, by the first one and by the second one alone.
		{mode(1, 7), mode(0, 6), true}, {mode(2, 7), mode(0, 5), true}, {mode(4, 7), mode(0, 3), true},
		{mode(0, 6), mode(1, 7), true}, {mode(0, 5), mode(2, 7), true}, {mode(0, 3), mode(4, 7), true},
		{mode(1, 7), mode(0, 1), false}, {mode(2, 7), mode(0, 2), false}, {mode(4, 7), mode(0, 4), false},
		{mode(7, 7), mode(7, 6), true}, {mode(7, 7), mode(7, 5), true}, {mode(7, 7), mode(7, 3), true},
		// All and nothing.
		{mode(7, 7), mode(7, 7), false}, {mode(0, 0), mode(0, 0), false}, {mode(0, 0), mode(0, 7), false}, {mode(0, 7), mode(7, 0), false}, {mode(0, 0), mode(1, 7), true}, {mode(7, 0), mode(7, 0), true},
		// Each one's access is held against the other one's sharing, not against its own.
		{mode(1, 2), mode(2, 1), false}, {mode(1, 6), mode(6, 1), false}, {mode(4, 3), mode(3, 4), false}, {mode(1, 2), mode(1, 2), true}, {mode(1, 6), mode(1, 6), true},
		// Bits above these count as well.
		{mode(8, 7), mode(0, 7), true}, {mode(8, 7), mode(0, 15), false}, {mode(1<<31, 0), mode(0, math.MaxInt32), true}, {mode(1<<31, 0), mode(0, 1<<31), false},
		{mode(math.MaxUint32, math.MaxUint32), mode(math.MaxUint32, math.MaxUint32), false}, {mode(math.MaxUint32, 7), mode(7, math.MaxUint32), false}, {mode(math.MaxUint32, 7), mode(8, math.MaxUint32), true}, {mode(math.MaxUint32, 7), mode(7, math.MaxUint32-1), true},
	} {
		if clashes(t, c.a, c.b) != c.want {
			t.Errorf("Clash(%d, %d) = %t", c.a, c.b, !c.want)
		}
	}
}

// P17.1, P17.3: each pair of small modes and of great ones, in both orders.
func TestClashAll(t *testing.T) {
	l := slices.Concat(small(), great())
	for _, a := range l {
		for _, b := range l {
			if clashes(t, a, b) != clashing(a, b) {
				t.Errorf("Clash(%d, %d) = %t", a, b, !clashing(a, b))
			}
		}
	}
	n := 0
	for _, a := range small() {
		for _, b := range small() {
			if !share.Clash(a, b) {
				n++
			}
		}
	}
	// Of each bit, 3 of the 4 pairs of an access and a sharing do, both ways.
	if n != 9*9*9 {
		t.Errorf("%d pairs do not clash", n)
	}
}

// P17.3: none that has less access and more sharing clashes where one that has more access and less sharing did not.
func TestClashLess(t *testing.T) {
	l := small()
	for _, a := range l {
		for _, b := range l {
			if share.Clash(a, b) {
				continue
			}
			for _, less := range l {
				if less.Access&^a.Access == 0 && a.Sharing&^less.Sharing == 0 && clashes(t, less, b) {
					t.Errorf("Clash(%d, %d) = true, not of %d", less, b, a)
				}
			}
		}
	}
	random := rand.New(rand.NewSource(17))
	for range 20000 {
		draw := random.Uint32
		a, b := mode(draw()&draw()&draw(), draw()), mode(draw()&draw()&draw(), draw())
		// More sharing, so that there are some that do not clash.
		a.Sharing |= b.Access
		b.Sharing |= a.Access
		less, under := mode(a.Access&draw(), a.Sharing|draw()), mode(b.Access&draw(), b.Sharing|draw())
		if clashes(t, a, b) || clashes(t, less, b) || clashes(t, a, under) || clashes(t, less, under) {
			t.Errorf("%d and %d, %d and %d", a, less, b, under)
		}
		// One bit that is shared no more, on either side.
		one := uint32(1) << random.Intn(32)
		if !clashes(t, mode(a.Access|one, a.Sharing), mode(b.Access, b.Sharing&^one)) || !clashes(t, mode(a.Access, a.Sharing&^one), mode(b.Access|one, b.Sharing)) {
			t.Errorf("%d, %d: the bit %d", a, b, one)
		}
	}
}

// P17.1: the chapter's row, lists of none, and each place.
func TestAmong(t *testing.T) {
	fits, not := mode(1, 1), mode(3, 0)
	for _, c := range []struct {
		l    []api.Mode
		m    api.Mode
		want int
	}{
		{[]api.Mode{fits, not}, mode(1, 7), 1},
		{nil, mode(1, 7), -1}, {[]api.Mode{}, mode(1, 7), -1}, {[]api.Mode{not}[:0], mode(1, 7), -1}, {nil, api.Mode{}, -1}, {nil, mode(math.MaxUint32, 0), -1},
		{[]api.Mode{fits}, mode(1, 7), -1}, {[]api.Mode{fits, fits, fits}, mode(1, 7), -1}, {[]api.Mode{not}, mode(1, 7), 0},
		{[]api.Mode{not, fits, fits}, mode(1, 7), 0}, {[]api.Mode{fits, not, fits}, mode(1, 7), 1}, {[]api.Mode{fits, fits, not}, mode(1, 7), 2},
		// Several: the first one.
		{[]api.Mode{not, not}, mode(1, 7), 0}, {[]api.Mode{fits, not, not}, mode(1, 7), 1}, {[]api.Mode{fits, not, fits, not}, mode(1, 7), 1}, {[]api.Mode{not, fits, not}, mode(1, 7), 0},
		// By the other one's access, and by its own.
		{[]api.Mode{mode(1, 7), mode(2, 7)}, mode(1, 1), 1}, {[]api.Mode{mode(1, 3), mode(1, 1)}, mode(2, 7), 1}, {[]api.Mode{mode(1, 1), mode(1, 3)}, mode(2, 7), 0},
		// Those of the list clash among themselves, not with it.
		{[]api.Mode{mode(7, 0), mode(7, 0)}, mode(0, 7), -1}, {[]api.Mode{mode(7, 0), mode(7, 0)}, mode(0, 6), 0},
		// Bits above 7.
		{[]api.Mode{mode(0, 7), mode(0, math.MaxUint32), mode(0, 15)}, mode(8, 0), 0}, {[]api.Mode{mode(0, math.MaxUint32), mode(0, 15), mode(0, 1<<31)}, mode(8, 0), 2}, {[]api.Mode{mode(0, math.MaxUint32), mode(math.MaxUint32, 0)}, mode(1<<31, math.MaxInt32), 1},
		// What stands behind its end is not in it.
		{[]api.Mode{fits, not}[:1], mode(1, 7), -1},
	} {
		if n := share.Among(c.l, c.m); n != c.want {
			t.Errorf("Among(%d, %d) = %d", c.l, c.m, n)
		}
	}
}

// P17.1: each list of up to two small modes, and long ones that are drawn; each list is as it was, behind its end too.
func TestAmongAll(t *testing.T) {
	check := func(l []api.Mode, m api.Mode) {
		t.Helper()
		room := slices.Clone(l[:cap(l)])
		want := -1
		for i, x := range slices.Backward(l) {
			if clashing(x, m) {
				want = i
			}
		}
		if n := share.Among(l, m); n != want {
			t.Errorf("Among(%d, %d) = %d, not %d", l, m, n, want)
		}
		if !slices.Equal(l[:cap(l)], room) {
			t.Errorf("Among(%d, %d): behind it %d", room[:len(l)], m, l)
		}
	}
	all := small()
	for _, m := range all {
		check(all, m)
		for _, a := range all {
			check([]api.Mode{a}, m)
			for _, b := range all {
				check([]api.Mode{a, b}, m)
			}
		}
	}
	random := rand.New(rand.NewSource(71))
	drawn := slices.Concat(all, great())
	for range 3000 {
		// Of what fits, with a few others between, so that the first one that clashes stands anywhere.
		m := drawn[random.Intn(len(drawn))]
		l := make([]api.Mode, random.Intn(api.MaxOpens), api.MaxOpens+2)
		for i := range l[:cap(l)] {
			x := drawn[random.Intn(len(drawn))]
			if random.Intn(20) > 0 {
				x = mode(x.Access&m.Sharing, x.Sharing|m.Access)
			}
			l[:cap(l)][i] = x
		}
		check(l, m)
	}
}

// P17.1, P17.3: where each mode of a list clashes with none ahead of it, none clashes with any other.
func TestAmongGrown(t *testing.T) {
	all := small()
	random := rand.New(rand.NewSource(3))
	for range 300 {
		var l []api.Mode
		for range 200 {
			if m := all[random.Intn(len(all))]; share.Among(l, m) == -1 {
				l = append(l, m)
			}
		}
		for i, m := range l {
			if n := share.Among(slices.Concat(l[:i], l[i+1:]), m); n != -1 {
				t.Fatalf("%d: %d clashes with that at %d", l, m, n)
			}
		}
	}
}
