package pick_test

import (
	"math"
	"math/rand"
	"slices"
	"testing"

	"spinnaker/load"
	"spinnaker/pick"
)

const most = 1 << 40

// 19.1
func TestLeastAndFirst(t *testing.T) {
	for i, x := range []struct {
		l            []complex128
		limit        int
		least, first int
	}{
		{nil, 5, -1, -1},
		{[]complex128{}, 0, -1, -1},
		{[]complex128{2, 1}, 3, 1, 0},
		{[]complex128{2, 1}, 2, 1, 1},
		{[]complex128{2, 1}, 1, -1, -1},
		{[]complex128{2, 1}, 0, -1, -1},
		{[]complex128{0}, 0, -1, -1},
		{[]complex128{0}, -1, -1, -1},
		{[]complex128{0}, math.MinInt, -1, -1},
		{[]complex128{0}, 1, 0, 0},
		{[]complex128{1, 1, 1}, 2, 0, 0},
		{[]complex128{3, 1, 1}, 2, 1, 1},
		{[]complex128{3, 2, 1, 1, 2}, 9, 2, 0},
		{[]complex128{1 + 5i, 1 + 4i, 2}, 9, 1, 0},
		{[]complex128{1 + 5i, 2, 1 + 5i}, 9, 0, 0},
		{[]complex128{5 + 9i, 4 + 9i}, 5, 1, 1},
		{[]complex128{1.9, 1.2, 1.5}, 2, 0, 0},
		{[]complex128{-3, -5, 0}, 1, 0, 0},
		{[]complex128{complex(math.NaN(), 1), 0}, 1, 1, 0},
		{[]complex128{1e30, most}, most, -1, -1},
		{[]complex128{1e30, most}, most + 1, 0, 0},
		{[]complex128{1e30, most - 1}, most, 1, 1},
		{[]complex128{complex(math.Inf(1), 0)}, math.MaxInt, 0, 0},
	} {
		was := slices.Clone(x.l)
		if least, first := pick.Least(x.l, x.limit), pick.First(x.l, x.limit); least != x.least || first != x.first {
			t.Fatal(i, least, first)
		}
		for j := range was {
			if was[j] != x.l[j] && !math.IsNaN(real(was[j])) {
				t.Fatal("changed", i)
			}
		}
	}
}

// 19.1
func TestSpare(t *testing.T) {
	for i, x := range []struct {
		l     []complex128
		limit int
		n     int
	}{
		{nil, 5, 0}, {[]complex128{}, math.MaxInt, 0},
		{[]complex128{2, 1}, 3, 3}, {[]complex128{2, 1}, 2, 1}, {[]complex128{2, 1}, 1, 0}, {[]complex128{9, 1}, 3, 2},
		{[]complex128{2, 1}, 0, 0}, {[]complex128{0, 0}, -1, 0}, {[]complex128{0}, math.MinInt, 0},
		{[]complex128{1 + 7i, 7i}, 3, 5}, {[]complex128{1.9, -4, complex(math.NaN(), 0)}, 3, 8},
		{[]complex128{0}, most, most}, {[]complex128{0}, most + 1, most}, {[]complex128{0, 1}, math.MaxInt, 2*most - 1},
		{[]complex128{most}, most + 5, 0}, {[]complex128{1e30, 5}, most + 5, most - 5},
	} {
		if n := pick.Spare(x.l, x.limit); n != x.n {
			t.Fatal(i, n)
		}
	}
}

// 19.1, 19.2, T2
func TestTheLeastLoadedGoesOn(t *testing.T) {
	r := rand.New(rand.NewSource(24))
	for range 5000 {
		l := make([]complex128, r.Intn(8))
		for i := range l {
			l[i] = load.Of(r.Intn(5), r.Intn(3))
		}
		limit := r.Intn(8) - 1
		first, least, spare := -1, -1, 0
		for i, z := range l {
			if load.Busy(z) >= limit {
				continue
			}
			spare += limit - load.Busy(z)
			if first < 0 {
				first = i
			}
			below := true
			for j, other := range l {
				if load.Busy(other) < limit && (load.Less(other, z) || j < i && !load.Less(z, other)) {
					below = false
				}
			}
			if below {
				least = i
			}
		}
		if pick.Least(l, limit) != least || pick.First(l, limit) != first || pick.Spare(l, limit) != spare {
			t.Fatal(l, limit, least, first, spare)
		}
	}
}
