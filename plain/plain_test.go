package plain_test

import (
	"math"
	"math/rand"
	"slices"
	"testing"

	"spinnaker/api"
	"spinnaker/plain"
	"spinnaker/ring"
)

// refused are records that a ring does not take.
func refused() []api.Record {
	return []api.Record{{T: -1, V: 5}, {T: math.MinInt64, V: 5}, {T: api.MaxTime + 1, V: 5}, {T: math.MaxInt64, V: 5}, {T: 5, V: -1}, {T: 5, V: math.MinInt64}}
}

// 6.1
func TestSumByHand(t *testing.T) {
	l := []api.Record{{T: 0, V: 1}, {T: 1, V: 2}, {T: 2, V: 3}, {T: 3, V: 4}, {T: 4, V: 5}, {T: 5, V: 6}, {T: 6, V: 7}, {T: 7, V: 8}}
	for _, x := range [][4]int64{
		{-1, 0, 0, 0}, {math.MinInt64, 0, 0, 0}, {0, 0, 0, 0}, {1, 0, 0, 0}, {2, 7, 2, 3}, {3, 7, 2, 3}, {5, 18, 4, 4}, {7, 33, 6, 5}, {8, 26, 4, 6}, {11, 15, 2, 7}, {12, 0, 0, 0},
	} {
		s, n := plain.Sum(l, 6, 2, x[0])
		if m := plain.Mean(l, 6, 2, x[0]); s != x[1] || n != x[2] || m != x[3] {
			t.Fatal(x, s, n, m)
		}
	}
}

// 6.1: what was too late when it was put does not count, nor what was left behind since.
func TestWhenItWasPutCounts(t *testing.T) {
	for i, x := range []struct {
		l    []api.Record
		t    int64
		s, n int64
	}{
		{[]api.Record{{T: 10, V: 1}, {T: 8, V: 2}, {T: 7, V: 4}}, 10, 3, 2},
		{[]api.Record{{T: 7, V: 4}, {T: 8, V: 2}, {T: 10, V: 1}}, 10, 3, 2},
		{[]api.Record{{T: 7, V: 4}, {T: 8, V: 2}, {T: 10, V: 1}}, 9, 2, 1},
		{[]api.Record{{T: 7, V: 4}, {T: 10, V: 1}, {T: 20, V: 8}}, 10, 0, 0},
		{[]api.Record{{T: 20, V: 8}, {T: 10, V: 1}}, 10, 0, 0},
		{[]api.Record{{T: 20, V: 8}, {T: 18, V: 1}, {T: 17, V: 2}}, 18, 1, 1},
		{[]api.Record{{T: 5, V: 8}}, 7, 8, 1},
		{[]api.Record{{T: 5, V: 8}}, 8, 0, 0},
		{[]api.Record{{T: 5, V: 8}}, 4, 0, 0},
	} {
		if s, n := plain.Sum(x.l, 3, 1, x.t); s != x.s || n != x.n {
			t.Fatal(i, s, n)
		}
	}
}

// 6.1
func TestNothingOfWhatIsRefused(t *testing.T) {
	l := []api.Record{{T: 1, V: 2}}
	for _, x := range [][2]int{{0, 0}, {0, 1}, {1, 0}, {1, 2}, {-6, -2}, {6, -2}, {601, 1}, {600, 601}, {math.MaxInt, 1}, {math.MaxInt, math.MaxInt}, {math.MinInt, 1}} {
		if s, n := plain.Sum(l, x[0], x[1], 1); s != 0 || n != 0 || plain.Mean(l, x[0], x[1], 1) != 0 {
			t.Fatal(x, s, n)
		}
	}
	for _, window := range []int{1, 6, 600} {
		if s, n := plain.Sum(l, window, 1, 1); s != 2 || n != 1 || plain.Mean(l, window, 1, 1) != 2 {
			t.Fatal(window, s, n)
		}
	}
	if s, n := plain.Sum(refused(), 6, 2, 5); s != 0 || n != 0 || plain.Mean(refused(), 6, 2, 5) != 0 {
		t.Fatal(s, n)
	}
	if s, n := plain.Sum(append(refused(), l...), 6, 2, 1); s != 2 || n != 1 {
		t.Fatal(s, n)
	}
	if s, n := plain.Sum(nil, 6, 2, 5); s != 0 || n != 0 || plain.Mean(nil, 6, 2, 5) != 0 {
		t.Fatal(s, n)
	}
}

// 6.1
func TestSumsAreCut(t *testing.T) {
	l := []api.Record{{T: 1, V: math.MaxInt64}, {T: 1, V: 1}, {T: 2, V: 0}}
	if s, n := plain.Sum(l, 6, 2, 2); s != math.MaxInt64 || n != 3 || plain.Mean(l, 6, 2, 2) != math.MaxInt64/3 {
		t.Fatal(s, n)
	}
}

// 6.1
func TestNewest(t *testing.T) {
	for i, x := range []struct {
		l []api.Record
		t int64
	}{
		{nil, -1},
		{refused(), -1},
		{[]api.Record{{T: 0, V: 0}}, 0},
		{[]api.Record{{T: 3, V: 0}, {T: 9, V: 1}, {T: 4, V: 2}}, 9},
		{append(refused(), api.Record{T: 3, V: 1}, api.Record{T: 7, V: -1}), 3},
		{[]api.Record{{T: api.MaxTime, V: math.MaxInt64}, {T: 2, V: 1}}, api.MaxTime},
	} {
		if n := plain.Newest(x.l); n != x.t {
			t.Fatal(i, n)
		}
	}
}

// 6.1
func TestSteady(t *testing.T) {
	for i, x := range []struct {
		l  []api.Record
		v  int64
		ok bool
	}{
		{nil, 5, true},
		{nil, -1, true},
		{refused(), 3, true},
		{[]api.Record{{T: 1, V: 5}}, 5, true},
		{[]api.Record{{T: 1, V: 5}}, 4, false},
		{[]api.Record{{T: 1, V: 5}, {T: 2, V: 5}, {T: 0, V: 5}}, 5, true},
		{[]api.Record{{T: 1, V: 5}, {T: 2, V: 5}, {T: 0, V: 6}}, 5, false},
		{[]api.Record{{T: 1, V: 6}, {T: 2, V: 5}}, 5, false},
		{[]api.Record{{T: 1, V: 5}, {T: -1, V: 6}, {T: api.MaxTime + 1, V: 6}, {T: 1, V: -6}}, 5, true},
		{[]api.Record{{T: 1, V: 0}}, -1, false},
	} {
		if ok := plain.Steady(x.l, x.v); ok != x.ok {
			t.Fatal(i, ok)
		}
	}
}

// 6.2, T1
func TestRingsAndHistoriesAreOne(t *testing.T) {
	r := rand.New(rand.NewSource(8))
	for range 3000 {
		window := 1 + r.Intn(12)
		if r.Intn(10) == 0 {
			window = 1 + r.Intn(600)
		}
		grain := 1 + r.Intn(window)
		x := ring.New(window, grain)
		var l []api.Record
		now := int64(r.Intn(20))
		for range r.Intn(60) {
			now += int64(r.Intn(4))
			if r.Intn(20) == 0 {
				now += int64(r.Intn(3 * window))
			}
			e := api.Record{T: now - int64(r.Intn(window+3)*r.Intn(2)), V: int64(r.Intn(1000)) - 10}
			if r.Intn(100) == 0 {
				e.V = math.MaxInt64 - 5
			}
			l = append(l, e)
			x.Put(e.T, e.V)
		}
		was := slices.Clone(l)
		for range 20 {
			at := now + int64(r.Intn(3*window+3)-2*window)
			s, n := x.Sum(at)
			if ps, pn := plain.Sum(l, window, grain, at); ps != s || pn != n {
				t.Fatal(l, window, grain, at, s, n, ps, pn)
			}
			if m, pm := x.Mean(at), plain.Mean(l, window, grain, at); m != pm {
				t.Fatal(l, window, grain, at, m, pm)
			}
		}
		if !slices.Equal(was, l) {
			t.Fatal("changed")
		}
	}
}
