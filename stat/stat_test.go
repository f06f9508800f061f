package stat_test

import (
	"math"
	"math/big"
	"math/rand"
	"slices"
	"testing"

	"spinnaker/api"
	"spinnaker/stat"
)

const top, low = math.MaxInt64, math.MinInt64

// wrong are stats that no pod tells.
func wrong() []api.Stat {
	return []api.Stat{{Pod: -1, Age: 9, Load: 9}, {Pod: 1, Age: -1, Load: 9}, {Pod: 1, Age: 9, Load: -1}, {Pod: low, Age: low, Load: low}, {Pod: 1, Age: 9, Load: low}}
}

// 9.1
func TestMay(t *testing.T) {
	for _, s := range wrong() {
		if stat.May(s) {
			t.Fatal(s)
		}
	}
	for _, s := range []api.Stat{{}, {Pod: 1, Age: 2, Load: 3}, {Pod: top, Age: top, Load: top}} {
		if !stat.May(s) {
			t.Fatal(s)
		}
	}
}

// 9.1
func TestMean(t *testing.T) {
	old := []api.Stat{{Pod: 0, Age: 10, Load: 100}, {Pod: 1, Age: 5, Load: 201}, {Pod: 2, Age: 4, Load: 1000}}
	for i, x := range []struct {
		l     []api.Stat
		young int
		mean  int64
		n     int
	}{
		{nil, 0, 0, 0},
		{wrong(), 0, 0, 0},
		{wrong(), -5, 0, 0},
		{wrong(), 100, 0, 0},
		{old, 0, 433, 3},
		{old, low, 433, 3},
		{old, 4, 433, 3},
		{old, 5, 150, 2},
		{old, 6, 100, 1},
		{old, 10, 100, 1},
		{old, 11, 433, 3}, // none is old enough: all
		{old, top, 433, 3},
		{append(wrong(), old...), 5, 150, 2},
		{append(wrong(), old...), 11, 433, 3},
		{[]api.Stat{{Load: top}, {Load: 1}}, 0, top / 2, 2},
		{[]api.Stat{{Load: top}, {Load: top}, {Load: top}}, 0, top / 3, 3},
		{[]api.Stat{{Age: 1, Load: 0}, {Load: 50}}, 1, 0, 1},
		{[]api.Stat{{Pod: 1, Load: 4}, {Pod: 1, Load: 5}}, 0, 4, 2},
	} {
		was := slices.Clone(x.l)
		if mean, n := stat.Mean(x.l, x.young); mean != x.mean || n != x.n {
			t.Fatal(i, mean, n)
		}
		if !slices.Equal(was, x.l) {
			t.Fatal("changed")
		}
	}
}

// 9.2
func TestSpread(t *testing.T) {
	for i, x := range []struct {
		l            []api.Stat
		young, ready int
		n            int64
		code         int
	}{
		{[]api.Stat{{Load: 500}}, 0, 4, 2000, api.OK},
		{[]api.Stat{{Load: 500}}, 0, 0, 0, api.OK},
		{[]api.Stat{{Load: 500}}, 0, -1, 0, api.ErrArg},
		{[]api.Stat{{Load: 500}}, 0, low, 0, api.ErrArg},
		{nil, 0, 4, 0, api.ErrNone},
		{wrong(), 0, 4, 0, api.ErrNone},
		{nil, 0, -1, 0, api.ErrNone}, // told ahead of what ready is
		{append(wrong(), api.Stat{Load: 3}), 0, 2, 6, api.OK},
		// times first: 5 * 3 / 2, not 2 * 3
		{[]api.Stat{{Load: 2}, {Load: 3}}, 0, 3, 7, api.OK},
		{[]api.Stat{{Load: 1}, {Load: 0}, {Load: 0}}, 0, 100, 33, api.OK},
		{[]api.Stat{{Age: 5, Load: 10}, {Age: 1, Load: 1000}}, 5, 3, 30, api.OK},
		{[]api.Stat{{Age: 5, Load: 10}, {Age: 1, Load: 1000}}, 6, 4, 2020, api.OK},
		{[]api.Stat{{Load: top}}, 0, 1, top, api.OK},
		{[]api.Stat{{Load: top}}, 0, 2, top, api.ErrOver},
		{[]api.Stat{{Load: top}}, 0, 0, 0, api.OK},
		{[]api.Stat{{Load: top}, {Load: 1}}, 0, 1, top / 2, api.ErrOver},
		{[]api.Stat{{Load: top}, {Load: 1}}, 0, 0, 0, api.ErrOver},
		{[]api.Stat{{Load: top}, {Load: 0}}, 0, 1, top / 2, api.OK},
		{[]api.Stat{{Load: top / 2}, {Load: top / 2}}, 0, 2, top / 2, api.ErrOver},
		{[]api.Stat{{Load: 2}}, 0, top / 2, top - 1, api.OK},
		{[]api.Stat{{Load: 2}}, 0, top/2 + 1, top, api.ErrOver},
		{[]api.Stat{{Load: 0}}, 0, top, 0, api.OK},
		{[]api.Stat{{Load: 1}}, 0, top, top, api.OK},
		{[]api.Stat{{Load: top}}, 0, top, top, api.ErrOver},
		{[]api.Stat{{Load: 1 << 33}}, 0, 1 << 31, top, api.ErrOver},
		{[]api.Stat{{Load: 1 << 32}}, 0, 1 << 32, top, api.ErrOver},
	} {
		was := slices.Clone(x.l)
		if n, code := stat.Spread(x.l, x.young, x.ready); n != x.n || code != x.code {
			t.Fatal(i, n, code)
		}
		if !slices.Equal(was, x.l) {
			t.Fatal("changed")
		}
	}
}

// 9.1, 9.2, 9.3
func TestSomePodsSpeakForAll(t *testing.T) {
	r := rand.New(rand.NewSource(11))
	for range 5000 {
		var l []api.Stat
		for range r.Intn(6) {
			s := api.Stat{Pod: r.Intn(20) - 1, Age: r.Intn(10) - 1, Load: int64(r.Uint64()) >> r.Intn(64)}
			l = append(l, s)
		}
		young, ready := r.Intn(12)-2, int(int64(r.Uint64()>>1)>>r.Intn(64))
		sum, number := new(big.Int), int64(0)
		for _, least := range []int{young, 0} {
			for _, s := range l {
				if s.Pod >= 0 && s.Age >= max(least, 0) && s.Load >= 0 {
					sum.Add(sum, big.NewInt(s.Load))
					number++
				}
			}
			if number > 0 {
				break
			}
		}
		mean, n := stat.Mean(l, young)
		spread, code := stat.Spread(l, young, ready)
		if number == 0 {
			if mean != 0 || n != 0 || spread != 0 || code != api.ErrNone {
				t.Fatal(l, mean, n, spread, code)
			}
			continue
		}
		over := api.OK
		cut := func() int64 {
			if !sum.IsInt64() {
				over = api.ErrOver
				sum.SetInt64(top)
			}
			return sum.Int64() / number
		}
		if m := cut(); mean != m || n != int(number) {
			t.Fatal(l, young, mean, n, m)
		}
		sum.Mul(sum, big.NewInt(int64(ready)))
		if m := cut(); spread != m || code != over {
			t.Fatal(l, young, ready, spread, code, m, over)
		}
	}
}
