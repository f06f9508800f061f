package sample_test

import (
	"math"
	"math/big"
	"math/rand"
	"slices"
	"testing"

	"spinnaker/sample"
)

// 10.1
func TestSize(t *testing.T) {
	for n, size := range map[int]int{
		math.MinInt: 0, -1: 0, 0: 0, 1: 1, 2: 2, 3: 3, 4: 4, 5: 5, 6: 6, 7: 6, 8: 7, 10: 7, 13: 8, 14: 9, 50: 13, 100: 15, 195: 15, 196: 16, 197: 16, 1000: 16,
		1 << 59: 16, 1 << 60: 16, math.MaxInt - 13: 16, math.MaxInt - 12: 16, math.MaxInt: 16,
	} {
		if g := sample.Size(n); g != size {
			t.Fatal(n, g, size)
		}
	}
	for n := 4; n < 3000; n++ {
		if g := sample.Size(n); g != max((16*n+n+12)/(n+13), 3) {
			t.Fatal(n, g)
		}
	}
}

func upTo(n int) []int {
	l := make([]int, n)
	for i := range l {
		l[i] = 100 + i
	}
	return l
}

// 10.2
func TestWhich(t *testing.T) {
	for i, x := range []struct {
		ids   []int
		most  int
		round int64
		want  []int
	}{
		{nil, 0, 0, nil},
		{nil, 5, 7, nil},
		{[]int{}, -1, math.MaxInt64, nil},
		{[]int{5, 6}, 1, 1, []int{6}},
		{[]int{5, 6}, 1, 0, []int{5}},
		{[]int{5, 6}, 1, 2, []int{5}},
		{[]int{5, 6}, 1, -1, []int{5}},
		{[]int{5, 6}, 1, math.MinInt64, []int{5}},
		{[]int{5, 6}, 0, 1, []int{5, 6}},
		{[]int{5, 6}, 2, 1, []int{5, 6}},
		{[]int{5, 6}, 3, 1, []int{5, 6}},
		{[]int{5, 6}, -1, 1, []int{5, 6}},
		{[]int{9, 9, 3}, 2, 1, []int{3, 9}},
		{[]int{9, 9, 3}, 2, 2, []int{9, 3}},
		{[]int{7}, 0, math.MaxInt64, []int{7}},
		{upTo(8), 0, 1, []int{107, 100, 101, 102, 103, 104, 105}},
		{upTo(8), 0, 2, []int{106, 107, 100, 101, 102, 103, 104}},
		{upTo(8), 100, 1, []int{107, 100, 101, 102, 103, 104, 105}},
		{upTo(8), 3, 3, []int{101, 102, 103}},
		{upTo(7), 3, math.MaxInt64, []int{100, 101, 102}},
		{upTo(5), 3, math.MaxInt64, []int{101, 102, 103}},
	} {
		if g := sample.Which(x.ids, x.most, x.round); !slices.Equal(g, x.want) {
			t.Fatal(i, g, x.want)
		}
	}
}

// 10.2
func TestWhichStandsWhereTheRoundPoints(t *testing.T) {
	r := rand.New(rand.NewSource(12))
	for range 20000 {
		ids := make([]int, 1+r.Intn(40))
		for i := range ids {
			ids[i] = r.Intn(100) - 50
		}
		most, round := r.Intn(20)-3, int64(r.Uint64())>>r.Intn(64)
		k := sample.Size(len(ids))
		if most > 0 && most < k {
			k = most
		}
		start := new(big.Int).Mul(big.NewInt(max(round, 0)), big.NewInt(int64(k)))
		from := int(start.Mod(start, big.NewInt(int64(len(ids)))).Int64())
		was := slices.Clone(ids)
		got := sample.Which(ids, most, round)
		if len(got) != k {
			t.Fatal(ids, most, round, got)
		}
		for i := range got {
			if got[i] != ids[(from+i)%len(ids)] {
				t.Fatal(ids, most, round, got)
			}
		}
		got[0]++
		if !slices.Equal(was, ids) {
			t.Fatal("changed")
		}
	}
}

// 10.3: as many rounds as there are pods leave none out.
func TestInSomeRoundsAllAreAsked(t *testing.T) {
	for n := 1; n < 60; n++ {
		for most := -1; most < 18; most++ {
			seen := make([]bool, n)
			for round := range int64(n) {
				for _, id := range sample.Which(upTo(n), most, round) {
					seen[id-100] = true
				}
			}
			if slices.Contains(seen, false) {
				t.Fatal(n, most)
			}
		}
	}
}
