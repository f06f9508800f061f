package subset_test

import (
	"math"
	"math/big"
	"math/rand"
	"slices"
	"sort"
	"testing"

	"spinnaker/subset"
)

// 18.1
func TestScore(t *testing.T) {
	for id, score := range map[int]uint32{
		0: 0, 1: 2654435761, 2: 1013904226, 3: 3668339987, 10: 774553834, -1: 1640531535, -2: 3281063070,
		1 << 32: 0, 1<<32 + 1: 2654435761, 1 << 31: 2147483648, 1<<32 - 1: 1640531535, math.MaxInt: 1640531535, math.MinInt: 0, math.MinInt + 1: 2654435761,
	} {
		if s := subset.Score(id); s != score {
			t.Fatal(id, s, score)
		}
	}
	r := rand.New(rand.NewSource(21))
	end := big.NewInt(1 << 32)
	for range 10000 {
		id := int(r.Uint64()) >> r.Intn(64)
		n := new(big.Int).Mul(new(big.Int).Mod(big.NewInt(int64(id)), end), big.NewInt(2654435761))
		if s := subset.Score(id); uint64(s) != n.Mod(n, end).Uint64() {
			t.Fatal(id, s)
		}
	}
}

// 18.1
func TestOf(t *testing.T) {
	for i, x := range []struct {
		ids  []int
		most int
		want []int
	}{
		{nil, 0, nil}, {nil, 1, nil}, {nil, -1, nil}, {[]int{}, 5, nil},
		{[]int{1, 2}, 0, []int{1, 2}}, {[]int{2, 1}, -1, []int{2, 1}}, {[]int{2, 1}, math.MinInt, []int{2, 1}}, {[]int{2, 1}, 2, []int{2, 1}}, {[]int{2, 1}, 3, []int{2, 1}}, {[]int{2, 1}, math.MaxInt, []int{2, 1}},
		{[]int{7}, 1, []int{7}},
		{[]int{1, 2}, 1, []int{2}}, {[]int{2, 1}, 1, []int{2}}, {[]int{0, 1, 2, 3}, 1, []int{0}}, {[]int{3, 2, 1, 0}, 2, []int{2, 0}}, {[]int{3, 2, 1, 0}, 3, []int{2, 1, 0}},
		// alike in Score: the lesser id
		{[]int{1<<32 + 5, 5}, 1, []int{5}}, {[]int{5, 1<<32 + 5}, 1, []int{5}}, {[]int{5, 5 - 1<<32, 1<<32 + 5}, 1, []int{5 - 1<<32}}, {[]int{1<<32 + 5, 5, 5 - 1<<32}, 2, []int{5, 5 - 1<<32}},
		// the same one: by its place, which is seen by who else stands between
		{[]int{5, 5, 5}, 2, []int{5, 5}}, {[]int{2, 1, 2}, 2, []int{2, 2}}, {[]int{1, 0, 1, 1}, 2, []int{1, 0}}, {[]int{1, 1, 0}, 2, []int{1, 0}},
	} {
		was := slices.Clone(x.ids)
		got := subset.Of(x.ids, x.most)
		if !slices.Equal(got, x.want) {
			t.Fatal(i, got)
		}
		if len(got) > 0 { // it is the caller's own
			got[0]++
		}
		if !slices.Equal(was, x.ids) {
			t.Fatal("changed", i)
		}
	}
}

// 18.1
func TestThoseOfTheLeastScores(t *testing.T) {
	r := rand.New(rand.NewSource(22))
	for range 5000 {
		ids := make([]int, r.Intn(30))
		for i := range ids {
			ids[i] = r.Intn(40) + r.Intn(3)<<32
		}
		most := r.Intn(35) - 2
		places := make([]int, len(ids))
		for i := range places {
			places[i] = i
		}
		if most >= 1 && most < len(ids) {
			sort.SliceStable(places, func(i, j int) bool {
				a, b := ids[places[i]], ids[places[j]]
				if sa, sb := subset.Score(a), subset.Score(b); sa != sb {
					return sa < sb
				}
				return a < b
			})
			places = places[:most]
			sort.Ints(places)
		}
		got := subset.Of(ids, most)
		if len(got) != len(places) {
			t.Fatal(ids, most, got)
		}
		for i, p := range places {
			if got[i] != ids[p] {
				t.Fatal(ids, most, got)
			}
		}
	}
}

// 18.2: of who stays none goes out, and at most one comes in for who goes.
func TestWhoGoesTakesFewOthersAlong(t *testing.T) {
	r := rand.New(rand.NewSource(23))
	for range 2000 {
		ids := r.Perm(60)[:2+r.Intn(40)]
		most := 1 + r.Intn(len(ids))
		before := subset.Of(ids, most)
		gone := r.Intn(len(ids))
		after := subset.Of(slices.Delete(slices.Clone(ids), gone, gone+1), most)
		fresh := 0
		for _, id := range after {
			if !slices.Contains(before, id) {
				fresh++
			}
		}
		for _, id := range before {
			if id != ids[gone] && !slices.Contains(after, id) {
				t.Fatal(ids, most, id)
			}
		}
		if fresh > 1 || fresh == 1 && !slices.Contains(before, ids[gone]) {
			t.Fatal(ids, most, gone, before, after)
		}
	}
}
