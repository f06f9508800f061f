package load_test

import (
	"math"
	"math/rand"
	"testing"

	"spinnaker/api"
	"spinnaker/load"
)

const most = 1 << 40

func counts() []int {
	return []int{math.MinInt, math.MinInt + 1, -most - 1, -most, -2, -1, 0, 1, 2, 3, 1000, most - 1, most, most + 1, 1 << 53, math.MaxInt - 1, math.MaxInt}
}

func cut(n int) int { return min(max(n, 0), most) }

// 2.1
func TestOfHoldsBothPartsWithinTheirEnds(t *testing.T) {
	for _, b := range counts() {
		for _, w := range counts() {
			z := load.Of(b, w)
			if z != complex(float64(cut(b)), float64(cut(w))) {
				t.Fatal(b, w, z)
			}
			if load.Busy(z) != cut(b) || load.Waiting(z) != cut(w) {
				t.Fatal(b, w, load.Busy(z), load.Waiting(z))
			}
		}
	}
}

// 2.1
func TestPartsOfAnyNumber(t *testing.T) {
	for _, x := range []struct {
		part float64
		n    int
	}{
		{0, 0}, {math.Copysign(0, -1), 0}, {0.999, 0}, {1, 1}, {1.5, 1}, {2.999, 2}, {-0.5, 0}, {-1, 0}, {-7.5, 0},
		{most - 1, most - 1}, {most - 0.5, most - 1}, {most, most}, {most + 0.5, most}, {most + 1, most}, {1e300, most},
		{math.Inf(1), most}, {math.Inf(-1), 0}, {math.NaN(), 0}, {math.SmallestNonzeroFloat64, 0}, {math.MaxFloat64, most}, {-math.MaxFloat64, 0},
	} {
		for _, other := range []float64{0, 5, math.NaN(), math.Inf(1), math.Inf(-1)} {
			if n := load.Busy(complex(x.part, other)); n != x.n {
				t.Fatal("Busy", x.part, other, n)
			}
			if n := load.Waiting(complex(other, x.part)); n != x.n {
				t.Fatal("Waiting", x.part, other, n)
			}
		}
	}
}

// 2.1
func TestSumGoesPartByPart(t *testing.T) {
	for i, x := range []struct {
		l []complex128
		z complex128
	}{
		{nil, 0},
		{[]complex128{}, 0},
		{[]complex128{3 + 2i}, 3 + 2i},
		{[]complex128{3 + 2i, 4 + 5i, 1i}, 7 + 8i},
		{[]complex128{0.5 + 1.5i, 0.5 + 1.5i}, 2i},
		{[]complex128{-5 + 3i, 5 - 3i}, 5 + 3i},
		{[]complex128{most + 1i, 1 + 1i}, most + 2i},
		{[]complex128{1 + (most-1)*1i, 1 + 5i, 1 + 1i}, 3 + most*1i},
		{[]complex128{1e30, 1e30i, 1e30}, most + most*1i},
		{[]complex128{complex(math.NaN(), 2), complex(2, math.Inf(-1))}, 2 + 2i},
	} {
		if z := load.Sum(x.l); z != x.z {
			t.Fatal(i, z)
		}
	}
}

// 2.1
func TestSumChangesNothing(t *testing.T) {
	l := []complex128{-1.5 + 2.5i, 1e30 + 1i}
	load.Sum(l)
	if l[0] != -1.5+2.5i || l[1] != 1e30+1i {
		t.Fatal(l)
	}
}

// 2.2
func TestMove(t *testing.T) {
	for i, x := range []struct {
		z    complex128
		n    int
		to   complex128
		code int
	}{
		{3 + 2i, 0, 3 + 2i, api.OK},
		{3 + 2i, 1, 4 + 1i, api.OK},
		{3 + 2i, 2, 5, api.OK},
		{3 + 2i, 3, 3 + 2i, api.ErrRange},
		{3 + 2i, -3, 5i, api.OK},
		{3 + 2i, -4, 3 + 2i, api.ErrRange},
		{3 + 2i, math.MaxInt, 3 + 2i, api.ErrRange},
		{3 + 2i, math.MinInt, 3 + 2i, api.ErrRange},
		{most + 2i, 1, most + 2i, api.ErrRange},
		{most - 1 + 2i, 1, most + 1i, api.OK},
		{most - 1 + 2i, 2, most - 1 + 2i, api.ErrRange},
		{2 + most*1i, -1, 2 + most*1i, api.ErrRange},
		{2 + (most-1)*1i, -1, 1 + most*1i, api.OK},
		{2 + (most-1)*1i, -2, 2 + (most-1)*1i, api.ErrRange},
		{most * 1i, most, most, api.OK},
		{most, -most, most * 1i, api.OK},
		{1.5 + 2.5i, 1, 2 + 1i, api.OK},
		{1.5 + 2.5i, 9, 1 + 2i, api.ErrRange},
		{-4 + 2.5i, 9, 2i, api.ErrRange},
		{1e30 + 2.5i, 1, most + 2i, api.ErrRange},
		{complex(math.NaN(), 1), 1, 1, api.OK},
		{complex(math.NaN(), math.Inf(1)), -1, most * 1i, api.ErrRange},
	} {
		if z, code := load.Move(x.z, x.n); z != x.to || code != x.code {
			t.Fatal(i, z, code)
		}
	}
}

// 2.2
func TestSwap(t *testing.T) {
	for _, x := range [][2]complex128{
		{3 + 2i, 2 + 3i}, {0, 0}, {1.5 + 2.5i, 2 + 1i}, {-1 + 7i, 7}, {1e30 + 1i, 1 + most*1i}, {complex(math.NaN(), 4), 4},
	} {
		if z := load.Swap(x[0]); z != x[1] {
			t.Fatal(x, z)
		}
	}
}

// 2.2
func TestLess(t *testing.T) {
	for i, x := range []struct {
		a, b complex128
		less bool
	}{
		{1, 2, true}, {2, 1, false}, {1, 1, false},
		{1 + 9i, 2, true}, {2, 1 + 9i, false},
		{1 + 1i, 1 + 2i, true}, {1 + 2i, 1 + 1i, false}, {1 + 2i, 1 + 2i, false},
		{1.2, 1.7, false}, {1.7, 1.2, false}, {1.7 + 1i, 1.2 + 2i, true},
		{-5, -3, false}, {-5, 0, false}, {1e30, most, false}, {most, 1e30, false}, {most - 1, 1e30, true},
		{complex(math.NaN(), 0), 1, true}, {1, complex(math.NaN(), 0), false}, {complex(math.NaN(), math.NaN()), 0, false},
	} {
		if less := load.Less(x.a, x.b); less != x.less {
			t.Fatal(i, less)
		}
	}
}

// 2.3: what one number holds comes back of it, whatever is done with it.
func TestOneNumberIsTheWholeLoad(t *testing.T) {
	r := rand.New(rand.NewSource(2))
	for range 20000 {
		b, w := r.Intn(most+1)>>r.Intn(41), r.Intn(most+1)>>r.Intn(41)
		n := (r.Intn(2*most) - most) >> r.Intn(41)
		z, code := load.Move(load.Of(b, w), n)
		if may := n <= w && n >= -b && b+n <= most && w-n <= most; !may {
			if code != api.ErrRange || z != load.Of(b, w) {
				t.Fatal(b, w, n, z, code)
			}
			continue
		}
		if code != api.OK || load.Busy(z) != b+n || load.Waiting(z) != w-n {
			t.Fatal(b, w, n, z, code)
		}
	}
}
