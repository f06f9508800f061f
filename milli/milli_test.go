package milli_test

import (
	"math"
	"math/big"
	"math/rand"
	"testing"

	"spinnaker/api"
	"spinnaker/milli"
)

const top, low = math.MaxInt64, math.MinInt64

// edges are where 64 bits go round, and the numbers beside them.
func edges() []int64 {
	return []int64{
		low, low + 1, low + 2, low / 2, low/2 - 1, low / 999, low / 1000, low/1000 - 1, -3037000500, -4294967296,
		-1001000, -1001, -1000, -999, -501, -500, -7, -3, -2, -1, 0, 1, 2, 3, 7, 499, 500, 999, 1000, 1001, 1500,
		2000, 1001000, 3037000499, 4294967296, top / 1001, top / 1000, top/1000 + 1, top / 999, top / 2, top/2 + 1, top - 2, top - 1, top,
	}
}

// numbers are pairs of all edges, and some by chance, of all sizes.
func numbers(t *testing.T, try func(a, b int64)) {
	t.Helper()
	for _, a := range edges() {
		for _, b := range edges() {
			try(a, b)
		}
	}
	r := rand.New(rand.NewSource(1))
	for range 20000 {
		try(int64(r.Uint64())>>r.Intn(64), int64(r.Uint64())>>r.Intn(64))
	}
}

// cut is the nearer end of what lies beyond 64 bits.
func cut(n *big.Int) (int64, int) {
	if n.IsInt64() {
		return n.Int64(), api.OK
	}
	if n.Sign() < 0 {
		return low, api.ErrOver
	}
	return top, api.ErrOver
}

// floor is the greatest whole number not above a / b.
func floor(a, b *big.Int) *big.Int {
	n, rest := new(big.Int).QuoRem(a, b, new(big.Int))
	if rest.Sign() != 0 && rest.Sign() != b.Sign() {
		n.Sub(n, big.NewInt(1))
	}
	return n
}

func check(t *testing.T, name string, call func(a, b int64) (int64, int), model func(a, b *big.Int) *big.Int) {
	t.Helper()
	numbers(t, func(a, b int64) {
		exact := model(big.NewInt(a), big.NewInt(b))
		if exact == nil {
			return
		}
		n, code := call(a, b)
		if wn, wc := cut(exact); n != wn || code != wc {
			t.Fatalf("%s(%d, %d) = %d, %d, not %d, %d", name, a, b, n, code, wn, wc)
		}
	})
}

// 1.1
func TestAddAndSubAreExactOrCut(t *testing.T) {
	check(t, "Add", milli.Add, func(a, b *big.Int) *big.Int { return new(big.Int).Add(a, b) })
	check(t, "Sub", milli.Sub, func(a, b *big.Int) *big.Int { return new(big.Int).Sub(a, b) })
}

// 1.1
func TestMulIsRoundedDownAndCutLast(t *testing.T) {
	check(t, "Mul", milli.Mul, func(a, b *big.Int) *big.Int {
		return floor(new(big.Int).Mul(a, b), big.NewInt(1000))
	})
}

// 1.2
func TestUpAndDown(t *testing.T) {
	check(t, "Down", milli.Down, func(a, b *big.Int) *big.Int {
		if b.Sign() == 0 {
			return nil
		}
		return floor(a, b)
	})
	check(t, "Up", milli.Up, func(a, b *big.Int) *big.Int {
		if b.Sign() == 0 {
			return nil
		}
		return new(big.Int).Neg(floor(new(big.Int).Neg(a), b))
	})
}

// 1.2
func TestNothingIsDividedByNought(t *testing.T) {
	for _, a := range edges() {
		if n, code := milli.Up(a, 0); n != 0 || code != api.ErrZero {
			t.Fatal("Up", a, n, code)
		}
		if n, code := milli.Down(a, 0); n != 0 || code != api.ErrZero {
			t.Fatal("Down", a, n, code)
		}
	}
}

// 1.1, 1.2, 1.3
func TestByHand(t *testing.T) {
	for i, x := range []struct {
		call    func(a, b int64) (int64, int)
		a, b, n int64
		code    int
	}{
		{milli.Add, 2, 3, 5, api.OK},
		{milli.Add, top, 1, top, api.ErrOver},
		{milli.Add, low, -1, low, api.ErrOver},
		{milli.Sub, low, 1, low, api.ErrOver},
		{milli.Sub, 0, low, top, api.ErrOver},
		{milli.Mul, 1500, 2000, 3000, api.OK},
		{milli.Mul, 1500, 1, 1, api.OK},
		{milli.Mul, -1500, 1, -2, api.OK},
		{milli.Mul, top, 1000, top, api.OK},
		{milli.Mul, top, 1001, top, api.ErrOver},
		{milli.Mul, low, 1000, low, api.OK},
		{milli.Mul, low, -1000, top, api.ErrOver},
		{milli.Up, 7, 2, 4, api.OK},
		{milli.Up, -7, 2, -3, api.OK},
		{milli.Down, 7, 2, 3, api.OK},
		{milli.Down, -7, 2, -4, api.OK},
		{milli.Up, low, -1, top, api.ErrOver},
		{milli.Down, low, -1, top, api.ErrOver},
	} {
		if n, code := x.call(x.a, x.b); n != x.n || code != x.code {
			t.Fatalf("%d: %d, %d, not %d, %d", i, n, code, x.n, x.code)
		}
	}
}

// 1.2
func TestClampAsksTheUpperBoundFirst(t *testing.T) {
	for _, x := range [][4]int64{
		{5, 1, 9, 5}, {1, 1, 9, 1}, {9, 1, 9, 9}, {0, 1, 9, 1}, {10, 1, 9, 9},
		{5, 9, 1, 1}, {0, 9, 1, 9}, {1, 9, 1, 9}, {9, 9, 1, 1}, {10, 9, 1, 1},
		{low, low, top, low}, {top, low, top, top}, {top, 0, 0, 0}, {low, 0, 0, 0},
	} {
		if n := milli.Clamp(x[0], x[1], x[2]); n != x[3] {
			t.Fatal(x, n)
		}
	}
}
