package burst_test

import (
	"math"
	"math/big"
	"math/rand"
	"testing"

	"spinnaker/api"
	"spinnaker/burst"
	"spinnaker/conf"
)

const top, low = math.MaxInt64, math.MinInt64

// room is a Conf with that burst and limit.
func room(reserve int64, limit int) api.Conf {
	c := conf.Default()
	c.Burst, c.Limit = reserve, limit
	return c
}

// 16.1
func TestExcess(t *testing.T) {
	for i, x := range []struct {
		c     api.Conf
		ready int
		quick int64
		left  int64
	}{
		{conf.Default(), 3, 5000, 5000},
		{conf.Default(), 3, 10000, 0},
		{conf.Default(), 3, 10001, -1},
		{conf.Default(), 0, 0, -20000},
		{conf.Default(), -1, 0, -20000},
		{conf.Default(), low, 5, -20005},
		{conf.Default(), 1, -5000, -5000},
		{room(0, 1), 1, 0, 1000},
		{room(0, 1), 0, 0, 0},
		{room(100000000, 1000), 100, 0, 0},
		{room(100000000, 1000), 1000000, 0, 999900000000},
		{room(100000000, 1000), 1000001, 0, 999900000000},
		{room(100000000, 1000), top, 0, 999900000000},
		// cut step by step: less quick first
		{room(0, 10), 5, low, top},
		{room(20000, 10), 5, low, top - 20000},
		{room(0, 10), 0, top, low + 1},
		{room(20000, 10), 0, top, low},
		{room(20000, 10), 1, top, low},
		{room(20000, 10), 2, top, low + 1},
		// always
		{room(-1000, 10), 3, 5000, -1000},
		{room(-1000, 10), 0, 0, -1000},
		{room(-1000, 10), top, low, -1000},
		{room(-999, 10), 3, 5000, 0},
		{room(-1000, 0), 3, 5000, 0},
		{api.Conf{}, 3, 5000, 0},
	} {
		if left := burst.Excess(x.c, x.ready, x.quick); left != x.left {
			t.Fatal(i, left)
		}
	}
}

// 16.1
func TestProxy(t *testing.T) {
	for i, x := range []struct {
		c      api.Conf
		ready  int
		excess int64
		in     bool
	}{
		{conf.Default(), 1, 0, false}, {conf.Default(), 1, 1, false}, {conf.Default(), 1, top, false}, {conf.Default(), 1, -1, true}, {conf.Default(), 1, low, true},
		{conf.Default(), 0, 0, true}, {conf.Default(), 0, top, true}, {conf.Default(), -1, top, true}, {conf.Default(), low, top, true}, {conf.Default(), top, 0, false},
		{room(0, 10), 1, -1, false}, {room(0, 10), 1, low, false}, {room(0, 10), 0, 5, true}, {room(1, 10), 1, -1, true}, {room(1, 10), 1, 0, false},
		{room(-1000, 10), 1, 0, true}, {room(-1000, 10), 100, top, true}, {room(-1000, 10), 0, low, true},
		{room(-999, 10), 5, 5, true}, {room(5, 0), 5, 5, true}, {api.Conf{}, 5, 5, true},
	} {
		if in := burst.Proxy(x.c, x.ready, x.excess); in != x.in {
			t.Fatal(i, in)
		}
	}
}

// 16.1, 16.2, T5: it is out of the way just where the burst has room.
func TestWhereABurstWouldNotFit(t *testing.T) {
	r := rand.New(rand.NewSource(18))
	cut := func(n *big.Int) *big.Int {
		if n.IsInt64() {
			return n
		}
		if n.Sign() < 0 {
			return big.NewInt(low)
		}
		return big.NewInt(top)
	}
	for range 20000 {
		c := room(r.Int63n(100000001)>>r.Intn(27), 1+r.Intn(1000))
		ready, quick := r.Intn(110)-5, int64(r.Uint64())>>r.Intn(64)
		all := big.NewInt(int64(max(ready, 0)) * int64(c.Limit) * 1000)
		left := cut(all.Sub(all, big.NewInt(quick)))
		left = cut(left.Sub(left, big.NewInt(c.Burst)))
		excess := burst.Excess(c, ready, quick)
		if excess != left.Int64() {
			t.Fatal(c.Burst, c.Limit, ready, quick, excess, left)
		}
		if in := burst.Proxy(c, ready, excess); in != (ready < 1 || c.Burst > 0 && excess < 0) {
			t.Fatal(c.Burst, ready, excess, in)
		}
	}
}
