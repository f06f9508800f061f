package want_test

import (
	"math"
	"math/rand"
	"testing"

	"spinnaker/api"
	"spinnaker/conf"
	"spinnaker/want"
)

// shares is a Conf with that target and share.
func shares(target, util int64) api.Conf {
	c := conf.Default()
	c.Target, c.Util = target, util
	return c
}

func sudden(threshold int64) api.Conf {
	c := conf.Default()
	c.Threshold = threshold
	return c
}

// 12.1
func TestOf(t *testing.T) {
	for i, x := range []struct {
		c    api.Conf
		mean int64
		n    int
	}{
		{conf.Default(), 0, 0}, {conf.Default(), 1, 1}, {conf.Default(), 6999, 1}, {conf.Default(), 7000, 1}, {conf.Default(), 7001, 2},
		{conf.Default(), 14000, 2}, {conf.Default(), 14001, 3}, {conf.Default(), -1, 0}, {conf.Default(), -7001, 0}, {conf.Default(), math.MinInt64, 0},
		{conf.Default(), 7000 * 999999, 999999}, {conf.Default(), 7000*999999 + 1, 1000000}, {conf.Default(), 7000*1000000 + 1, 1000000}, {conf.Default(), math.MaxInt64, 1000000},
		{shares(10, 100), 5, 5}, {shares(10, 100), math.MaxInt64, 1000000}, {shares(19, 100), 5, 5}, {shares(20, 100), 5, 3}, {shares(1000000, 1000), 1000001, 2},
		{api.Conf{}, 7001, 0}, {shares(9, 700), 7001, 0}, {shares(10000, 1001), 7001, 0}, {sudden(1099), 7001, 0},
	} {
		if n := want.Of(x.c, x.mean); n != x.n {
			t.Fatal(i, n)
		}
	}
}

// 12.1
func TestOver(t *testing.T) {
	for i, x := range []struct {
		c           api.Conf
		want, ready int
		over        bool
	}{
		{conf.Default(), 2, 1, true}, {conf.Default(), 1, 1, false}, {conf.Default(), 3, 2, false}, {conf.Default(), 4, 2, true}, {conf.Default(), 5, 2, true},
		{conf.Default(), 2, 0, true}, {conf.Default(), 1, 0, false}, {conf.Default(), 2, -7, true}, {conf.Default(), 1, -7, false}, {conf.Default(), 2, math.MinInt, true},
		{conf.Default(), 0, 0, false}, {conf.Default(), -5, 1, false}, {conf.Default(), math.MinInt, 1, false}, {conf.Default(), math.MinInt, math.MinInt, false},
		{sudden(1100), 11, 10, true}, {sudden(1100), 10, 10, false}, {sudden(1101), 11, 10, false}, {sudden(10000), 10, 1, true}, {sudden(10000), 9, 1, false},
		{conf.Default(), math.MaxInt, 500000, true}, {conf.Default(), math.MaxInt, 500001, false}, {conf.Default(), 1000000, 500001, false}, {conf.Default(), math.MaxInt, math.MaxInt, false},
		{conf.Default(), 1000001, 500001, false}, {sudden(1100), 1000000, 909091, false}, {sudden(1100), 1000000, 909090, true}, {conf.Default(), 5, math.MaxInt, false},
		{api.Conf{}, 5, 1, false}, {sudden(1099), 5, 1, false}, {shares(9, 700), 5, 1, false}, {api.Conf{}, 0, 0, false},
	} {
		if over := want.Over(x.c, x.want, x.ready); over != x.over {
			t.Fatal(i, over)
		}
	}
}

// 12.1, 12.2: so many pods have room for the load, one fewer have not.
func TestLoadByPod(t *testing.T) {
	r := rand.New(rand.NewSource(14))
	for range 20000 {
		c := shares(10+r.Int63n(999991)>>r.Intn(17), 100+r.Int63n(901))
		per := conf.Per(c)
		mean := r.Int63n(per * 1000000)
		if n := int64(want.Of(c, mean)); n*per < mean || n > 0 && (n-1)*per >= mean {
			t.Fatal(c, mean, n)
		}
	}
}
