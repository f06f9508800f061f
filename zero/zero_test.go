package zero_test

import (
	"math"
	"math/rand"
	"testing"

	"spinnaker/api"
	"spinnaker/conf"
	"spinnaker/zero"
)

const top, low = math.MaxInt64, math.MinInt64

// with is the default Conf (its Grace is 30) with some parts set.
func with(set func(c *api.Conf)) api.Conf {
	c := conf.Default()
	set(&c)
	return c
}

// 22.1
func TestNew(t *testing.T) {
	if s := zero.New(); s != (zero.State{Since: -1}) {
		t.Fatal(s)
	}
}

// 22.1
func TestNext(t *testing.T) {
	for i, x := range []struct {
		since, now int64
		proxy      bool
		want       int64
	}{
		{-1, 5, false, -1}, {-1, 5, true, 5}, {-1, 0, true, 0}, {3, 5, true, 3}, {3, 5, false, -1}, {0, 5, true, 0}, {0, 5, false, -1},
		{9, 5, true, 9}, {top, 5, true, top}, {low, 5, true, 5}, {-7, 5, true, 5}, {-7, 5, false, -1}, {low, low, false, -1}, {-1, top, true, top},
	} {
		if s := zero.Next(zero.State{Since: x.since}, x.now, x.proxy); s.Since != x.want {
			t.Fatal(i, s)
		}
	}
}

// 22.2
func TestMay(t *testing.T) {
	wrong := with(func(c *api.Conf) { c.Sample = -1 })
	for i, x := range []struct {
		c             api.Conf
		since, now    int64
		mean          int64
		waiting, busy int
		may           bool
	}{
		{conf.Default(), 10, 40, 0, 0, 0, true},
		{conf.Default(), 10, 39, 0, 0, 0, false},
		{conf.Default(), 10, 41, 0, 0, 0, true},
		{conf.Default(), 10, 9, 0, 0, 0, false},
		{conf.Default(), 0, 30, 0, 0, 0, true},
		{conf.Default(), 0, 29, 0, 0, 0, false},
		{conf.Default(), -1, 40, 0, 0, 0, false},
		{conf.Default(), -1, 29, 0, 0, 0, false},
		{conf.Default(), low, top, 0, 0, 0, false},
		{conf.Default(), 10, 40, 1, 0, 0, false},
		{conf.Default(), 10, 40, -1, 0, 0, false},
		{conf.Default(), 10, 40, 0, 1, 0, false},
		{conf.Default(), 10, 40, 0, -1, 0, false},
		{conf.Default(), 10, 40, 0, 0, 1, false},
		{conf.Default(), 10, 40, 0, 0, -1, false},
		{with(func(c *api.Conf) { c.Min = 1 }), 10, 400, 0, 0, 0, false},
		{with(func(c *api.Conf) { c.Grace = 0 }), 10, 10, 0, 0, 0, true},
		{with(func(c *api.Conf) { c.Grace = 0 }), 10, 9, 0, 0, 0, false},
		{with(func(c *api.Conf) { c.Grace = 600 }), 10, 609, 0, 0, 0, false},
		{with(func(c *api.Conf) { c.Grace = 600 }), 10, 610, 0, 0, 0, true},
		{wrong, 10, 40, 0, 0, 0, false},
		{api.Conf{}, 10, 40, 0, 0, 0, false},
		// no end is gone round
		{conf.Default(), top, low, 0, 0, 0, false},
		{conf.Default(), 10, low, 0, 0, 0, false},
		{conf.Default(), 0, low, 0, 0, 0, false},
		{conf.Default(), top, top, 0, 0, 0, false},
		{conf.Default(), top - 30, top, 0, 0, 0, true},
		{conf.Default(), top - 29, top, 0, 0, 0, false},
		{conf.Default(), top, -2, 0, 0, 0, false},
		{conf.Default(), 0, top, 0, 0, 0, true},
	} {
		if may := zero.May(x.c, zero.State{Since: x.since}, x.now, x.mean, x.waiting, x.busy); may != x.may {
			t.Fatal(i, may)
		}
	}
}

// 22.2
func TestWant(t *testing.T) {
	for i, x := range []struct {
		c             api.Conf
		since, now    int64
		want, have    int
		mean          int64
		waiting, busy int
		n             int
	}{
		{conf.Default(), -1, 5, 7, 0, 0, 0, 0, 7},
		{conf.Default(), 0, 500, 7, 3, 0, 0, 0, 7},
		{conf.Default(), 0, 500, top, 3, 0, 0, 0, top},
		{api.Conf{}, 0, 500, 1, 3, 0, 0, 0, 1},
		{conf.Default(), 0, 500, 1, 3, 0, 0, 0, 1},
		{conf.Default(), -1, 5, 1, 0, 0, 0, 0, 1},
		{conf.Default(), -1, 5, 0, 2, 0, 0, 1, 1},
		{conf.Default(), -1, 5, 0, 2, 0, 0, 0, 1},
		{conf.Default(), 0, 500, 0, 2, 0, 0, 0, 0},
		{conf.Default(), 0, 500, -3, 2, 0, 0, 0, 0},
		{conf.Default(), 0, 29, 0, 2, 0, 0, 0, 1},
		{conf.Default(), 0, 29, low, 2, 0, 0, 0, 1},
		{conf.Default(), 0, 500, 0, 2, 0, 0, 1, 1},
		{conf.Default(), 0, 500, 0, 2, 0, 1, 0, 1},
		{conf.Default(), 0, 500, 0, 2, 5, 0, 0, 1},
		{conf.Default(), -1, 5, 0, 0, 0, 0, 0, 0},
		{conf.Default(), -1, 5, -3, 0, 0, 0, 0, 0},
		{conf.Default(), -1, 5, 0, 0, 5, 0, 3, 0},
		{conf.Default(), -1, 5, 0, 0, 0, 1, 0, 1},
		{conf.Default(), 0, 500, 0, 0, 0, 1, 0, 1},
		{conf.Default(), 0, 500, 0, 0, 0, -1, 0, 1},
		{conf.Default(), 0, 500, 0, -1, 0, 0, 1, 1},
		{with(func(c *api.Conf) { c.Min = 1 }), 0, 500, 0, 2, 0, 0, 0, 1},
		{with(func(c *api.Conf) { c.Min = 1 }), 0, 500, 0, 0, 0, 0, 0, 0},
		{api.Conf{}, 0, 500, 0, 2, 0, 0, 0, 1},
		{api.Conf{}, 0, 500, 0, 0, 0, 0, 0, 0},
	} {
		if n := zero.Want(x.c, zero.State{Since: x.since}, x.now, x.want, x.have, x.mean, x.waiting, x.busy); n != x.n {
			t.Fatal(i, n)
		}
	}
}

// 22.1 to 22.3, T3: the last one goes only behind a whole grace in which the
// activator was in the way, and with nothing measured, waiting or in flight.
func TestTheLastOneGoesOnlyWhenItIsSure(t *testing.T) {
	r := rand.New(rand.NewSource(27))
	for range 500 {
		c := with(func(c *api.Conf) { c.Grace = r.Intn(8) })
		s, open := zero.New(), int64(-1)
		for now := range int64(60) {
			proxy := r.Intn(12) > 0
			if !proxy {
				open = now
			}
			s = zero.Next(s, now, proxy)
			mean, waiting, busy := int64(r.Intn(4)/3), r.Intn(4)/3, r.Intn(4)/3
			n := zero.Want(c, s, now, 0, 1, mean, waiting, busy)
			sure := mean == 0 && waiting == 0 && busy == 0 && proxy && now-open-1 >= int64(c.Grace)
			if (n == 0) != sure || n < 0 || n > 1 {
				t.Fatal(now, open, c.Grace, mean, waiting, busy, n)
			}
		}
	}
}
