package rate_test

import (
	"math"
	"math/rand"
	"testing"

	"spinnaker/api"
	"spinnaker/conf"
	"spinnaker/rate"
)

// pace is a Conf that goes so fast.
func pace(up, down int64) api.Conf {
	c := conf.Default()
	c.Up, c.Down = up, down
	return c
}

// 13.1
func TestMost(t *testing.T) {
	for i, x := range []struct {
		c        api.Conf
		ready, n int
	}{
		{conf.Default(), 3, 30}, {conf.Default(), 1, 10}, {conf.Default(), 0, 10}, {conf.Default(), -1, 10}, {conf.Default(), math.MinInt, 10},
		{conf.Default(), 100000, 1000000}, {conf.Default(), 99999, 999990}, {conf.Default(), 100001, 1000000}, {conf.Default(), 1000000, 1000000}, {conf.Default(), math.MaxInt, 1000000},
		{pace(1001, 2000), 1, 2}, {pace(1001, 2000), 0, 2}, {pace(1001, 2000), 999, 1000}, {pace(1001, 2000), 1000, 1001}, {pace(1001, 2000), 1001, 1003},
		{pace(1500, 2000), 3, 5}, {pace(1500, 2000), 2, 3}, {pace(1000000, 2000), 1, 1000}, {pace(1000000, 2000), 1000, 1000000}, {pace(1000000, 2000), 1001, 1000000},
		{pace(1000, 2000), 3, 0}, {pace(10000, 1000), 3, 0}, {api.Conf{}, 3, 0}, {api.Conf{}, 0, 0},
	} {
		if n := rate.Most(x.c, x.ready); n != x.n {
			t.Fatal(i, n)
		}
	}
}

// 13.1
func TestLeast(t *testing.T) {
	for i, x := range []struct {
		c        api.Conf
		ready, n int
	}{
		{conf.Default(), 5, 2}, {conf.Default(), 4, 2}, {conf.Default(), 1, 0}, {conf.Default(), 0, 0}, {conf.Default(), -1, 0}, {conf.Default(), math.MinInt, 0},
		{conf.Default(), 1000000, 500000}, {conf.Default(), 1000001, 500000}, {conf.Default(), math.MaxInt, 500000},
		{pace(2000, 1001), 1, 0}, {pace(2000, 1001), 2, 1}, {pace(2000, 1001), 1000, 999}, {pace(2000, 1001), 1001, 1000}, {pace(2000, 1001), 1000000, 999000},
		{pace(2000, 3000), 8, 2}, {pace(2000, 3000), 9, 3}, {pace(2000, 1000000), 999, 0}, {pace(2000, 1000000), 1000, 1}, {pace(2000, 1000000), 1000000, 1000},
		{pace(1000, 2000), 5, 0}, {pace(10000, 1000), 5, 0}, {api.Conf{}, 5, 0},
	} {
		if n := rate.Least(x.c, x.ready); n != x.n {
			t.Fatal(i, n)
		}
	}
}

// 13.1
func TestLimit(t *testing.T) {
	for i, x := range []struct {
		c              api.Conf
		want, ready, n int
	}{
		{conf.Default(), 30, 3, 30}, {conf.Default(), 31, 3, 30}, {conf.Default(), 7, 3, 7}, {conf.Default(), 1, 3, 1}, {conf.Default(), 0, 3, 1}, {conf.Default(), -5, 3, 1},
		{conf.Default(), 0, 5, 2}, {conf.Default(), 1, 5, 2}, {conf.Default(), 2, 5, 2}, {conf.Default(), 3, 5, 3},
		{conf.Default(), 50, 0, 10}, {conf.Default(), 0, 0, 0}, {conf.Default(), -1, 0, 0}, {conf.Default(), 50, -3, 10}, {conf.Default(), math.MinInt, -3, 0},
		{conf.Default(), math.MaxInt, math.MaxInt, 1000000}, {conf.Default(), math.MinInt, math.MaxInt, 500000}, {conf.Default(), math.MaxInt, 5, 50},
		{pace(1001, 1001), 5, 1, 2}, {pace(1001, 1001), 0, 1000, 999}, {pace(1001, 1001), 5000, 1000, 1001},
		{pace(1000, 2000), 5, 5, 0}, {pace(10000, 1000), 5, 5, 0}, {api.Conf{}, 5, 5, 0},
	} {
		if n := rate.Limit(x.c, x.want, x.ready); n != x.n {
			t.Fatal(i, n)
		}
	}
}

// 13.1, 13.2
func TestNoJumps(t *testing.T) {
	r := rand.New(rand.NewSource(15))
	for range 20000 {
		c := pace(1001+r.Int63n(999000)>>r.Intn(20), 1001+r.Int63n(999000)>>r.Intn(20))
		ready, want := r.Intn(1000001)>>r.Intn(20), r.Intn(1000001)>>r.Intn(20)
		most, least := int64(rate.Most(c, ready)), int64(rate.Least(c, ready))
		if grown := c.Up * int64(max(ready, 1)); most < 1000000 && (most*1000 < grown || (most-1)*1000 >= grown) || most > 1000000 || most == 1000000 && grown <= 999999000 {
			t.Fatal(c.Up, ready, most)
		}
		if least*c.Down > 1000*int64(ready) || (least+1)*c.Down <= 1000*int64(ready) {
			t.Fatal(c.Down, ready, least)
		}
		if n := int64(rate.Limit(c, want, ready)); n != min(max(int64(want), least), most) {
			t.Fatal(c, want, ready, n)
		}
	}
}
