package steady_test

import (
	"math"
	"math/rand"
	"slices"
	"testing"

	"spinnaker/api"
	"spinnaker/conf"
	"spinnaker/decide"
	"spinnaker/steady"
	"spinnaker/want"
)

const top, low = math.MaxInt64, math.MinInt64

// with is the default Conf with some parts set.
func with(set func(c *api.Conf)) api.Conf {
	c := conf.Default()
	set(&c)
	return c
}

func wrong() api.Conf { return with(func(c *api.Conf) { c.Sample = -1 }) }

// 26.1
func TestAim(t *testing.T) {
	few := with(func(c *api.Conf) { c.Min, c.Max = 2, 5 })
	for i, x := range []struct {
		c    api.Conf
		load int64
		n    int
	}{
		{conf.Default(), 70000, 10}, {conf.Default(), 70001, 11}, {conf.Default(), 0, 0}, {conf.Default(), -1, 0}, {conf.Default(), low, 0},
		{conf.Default(), 700000, 100}, {conf.Default(), 700001, 100}, {conf.Default(), top, 100},
		{few, 0, 2}, {few, low, 2}, {few, 14000, 2}, {few, 14001, 3}, {few, 35000, 5}, {few, 35001, 5}, {few, top, 5},
		{api.Conf{}, 70000, 0}, {wrong(), 70000, 0}, {with(func(c *api.Conf) { c.Min, c.Max = 5, 4 }), 70000, 0},
	} {
		if n := steady.Aim(x.c, x.load); n != x.n {
			t.Fatal(i, n)
		}
	}
}

// 26.1
func TestTicks(t *testing.T) {
	for i, x := range []struct {
		c api.Conf
		n int
	}{
		{conf.Default(), 526},
		{with(func(c *api.Conf) { c.Stable, c.Panic, c.Delay = 100, 7, 9 }), 967},
		{with(func(c *api.Conf) { c.Stable, c.Panic, c.Delay = 600, 600, 600 }), 26200},
		{with(func(c *api.Conf) { c.Stable, c.Panic = 6, 1 }), 413},
		{api.Conf{}, 0}, {wrong(), 0},
	} {
		if n := steady.Ticks(x.c); n != x.n {
			t.Fatal(i, n)
		}
	}
}

// 26.1
func TestRunByHand(t *testing.T) {
	l := steady.Run(conf.Default(), 70000, 1, 3)
	if !slices.Equal(l, []api.Decision{
		{T: 1, Stable: 70000, Quick: 70000, Want: 10, Panic: true, Excess: -80000},
		{T: 2, Stable: 70000, Quick: 70000, Want: 10, Panic: true, Excess: 10000},
		{T: 3, Stable: 70000, Quick: 70000, Want: 10, Panic: true, Excess: 10000},
	}) {
		t.Fatalf("%+v", l)
	}
	l = steady.Run(conf.Default(), 0, 9, 5)
	for i, n := range []int{4, 2, 1, 0, 0} {
		if l[i].Want != n || l[i].T != int64(i+1) || l[i].Panic {
			t.Fatalf("%d %+v", i, l)
		}
	}
}

// 26.1
func TestRunCutsWhatItIsGiven(t *testing.T) {
	run := func(load int64, ready, n int) []api.Decision { return steady.Run(conf.Default(), load, ready, n) }
	for i, x := range [][2][]api.Decision{
		{run(top, 3, 9), run(1000000000, 3, 9)},
		{run(1000000001, 3, 9), run(1000000000, 3, 9)},
		{run(low, 3, 9), run(0, 3, 9)},
		{run(-1, 3, 9), run(0, 3, 9)},
		{run(9000, -1, 9), run(9000, 0, 9)},
		{run(9000, low, 9), run(9000, 0, 9)},
		{run(9000, 101, 9), run(9000, 100, 9)},
		{run(9000, top, 9), run(9000, 100, 9)},
		{run(9000, 3, top), run(9000, 3, 30000)},
		{run(9000, 3, 30001), run(9000, 3, 30000)},
	} {
		if !slices.Equal(x[0], x[1]) {
			t.Fatal(i)
		}
	}
	if l := run(1000000000, 3, 1); l[0].Quick != 1000000000 || l[0].Stable != 1000000000 {
		t.Fatal(l)
	}
	if n := len(run(9000, 3, top)); n != 30000 {
		t.Fatal(n)
	}
	for _, n := range []int{0, -1, low} {
		if l := run(9000, 3, n); len(l) != 0 {
			t.Fatal(n, l)
		}
	}
	for _, c := range []api.Conf{{}, wrong()} {
		if l := steady.Run(c, 9000, 3, 9); len(l) != 0 {
			t.Fatal(l)
		}
	}
}

// anyConf is one that may be; with slow rates, too, unless they are to be fast
// enough for 26.2.
func anyConf(r *rand.Rand, least int64) api.Conf {
	for {
		c := with(func(c *api.Conf) {
			c.Target, c.Util = 10+r.Int63n(999991)>>r.Intn(17), 100+r.Int63n(901)
			c.Stable = 6 + r.Intn(595)>>r.Intn(6)
			c.Panic = 1 + r.Intn(c.Stable)>>r.Intn(4)
			c.Grain = 1 + r.Intn(c.Panic)>>r.Intn(4)
			c.Threshold, c.Up, c.Down = 1100+r.Int63n(8901)>>r.Intn(10), least+r.Int63n(1000000-least)>>r.Intn(20), least+r.Int63n(1000000-least)>>r.Intn(20)
			c.Min, c.Max, c.Delay = r.Intn(101)*r.Intn(2)>>r.Intn(5), r.Intn(101)*r.Intn(2), r.Intn(20)*r.Intn(2)
			if r.Intn(20) == 0 {
				c.Delay = r.Intn(601)
			}
			c.Burst = []int64{-1000, 0, 20000}[r.Intn(3)]
		})
		if conf.May(c) {
			return c
		}
	}
}

// 26.1
func TestRunIsADecider(t *testing.T) {
	r := rand.New(rand.NewSource(32))
	for range 300 {
		c := anyConf(r, 1001)
		load, ready, n := r.Int63n(1000001)>>r.Intn(20), r.Intn(101), r.Intn(100)
		l := steady.Run(c, load, ready, n)
		if len(l) != n {
			t.Fatal(len(l), n)
		}
		d := decide.New(c)
		for i, got := range l {
			d.Put(int64(i+1), load)
			x, code := d.Next(int64(i+1), ready)
			if got != x || code != api.OK {
				t.Fatal(i, got, x, code)
			}
			ready = x.Want
		}
	}
}

// 26.2, T4
func TestALoadThatStaysIsMet(t *testing.T) {
	r := rand.New(rand.NewSource(33))
	for range 1500 {
		c := anyConf(r, 1100)
		load := r.Int63n(conf.Per(c)*int64(conf.Most(c)) + 1)
		if r.Intn(4) == 0 {
			load = conf.Per(c) * int64(r.Intn(conf.Most(c)+1))
		}
		if load > 1000000000 || want.Of(c, load) > conf.Most(c) {
			continue
		}
		ready := []int{0, 1, 100, r.Intn(101), steady.Aim(c, load)}[r.Intn(5)]
		from, aim := steady.Ticks(c), steady.Aim(c, load)
		for _, x := range steady.Run(c, load, ready, from+20)[from-1:] {
			if x.Panic || x.Want != aim {
				t.Fatalf("%+v\nload %d, ready %d, aim %d from %d on: %+v", c, load, ready, aim, from, x)
			}
		}
	}
}
