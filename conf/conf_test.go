package conf_test

import (
	"math"
	"testing"

	"spinnaker/api"
	"spinnaker/conf"
)

// 3.1
func TestDefault(t *testing.T) {
	if c := conf.Default(); c != (api.Conf{
		Target: 10000, Util: 700, Stable: 60, Panic: 6, Grain: 1, Threshold: 2000, Up: 10000, Down: 2000,
		Min: 0, Max: 0, Initial: 1, Grace: 30, Delay: 0, Burst: 20000, Limit: 10, Queue: 100, Timeout: 60,
		Ready: 3, Subset: 0, Sample: 0,
	}) {
		t.Fatal(c)
	}
	if !conf.May(conf.Default()) || conf.Wrong(conf.Default()) != "" {
		t.Fatal(conf.Wrong(conf.Default()))
	}
}

// A bound is a part, how it is set, and from where to where it may be.
type bound struct {
	name   string
	set    func(c *api.Conf, n int64)
	lo, hi int64
}

// bounds stand in the order in which the parts are told. All but those that
// lean on other parts.
func bounds() []bound {
	return []bound{
		{"target", func(c *api.Conf, n int64) { c.Target = n }, 10, 1000000},
		{"util", func(c *api.Conf, n int64) { c.Util = n }, 100, 1000},
		{"stable", func(c *api.Conf, n int64) { c.Stable = int(n) }, 6, 600},
		{"panic", func(c *api.Conf, n int64) { c.Panic = int(n) }, 1, 60},
		{"grain", func(c *api.Conf, n int64) { c.Grain = int(n) }, 1, 6},
		{"threshold", func(c *api.Conf, n int64) { c.Threshold = n }, 1100, 10000},
		{"up", func(c *api.Conf, n int64) { c.Up = n }, 1001, 1000000},
		{"down", func(c *api.Conf, n int64) { c.Down = n }, 1001, 1000000},
		{"min", func(c *api.Conf, n int64) { c.Min = int(n) }, 0, 100},
		{"max", func(c *api.Conf, n int64) { c.Max = int(n) }, 0, 100},
		{"initial", func(c *api.Conf, n int64) { c.Initial = int(n) }, 0, 100},
		{"grace", func(c *api.Conf, n int64) { c.Grace = int(n) }, 0, 600},
		{"delay", func(c *api.Conf, n int64) { c.Delay = int(n) }, 0, 600},
		{"burst", func(c *api.Conf, n int64) { c.Burst = n }, 0, 100000000},
		{"limit", func(c *api.Conf, n int64) { c.Limit = int(n) }, 1, 1000},
		{"queue", func(c *api.Conf, n int64) { c.Queue = int(n) }, 0, 200},
		{"timeout", func(c *api.Conf, n int64) { c.Timeout = int(n) }, 1, 10000},
		{"ready", func(c *api.Conf, n int64) { c.Ready = int(n) }, 0, 100},
		{"subset", func(c *api.Conf, n int64) { c.Subset = int(n) }, 0, 100},
		{"sample", func(c *api.Conf, n int64) { c.Sample = int(n) }, 0, 100},
	}
}

func check(t *testing.T, c api.Conf, wrong string) {
	t.Helper()
	if w := conf.Wrong(c); w != wrong {
		t.Fatalf("%+v: wrong %q, not %q", c, w, wrong)
	}
	if conf.May(c) != (wrong == "") {
		t.Fatalf("%+v: may %t", c, conf.May(c))
	}
}

// 3.2
func TestEachPartHasItsEnds(t *testing.T) {
	for _, b := range bounds() {
		base := conf.Default()
		base.Initial = 0
		if b.name == "stable" {
			base.Panic = 1
		}
		for _, n := range []int64{b.lo, b.lo + 1, b.hi - 1, b.hi} {
			c := base
			b.set(&c, n)
			check(t, c, "")
		}
		for _, n := range []int64{b.lo - 1, b.hi + 1, math.MinInt64, math.MaxInt64} {
			c := base
			b.set(&c, n)
			check(t, c, b.name)
		}
	}
}

// 3.2, 3.3: of all that is wrong the first is told.
func TestTheFirstWrongPartIsTold(t *testing.T) {
	all := bounds()
	c := conf.Default()
	for i := len(all) - 1; i >= 0; i-- {
		all[i].set(&c, math.MinInt64)
		check(t, c, all[i].name)
	}
	c = conf.Default()
	for i := len(all) - 1; i >= 0; i-- {
		all[i].set(&c, math.MaxInt64)
		check(t, c, all[i].name)
	}
	check(t, api.Conf{}, "target")
}

// 3.2
func TestPartsThatLeanOnOthers(t *testing.T) {
	for i, x := range []struct {
		set   func(c *api.Conf)
		wrong string
	}{
		{func(c *api.Conf) { c.Stable, c.Panic = 60, 60 }, ""},
		{func(c *api.Conf) { c.Stable, c.Panic = 60, 61 }, "panic"},
		{func(c *api.Conf) { c.Stable, c.Panic = 6, 6 }, ""},
		{func(c *api.Conf) { c.Stable, c.Panic = 6, 7 }, "panic"},
		{func(c *api.Conf) { c.Stable, c.Panic = 600, 600 }, ""},
		{func(c *api.Conf) { c.Panic, c.Grain = 6, 6 }, ""},
		{func(c *api.Conf) { c.Panic, c.Grain = 6, 7 }, "grain"},
		{func(c *api.Conf) { c.Panic, c.Grain = 1, 2 }, "grain"},
		{func(c *api.Conf) { c.Min, c.Max = 3, 3 }, ""},
		{func(c *api.Conf) { c.Min, c.Max = 3, 2 }, "max"},
		{func(c *api.Conf) { c.Min, c.Max = 3, 0 }, ""},
		{func(c *api.Conf) { c.Min, c.Max = 100, 0 }, ""},
		{func(c *api.Conf) { c.Min, c.Max = 100, 100 }, ""},
		{func(c *api.Conf) { c.Min, c.Max = 0, 1 }, ""},
		{func(c *api.Conf) { c.Min, c.Max = 0, -1 }, "max"},
		{func(c *api.Conf) { c.Max, c.Initial = 4, 4 }, ""},
		{func(c *api.Conf) { c.Max, c.Initial = 4, 5 }, "initial"},
		{func(c *api.Conf) { c.Max, c.Initial = 0, 100 }, ""},
		{func(c *api.Conf) { c.Max, c.Initial = 0, 101 }, "initial"},
		{func(c *api.Conf) { c.Max, c.Initial = 100, 101 }, "initial"},
		{func(c *api.Conf) { c.Min, c.Initial = 5, 0 }, ""},
		{func(c *api.Conf) { c.Burst = -1000 }, ""},
		{func(c *api.Conf) { c.Burst = -999 }, "burst"},
		{func(c *api.Conf) { c.Burst = -1001 }, "burst"},
	} {
		c := conf.Default()
		x.set(&c)
		if w := conf.Wrong(c); w != x.wrong || conf.May(c) != (w == "") {
			t.Fatal(i, w)
		}
	}
}

// 3.2
func TestPer(t *testing.T) {
	for _, x := range [][3]int64{
		{10000, 700, 7000}, {10, 100, 1}, {19, 100, 1}, {20, 100, 2}, {29, 100, 2}, {1000000, 1000, 1000000},
		{0, 0, 1}, {-5, 1000, 1}, {5, -1000, 1}, {-5000, -1000, 5000}, {1, 1, 1}, {math.MaxInt64, 1001, math.MaxInt64}, {math.MinInt64, 1001, 1},
	} {
		if n := conf.Per(api.Conf{Target: x[0], Util: x[1]}); n != x[2] {
			t.Fatal(x, n)
		}
	}
	if n := conf.Per(conf.Default()); n != 7000 {
		t.Fatal(n)
	}
}

// 3.2
func TestMost(t *testing.T) {
	for _, x := range [][2]int{{0, 100}, {1, 1}, {37, 37}, {100, 100}} {
		if n := conf.Most(api.Conf{Max: x[0]}); n != x[1] {
			t.Fatal(x, n)
		}
	}
}
