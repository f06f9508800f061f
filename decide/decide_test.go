package decide_test

import (
	"math"
	"math/rand"
	"testing"

	"spinnaker/alarm"
	"spinnaker/api"
	"spinnaker/burst"
	"spinnaker/conf"
	"spinnaker/decide"
	"spinnaker/delay"
	"spinnaker/metric"
	"spinnaker/plain"
	"spinnaker/rate"
	"spinnaker/want"
)

// with is the default Conf with some parts set.
func with(set func(c *api.Conf)) api.Conf {
	c := conf.Default()
	set(&c)
	return c
}

func put(t *testing.T, d *decide.Decider, at, v int64) {
	t.Helper()
	if code := d.Put(at, v); code != api.OK {
		t.Fatal("Put", at, v, code)
	}
}

func next(t *testing.T, d *decide.Decider, now int64, ready int, w api.Decision) {
	t.Helper()
	w.T = now
	if got, code := d.Next(now, ready); got != w || code != api.OK {
		t.Fatalf("Next(%d, %d) = %+v, %d, not %+v", now, ready, got, code, w)
	}
}

// 17.1
func TestNew(t *testing.T) {
	for _, c := range []api.Conf{{}, with(func(c *api.Conf) { c.Sample = -1 }), with(func(c *api.Conf) { c.Grain = 7 })} {
		if decide.New(c) != nil {
			t.Fatal(c)
		}
	}
	d := decide.New(conf.Default())
	if d == nil || d.Mode() != alarm.Calm() || d.Over() {
		t.Fatal(d)
	}
	next(t, d, 0, 0, api.Decision{Want: 0, Excess: -20000})
	next(t, d, 0, 100, api.Decision{Want: 50, Excess: 980000})
}

// 17.1
func TestPutIsTheMetrics(t *testing.T) {
	d := decide.New(conf.Default())
	for _, x := range [][2]int64{{-1, 5}, {api.MaxTime + 1, 5}, {5, -1}} {
		if code := d.Put(x[0], x[1]); code != api.ErrArg {
			t.Fatal(x, code)
		}
	}
	put(t, d, 9, 7000)
	put(t, d, 1, 3000) // an older one: of the long window alone
	next(t, d, 9, 1, api.Decision{Stable: 5000, Quick: 7000, Want: 1, Excess: -17000})
}

// 17.2
func TestNextRefuses(t *testing.T) {
	d := decide.New(conf.Default())
	put(t, d, 10, 70000)
	next(t, d, 10, 5, api.Decision{Stable: 70000, Quick: 70000, Want: 10, Panic: true, Excess: -40000})
	mode := d.Mode()
	for _, x := range []struct {
		now   int64
		ready int
	}{{9, 5}, {-1, 5}, {math.MinInt64, 5}, {api.MaxTime + 1, 5}, {math.MaxInt64, 5}, {11, -1}, {11, 101}, {11, math.MinInt}, {11, math.MaxInt}, {9, -1}} {
		if got, code := d.Next(x.now, x.ready); got != (api.Decision{}) || code != api.ErrArg || d.Mode() != mode {
			t.Fatal(x, got, code, d.Mode())
		}
	}
	// the last time is still 10
	next(t, d, 10, 100, api.Decision{Stable: 70000, Quick: 70000, Want: 50, Panic: true, Excess: 910000})
	next(t, d, api.MaxTime, 0, api.Decision{Want: 0, Excess: -20000})
}

// 17.2: in calm it is the long window that counts, in panic the greater.
func TestWhichWindowCounts(t *testing.T) {
	d := decide.New(conf.Default())
	for at := range int64(54) {
		put(t, d, at, 0)
	}
	for at := int64(54); at < 60; at++ {
		put(t, d, at, 70000)
	}
	// 10 pods by the short window, 1 by the long one: of six ready not sudden
	next(t, d, 59, 6, api.Decision{Stable: 7000, Quick: 70000, Want: 3, Excess: -30000})
	next(t, d, 59, 6, api.Decision{Stable: 7000, Quick: 70000, Want: 3, Excess: -30000})
	next(t, d, 59, 5, api.Decision{Stable: 7000, Quick: 70000, Want: 10, Panic: true, Excess: -40000})
	// in panic a greater one of the long window counts, too
	next(t, d, 64, 10, api.Decision{Stable: 420000 / 55, Quick: 70000, Want: 10, Panic: true, Excess: 10000})
	for at := int64(65); at < 71; at++ {
		put(t, d, at, 0)
	}
	next(t, d, 70, 30, api.Decision{Stable: 420000 / 55, Quick: 0, Want: 15, Panic: true, Excess: 280000})
	for at := int64(71); at < 119; at++ {
		put(t, d, at, 0)
		next(t, d, at, 0, api.Decision{Stable: stableOf(at), Quick: 0, Want: 15, Panic: true, Excess: -20000})
	}
	// a whole stable window behind it was last over: calm
	next(t, d, 119, 0, api.Decision{Stable: 0, Quick: 0, Want: 0, Excess: -20000})
}

// stableOf is the long mean of the test above: 420,000 in all while the six
// values of it are in the window.
func stableOf(at int64) int64 {
	var l []api.Record
	for i := range at + 1 {
		switch {
		case i >= 54 && i < 60:
			l = append(l, api.Record{T: i, V: 70000})
		case i < 60 || i > 64:
			l = append(l, api.Record{T: i})
		}
	}
	return plain.Mean(l, 60, 1, at)
}

// 17.2, T3
func TestInPanicItNeverFalls(t *testing.T) {
	d := decide.New(conf.Default())
	put(t, d, 10, 49000)
	next(t, d, 10, 1, api.Decision{Stable: 49000, Quick: 49000, Want: 7, Panic: true, Excess: -59000})
	put(t, d, 16, 0)
	next(t, d, 16, 7, api.Decision{Stable: 24500, Quick: 0, Want: 7, Panic: true, Excess: 50000})
	put(t, d, 17, 0)
	next(t, d, 17, 7, api.Decision{Stable: 16333, Quick: 0, Want: 7, Panic: true, Excess: 50000})
	if m := d.Mode(); m != (alarm.Mode{Since: 10, Most: 7}) {
		t.Fatal(m)
	}
	// still over: it begins again
	put(t, d, 18, 49000*3)
	next(t, d, 18, 3, api.Decision{Stable: 49000, Quick: 49000, Want: 7, Panic: true, Excess: -39000})
	if m := d.Mode(); m != (alarm.Mode{Since: 18, Most: 7}) {
		t.Fatal(m)
	}
	next(t, d, 77, 7, api.Decision{Stable: 147000, Quick: 0, Want: 21, Panic: true, Excess: 50000})
	next(t, d, 78, 7, api.Decision{Want: 3, Excess: 50000})
	if m := d.Mode(); m != alarm.Calm() {
		t.Fatal(m)
	}
}

// 17.2: never faster than its rates.
func TestThePace(t *testing.T) {
	d := decide.New(with(func(c *api.Conf) { c.Up, c.Down = 1500, 1250 }))
	put(t, d, 0, 700000)
	next(t, d, 0, 4, api.Decision{Stable: 700000, Quick: 700000, Want: 6, Panic: true, Excess: -680000})
	next(t, d, 1, 6, api.Decision{Stable: 700000, Quick: 700000, Want: 9, Panic: true, Excess: -660000})
	d = decide.New(with(func(c *api.Conf) { c.Up, c.Down = 1500, 1250 }))
	next(t, d, 0, 10, api.Decision{Want: 8, Excess: 80000})
	next(t, d, 1, 8, api.Decision{Want: 6, Excess: 60000})
	next(t, d, 2, 0, api.Decision{Want: 0, Excess: -20000})
}

// 17.2: the delay holds what is limited by its rates.
func TestTheDelay(t *testing.T) {
	d := decide.New(with(func(c *api.Conf) { c.Delay = 10 }))
	next(t, d, 0, 20, api.Decision{Want: 10, Excess: 180000})
	next(t, d, 1, 10, api.Decision{Want: 10, Excess: 80000})
	next(t, d, 9, 2, api.Decision{Want: 10})
	next(t, d, 10, 10, api.Decision{Want: 5, Excess: 80000})
	next(t, d, 11, 0, api.Decision{Want: 5, Excess: -20000})
	next(t, d, 19, 0, api.Decision{Want: 5, Excess: -20000})
	next(t, d, 20, 0, api.Decision{Want: 0, Excess: -20000})
}

// 17.2: at most, at least.
func TestTheBounds(t *testing.T) {
	d := decide.New(with(func(c *api.Conf) { c.Min, c.Max = 2, 5 }))
	next(t, d, 0, 0, api.Decision{Want: 2, Excess: -20000})
	put(t, d, 0, 700000)
	next(t, d, 0, 1, api.Decision{Stable: 700000, Quick: 700000, Want: 5, Panic: true, Excess: -710000})
	if m := d.Mode(); m != (alarm.Mode{Since: 0, Most: 10}) { // what was wanted, not what may be
		t.Fatal(m)
	}
	d = decide.New(with(func(c *api.Conf) { c.Min = 100 }))
	next(t, d, 0, 0, api.Decision{Want: 100, Excess: -20000})
	d = decide.New(conf.Default())
	put(t, d, 0, math.MaxInt64)
	next(t, d, 0, 100, api.Decision{Stable: math.MaxInt64, Quick: math.MaxInt64, Want: 100, Panic: true, Excess: -math.MaxInt64 + 1000000 - 20000})
}

// 17.2
func TestExcessIsTheBursts(t *testing.T) {
	d := decide.New(with(func(c *api.Conf) { c.Burst = -1000 }))
	put(t, d, 0, 7000)
	next(t, d, 0, 5, api.Decision{Stable: 7000, Quick: 7000, Want: 2, Excess: -1000})
}

// 17.3
func TestChange(t *testing.T) {
	d := decide.New(with(func(c *api.Conf) { c.Delay = 600 }))
	put(t, d, 0, 210000)
	next(t, d, 0, 3, api.Decision{Stable: 210000, Quick: 210000, Want: 30, Panic: true, Excess: -200000})
	for _, c := range []api.Conf{{}, with(func(c *api.Conf) { c.Ready = 101 })} {
		if code := d.Change(c); code != api.ErrArg {
			t.Fatal(code)
		}
	}
	if m := d.Mode(); m != (alarm.Mode{Since: 0, Most: 30}) {
		t.Fatal(m)
	}
	small := with(func(c *api.Conf) { c.Max, c.Target, c.Stable, c.Limit = 20, 100000, 10, 1 })
	if code := d.Change(small); code != api.OK {
		t.Fatal(code)
	}
	if m := d.Mode(); m != (alarm.Mode{Since: 0, Most: 20}) {
		t.Fatal(m)
	}
	next(t, d, 5, 3, api.Decision{Stable: 210000, Quick: 210000, Want: 20, Panic: true, Excess: -227000})
	// the panic ends by the new window, and the delay by the new span
	next(t, d, 10, 3, api.Decision{Want: 1, Excess: -17000})
	if code := d.Change(with(func(c *api.Conf) { c.Grain = 2 })); code != api.OK {
		t.Fatal(code)
	}
	put(t, d, 0, 7000)
	next(t, d, 10, 1, api.Decision{Stable: 7000, Want: 1, Excess: -10000})
	// out of panic nothing is held
	if code := d.Change(conf.Default()); code != api.OK || d.Mode() != alarm.Calm() {
		t.Fatal(code, d.Mode())
	}
}

// 17.3: with room for more the mode stays as it is.
func TestChangeRaisesNoMost(t *testing.T) {
	d := decide.New(with(func(c *api.Conf) { c.Max = 4 }))
	put(t, d, 0, 21000)
	next(t, d, 0, 1, api.Decision{Stable: 21000, Quick: 21000, Want: 3, Panic: true, Excess: -31000})
	if code := d.Change(conf.Default()); code != api.OK || d.Mode() != (alarm.Mode{Since: 0, Most: 3}) {
		t.Fatal(code, d.Mode())
	}
}

// 17.3
func TestOver(t *testing.T) {
	d := decide.New(conf.Default())
	put(t, d, 0, math.MaxInt64)
	put(t, d, 0, 1)
	if d.Over() {
		t.Fatal("over unasked")
	}
	next(t, d, 0, 100, api.Decision{Stable: math.MaxInt64 / 2, Quick: math.MaxInt64 / 2, Want: 100, Panic: true, Excess: -(math.MaxInt64 / 2) + 980000})
	if !d.Over() {
		t.Fatal("it was cut")
	}
	d.Change(with(func(c *api.Conf) { c.Grain = 3 }))
	if !d.Over() {
		t.Fatal("it stays")
	}
}

func anyConf(r *rand.Rand) api.Conf {
	for {
		c := with(func(c *api.Conf) {
			c.Target, c.Util = 1000+r.Int63n(20000), 100+r.Int63n(901)
			c.Stable, c.Panic, c.Grain = 6+r.Intn(20), 1+r.Intn(8), 1+r.Intn(3)
			c.Threshold, c.Up, c.Down = 1100+r.Int63n(3000), 1001+r.Int63n(5000), 1001+r.Int63n(5000)
			c.Min, c.Max, c.Delay = r.Intn(4)*r.Intn(2), r.Intn(30)*r.Intn(2), r.Intn(10)*r.Intn(2)
			c.Burst = []int64{-1000, 0, 20000}[r.Intn(3)]
		})
		if conf.May(c) {
			return c
		}
	}
}

// 17.2, 17.3, 17.4: step by step it is what the layers below make together.
func TestAllTogether(t *testing.T) {
	r := rand.New(rand.NewSource(19))
	for range 400 {
		c := anyConf(r)
		d := decide.New(c)
		m, hold, mode := metric.New(c), delay.New(c.Delay), alarm.Calm()
		now, load := int64(0), int64(0)
		for range 80 {
			if r.Intn(10) == 0 {
				load = r.Int63n(200000) * int64(r.Intn(2))
			}
			if r.Intn(40) == 0 {
				c = anyConf(r)
				if code := d.Change(c); code != api.OK {
					t.Fatal(code)
				}
				m.Change(c)
				hold.Span(c.Delay)
				mode.Most = min(mode.Most, conf.Most(c))
			}
			now += int64(r.Intn(3))
			put(t, d, now, load)
			m.Put(now, load)
			ready := r.Intn(20)
			stable, quick := m.Means(now)
			a, b := want.Of(c, stable), want.Of(c, quick)
			mode = alarm.Next(c, mode, now, want.Over(c, b, ready))
			n := rate.Limit(c, a, ready)
			if alarm.Is(mode) {
				n = max(n, rate.Limit(c, b, ready))
			}
			hold.Put(now, n)
			n = hold.Most(now)
			if alarm.Is(mode) {
				mode, n = alarm.Keep(mode, n)
			}
			n = max(min(n, conf.Most(c)), c.Min)
			next(t, d, now, ready, api.Decision{Stable: stable, Quick: quick, Want: n, Panic: alarm.Is(mode), Excess: burst.Excess(c, ready, quick)})
			if d.Mode() != mode || d.Over() != m.Over() {
				t.Fatal(d.Mode(), mode, d.Over())
			}
		}
	}
}

// T1, T3: by all that was put, and within its bounds.
func TestBoundsAndPlainSums(t *testing.T) {
	r := rand.New(rand.NewSource(20))
	for range 300 {
		c := anyConf(r)
		d := decide.New(c)
		var l []api.Record
		was := api.Decision{}
		for now := range int64(60) {
			for range r.Intn(3) {
				e := api.Record{T: max(now-int64(r.Intn(5)), 0), V: r.Int63n(150000) * int64(r.Intn(2))}
				put(t, d, e.T, e.V)
				l = append(l, e)
			}
			got, code := d.Next(now, r.Intn(25))
			if code != api.OK || got.T != now || got.Want < c.Min || got.Want > conf.Most(c) {
				t.Fatal(got, code)
			}
			if got.Stable != plain.Mean(l, c.Stable, c.Grain, now) || got.Quick != plain.Mean(l, c.Panic, c.Grain, now) {
				t.Fatal(got)
			}
			if got.Panic && was.Panic && got.Want < was.Want {
				t.Fatal(was, got)
			}
			was = got
		}
	}
}

// 17.3
func TestNil(t *testing.T) {
	var d *decide.Decider
	got, code := d.Next(1, 1)
	if got != (api.Decision{}) || code != api.ErrState || d.Put(1, 1) != api.ErrState || d.Change(conf.Default()) != api.ErrState || d.Mode() != alarm.Calm() || d.Over() {
		t.Fatal(got, code)
	}
}
