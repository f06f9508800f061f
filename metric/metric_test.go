package metric_test

import (
	"math"
	"math/rand"
	"testing"

	"spinnaker/api"
	"spinnaker/conf"
	"spinnaker/metric"
	"spinnaker/ring"
)

func windows(stable, short, grain int) api.Conf {
	c := conf.Default()
	c.Stable, c.Panic, c.Grain = stable, short, grain
	return c
}

func means(t *testing.T, m *metric.Metric, at, stable, quick int64) {
	t.Helper()
	if s, q := m.Means(at); s != stable || q != quick {
		t.Fatalf("Means(%d) = %d, %d, not %d, %d", at, s, q, stable, quick)
	}
}

func put(t *testing.T, m *metric.Metric, at, v int64) {
	t.Helper()
	if code := m.Put(at, v); code != api.OK {
		t.Fatal(at, v, code)
	}
}

// 11.1
func TestNew(t *testing.T) {
	for _, c := range []api.Conf{{}, windows(5, 1, 1), windows(60, 61, 1), windows(60, 6, 7), windows(60, 6, 0)} {
		if metric.New(c) != nil {
			t.Fatal(c)
		}
	}
	bad := conf.Default()
	bad.Sample = -1
	if metric.New(bad) != nil {
		t.Fatal("a part that windows don't need")
	}
	m := metric.New(conf.Default())
	if m == nil || m.Over() {
		t.Fatal(m)
	}
	means(t, m, 0, 0, 0)
	means(t, m, 5, 0, 0)
}

// 11.1
func TestWhatWasAndWhatIsJustNow(t *testing.T) {
	m := metric.New(windows(10, 3, 1))
	for at := range int64(10) {
		put(t, m, at, 100*at)
	}
	means(t, m, 9, 450, 800)
	means(t, m, 10, 500, 850)
	means(t, m, 11, 550, 900)
	means(t, m, 12, 600, 0)
	means(t, m, 18, 900, 0)
	means(t, m, 19, 0, 0)
	means(t, m, -1, 0, 0)
	means(t, m, 7, 350, 700) // 8 and 9 are newer; of the short one just 7 is left
}

// 11.1
func TestPutRefuses(t *testing.T) {
	m := metric.New(windows(10, 3, 1))
	put(t, m, 5, 7)
	for _, x := range [][2]int64{{-1, 1}, {api.MaxTime + 1, 1}, {5, -1}, {math.MinInt64, math.MinInt64}} {
		if code := m.Put(x[0], x[1]); code != api.ErrArg {
			t.Fatal(x, code)
		}
	}
	means(t, m, 5, 7, 7)
}

// 11.2
func TestChangeKeepsWhatBothReach(t *testing.T) {
	m := metric.New(windows(10, 3, 1))
	for at := range int64(10) {
		put(t, m, at, 100*at)
	}
	if code := m.Change(windows(6, 5, 1)); code != api.OK {
		t.Fatal(code)
	}
	means(t, m, 9, 650, 800)
	if code := m.Change(windows(20, 2, 1)); code != api.OK {
		t.Fatal(code)
	}
	means(t, m, 9, 650, 850)
	for _, c := range []api.Conf{{}, windows(5, 5, 1), windows(20, 21, 2)} {
		if code := m.Change(c); code != api.ErrArg {
			t.Fatal(c, code)
		}
	}
	means(t, m, 9, 650, 850)
}

// 11.2
func TestChangeOfTheGrainBeginsAnew(t *testing.T) {
	m := metric.New(windows(10, 4, 1))
	put(t, m, 100, 5)
	if code := m.Change(windows(10, 4, 2)); code != api.OK {
		t.Fatal(code)
	}
	means(t, m, 100, 0, 0)
	// older ones go in, too, as nothing is the newest any more
	put(t, m, 4, 10)
	means(t, m, 4, 10, 10)
	means(t, m, 7, 10, 10)
	means(t, m, 8, 10, 0)
	if code := m.Change(windows(10, 4, 2)); code != api.OK {
		t.Fatal(code)
	}
	means(t, m, 4, 10, 10)
}

// 11.2
func TestOver(t *testing.T) {
	m := metric.New(windows(6, 1, 1))
	put(t, m, 1, math.MaxInt64)
	put(t, m, 2, 1)
	if m.Over() {
		t.Fatal("over unasked")
	}
	means(t, m, 2, math.MaxInt64/2, 1)
	if !m.Over() {
		t.Fatal("the long window was cut")
	}
	for _, grain := range []int{1, 2, 1} {
		if code := m.Change(windows(6, 2, grain)); code != api.OK || !m.Over() {
			t.Fatal(grain, code, m.Over())
		}
	}
	means(t, m, 2, 0, 0)
	if !m.Over() {
		t.Fatal("it stays")
	}
	m = metric.New(windows(6, 1, 1))
	m.Change(windows(6, 2, 2))
	if m.Over() {
		t.Fatal("nothing was cut")
	}
}

// 11.1 to 11.3, T1
func TestTwoRings(t *testing.T) {
	r := rand.New(rand.NewSource(13))
	for range 300 {
		conf := func(grain int) api.Conf {
			short := grain + r.Intn(5)
			return windows(max(6, short+r.Intn(10)), short, grain)
		}
		c := conf(1 + r.Intn(3))
		m, long, short := metric.New(c), ring.New(c.Stable, c.Grain), ring.New(c.Panic, c.Grain)
		over, now := false, int64(0)
		for range 150 {
			now += int64(r.Intn(3))
			switch k := r.Intn(12); {
			case k < 7:
				at, v := now-int64(r.Intn(8)*r.Intn(2)), r.Int63n(1000)-10
				if r.Intn(60) == 0 {
					v = math.MaxInt64
				}
				code := m.Put(at, v)
				if code != long.Put(at, v) || code != short.Put(at, v) {
					t.Fatal(at, v, code)
				}
			case k < 11:
				at := now + int64(r.Intn(20)-10)
				means(t, m, at, long.Mean(at), short.Mean(at))
			case r.Intn(2) == 0:
				c = conf(c.Grain)
				if code := m.Change(c); code != api.OK {
					t.Fatal(code)
				}
				long.Resize(c.Stable)
				short.Resize(c.Panic)
			default:
				over = over || long.Over() || short.Over()
				c = conf(c.Grain%3 + 1)
				if code := m.Change(c); code != api.OK {
					t.Fatal(code)
				}
				long, short = ring.New(c.Stable, c.Grain), ring.New(c.Panic, c.Grain)
			}
			if m.Over() != (over || long.Over() || short.Over()) {
				t.Fatal(m.Over())
			}
		}
	}
}

// 11.2
func TestNil(t *testing.T) {
	var m *metric.Metric
	if m.Put(1, 1) != api.ErrState || m.Change(conf.Default()) != api.ErrState || m.Over() {
		t.Fatal("nil")
	}
	means(t, m, 1, 0, 0)
}
