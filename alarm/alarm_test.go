package alarm_test

import (
	"math"
	"math/rand"
	"testing"

	"spinnaker/alarm"
	"spinnaker/api"
	"spinnaker/conf"
)

const top, low = math.MaxInt64, math.MinInt64

// 14.1
func TestCalm(t *testing.T) {
	if m := alarm.Calm(); m != (alarm.Mode{Since: -1, Most: 0}) || alarm.Is(m) {
		t.Fatal(m)
	}
	for since, is := range map[int64]bool{low: false, -2: false, -1: false, 0: true, 1: true, top: true} {
		for _, most := range []int{low, -1, 0, 1, top} {
			if m := (alarm.Mode{Since: since, Most: most}); alarm.Is(m) != is {
				t.Fatal(m)
			}
		}
	}
}

// 14.1
func TestNext(t *testing.T) {
	c := conf.Default() // Stable is 60
	wrong := c
	wrong.Sample = -1
	for i, x := range []struct {
		c    api.Conf
		m    alarm.Mode
		now  int64
		over bool
		want alarm.Mode
	}{
		{c, alarm.Calm(), 5, false, alarm.Calm()},
		{c, alarm.Calm(), 5, true, alarm.Mode{Since: 5}},
		{c, alarm.Calm(), 0, true, alarm.Mode{Since: 0}},
		{c, alarm.Mode{Since: -7, Most: 9}, 5, false, alarm.Mode{Since: -7, Most: 9}},
		{c, alarm.Mode{Since: -7, Most: 9}, 5, true, alarm.Mode{Since: 5, Most: 0}},
		{c, alarm.Mode{Since: 5, Most: 9}, 5, true, alarm.Mode{Since: 5, Most: 9}},
		{c, alarm.Mode{Since: 5, Most: 9}, 8, true, alarm.Mode{Since: 8, Most: 9}},
		{c, alarm.Mode{Since: 5, Most: 9}, 3, true, alarm.Mode{Since: 3, Most: 9}},
		{c, alarm.Mode{Since: 5, Most: 9}, 500, true, alarm.Mode{Since: 500, Most: 9}},
		{c, alarm.Mode{Since: 5, Most: 9}, 8, false, alarm.Mode{Since: 5, Most: 9}},
		{c, alarm.Mode{Since: 5, Most: 9}, 64, false, alarm.Mode{Since: 5, Most: 9}},
		{c, alarm.Mode{Since: 5, Most: 9}, 65, false, alarm.Calm()},
		{c, alarm.Mode{Since: 5, Most: 9}, 66, false, alarm.Calm()},
		{c, alarm.Mode{Since: 0, Most: 9}, 60, false, alarm.Calm()},
		{c, alarm.Mode{Since: 0, Most: 9}, 59, false, alarm.Mode{Since: 0, Most: 9}},
		{c, alarm.Mode{Since: top, Most: 9}, 0, false, alarm.Mode{Since: top, Most: 9}},
		{c, alarm.Mode{Since: top, Most: 9}, api.MaxTime, false, alarm.Mode{Since: top, Most: 9}},
		{c, alarm.Mode{Since: 1, Most: -9}, 2, true, alarm.Mode{Since: 2, Most: -9}},
		{c, alarm.Mode{Since: 5, Most: 9}, api.MaxTime, false, alarm.Calm()},
		{c, alarm.Mode{Since: 5, Most: 9}, api.MaxTime, true, alarm.Mode{Since: api.MaxTime, Most: 9}},
		{c, alarm.Mode{Since: 5, Most: 9}, api.MaxTime + 1, true, alarm.Mode{Since: 5, Most: 9}},
		{c, alarm.Mode{Since: 5, Most: 9}, api.MaxTime + 1, false, alarm.Mode{Since: 5, Most: 9}},
		{c, alarm.Mode{Since: 5, Most: 9}, top, false, alarm.Mode{Since: 5, Most: 9}},
		{c, alarm.Mode{Since: 5, Most: 9}, -1, true, alarm.Mode{Since: 5, Most: 9}},
		{c, alarm.Calm(), -1, true, alarm.Calm()},
		{c, alarm.Calm(), low, true, alarm.Calm()},
		{wrong, alarm.Calm(), 5, true, alarm.Calm()},
		{wrong, alarm.Mode{Since: 5, Most: 9}, 500, false, alarm.Mode{Since: 5, Most: 9}},
		{api.Conf{}, alarm.Mode{Since: -9, Most: 9}, 500, true, alarm.Mode{Since: -9, Most: 9}},
	} {
		if m := alarm.Next(x.c, x.m, x.now, x.over); m != x.want {
			t.Fatal(i, m)
		}
	}
}

// 14.1: it is Stable that counts, and not a number by itself.
func TestNextLastsForTheStableWindow(t *testing.T) {
	for _, stable := range []int{6, 7, 60, 599, 600} {
		c := conf.Default()
		c.Stable = stable
		m := alarm.Mode{Since: 100, Most: 3}
		if alarm.Next(c, m, 99+int64(stable), false) != m || alarm.Next(c, m, 100+int64(stable), false) != alarm.Calm() {
			t.Fatal(stable)
		}
	}
}

// 14.2
func TestKeep(t *testing.T) {
	for i, x := range []struct {
		m    alarm.Mode
		want int
		to   alarm.Mode
		n    int
	}{
		{alarm.Calm(), 3, alarm.Calm(), 3},
		{alarm.Calm(), -3, alarm.Calm(), -3},
		{alarm.Mode{Since: -4, Most: 9}, 3, alarm.Mode{Since: -4, Most: 9}, 3},
		{alarm.Mode{Since: low, Most: 9}, low, alarm.Mode{Since: low, Most: 9}, low},
		{alarm.Mode{Since: 0, Most: 5}, 3, alarm.Mode{Since: 0, Most: 5}, 5},
		{alarm.Mode{Since: 0, Most: 5}, 5, alarm.Mode{Since: 0, Most: 5}, 5},
		{alarm.Mode{Since: 0, Most: 5}, 7, alarm.Mode{Since: 0, Most: 7}, 7},
		{alarm.Mode{Since: 8, Most: 0}, -7, alarm.Mode{Since: 8, Most: 0}, 0},
		{alarm.Mode{Since: 8, Most: -9}, -7, alarm.Mode{Since: 8, Most: -7}, -7},
		{alarm.Mode{Since: 8, Most: 1}, top, alarm.Mode{Since: 8, Most: top}, top},
	} {
		if m, n := alarm.Keep(x.m, x.want); m != x.to || n != x.n {
			t.Fatal(i, m, n)
		}
	}
}

// 14.1 to 14.3, T3
func TestInPanicItNeverShrinks(t *testing.T) {
	r := rand.New(rand.NewSource(16))
	for range 300 {
		c := conf.Default()
		c.Stable = 6 + r.Intn(10)
		m, last := alarm.Calm(), int64(low)
		kept, was := 0, false
		for now := int64(r.Intn(5)); now < 200; now += int64(1 + r.Intn(3)) {
			over := r.Intn(8) == 0
			if over {
				last = now
			}
			m = alarm.Next(c, m, now, over)
			if alarm.Is(m) != (last >= 0 && now-last < int64(c.Stable)) {
				t.Fatal(now, last, m)
			}
			var n int
			want := r.Intn(20)
			m, n = alarm.Keep(m, want)
			if !alarm.Is(m) && n != want || alarm.Is(m) && (n < want || was && n < kept) {
				t.Fatal(now, m, want, n, kept)
			}
			kept, was = n, alarm.Is(m)
		}
	}
}
