package tower_test

import (
	"math"
	"math/rand"
	"slices"
	"testing"

	"spinnaker/api"
	"spinnaker/conf"
	"spinnaker/sys"
	"spinnaker/tower"
)

const top, low = math.MaxInt64, math.MinInt64

// with is the default Conf with some parts set.
func with(set func(c *api.Conf)) api.Conf {
	c := conf.Default()
	set(&c)
	return c
}

func wrong() api.Conf { return with(func(c *api.Conf) { c.Sample = -1 }) }

// pod is one of that number, state and load, there since 1.
func pod(id, state, busy int) api.Pod {
	return api.Pod{Id: id, State: state, Busy: busy, Since: 1}
}

// seen is a View at 5 of these pods, whose Busy is their sum.
func seen(l ...api.Pod) api.View {
	v := api.View{T: 5, Pods: l}
	for _, p := range l {
		v.Busy += p.Busy
	}
	return v
}

func many(n, state, busy int) []api.Pod {
	l := make([]api.Pod, n)
	for i := range l {
		l[i] = pod(i, state, busy)
	}
	return l
}

// 25.1
func TestPods(t *testing.T) {
	c := conf.Default()
	three := with(func(c *api.Conf) { c.Max = 3 })
	since := func(since int64) api.View { return seen(api.Pod{Id: 1, State: api.PReady, Since: since}) }
	busy := func(n int, l ...api.Pod) api.View {
		v := seen(l...)
		v.Busy = n
		return v
	}
	for i, x := range []struct {
		c    api.Conf
		v    api.View
		code int
	}{
		{c, api.View{}, api.OK},
		{c, seen(), api.OK},
		{c, seen(pod(0, 1, 0)), api.OK},
		{c, seen(pod(0, 1, 0), pod(1, 2, 0), pod(2, 2, 7), pod(9, 3, 1)), api.OK},
		{api.Conf{}, seen(), api.ErrArg},
		{wrong(), seen(pod(0, 1, 0)), api.ErrArg},
		{wrong(), seen(pod(0, 0, 0)), api.ErrArg},
		// pods rise by Id
		{c, seen(pod(1, 2, 0), pod(1, 2, 0)), api.ErrState},
		{c, seen(pod(2, 2, 0), pod(1, 2, 0)), api.ErrState},
		{c, seen(pod(1, 2, 0), pod(3, 2, 0), pod(2, 2, 0)), api.ErrState},
		{c, seen(pod(1, 2, 0), pod(top, 2, 0)), api.OK},
		// states
		{c, seen(pod(0, 0, 0)), api.ErrState},
		{c, seen(pod(0, 4, 0)), api.ErrState},
		{c, seen(pod(0, 4, 1)), api.ErrState},
		{c, seen(pod(0, -1, 0)), api.ErrState},
		{c, seen(pod(0, low, 0)), api.ErrState},
		{c, seen(pod(0, top, 1)), api.ErrState},
		// since when
		{c, since(0), api.OK},
		{c, since(5), api.OK},
		{c, since(6), api.ErrState},
		{c, since(-1), api.ErrState},
		{c, since(low), api.ErrState},
		{c, since(top), api.ErrState},
		// in flight
		{c, seen(pod(0, 1, 1)), api.ErrState},
		{c, seen(pod(0, 3, 0)), api.ErrState},
		{c, seen(pod(0, 2, 0)), api.OK},
		{c, seen(pod(0, 2, -1)), api.ErrState},
		{c, seen(pod(0, 3, -1)), api.ErrState},
		{c, seen(pod(0, 1, -1)), api.ErrState},
		{c, seen(pod(0, 2, low)), api.ErrState},
		{c, seen(pod(0, 2, 1<<40)), api.OK},
		{c, seen(pod(0, 3, 1<<40)), api.OK},
		{c, seen(pod(0, 2, 1<<40+1)), api.ErrState},
		{c, seen(pod(0, 3, top)), api.ErrState},
		{c, seen(pod(0, 2, 1<<40), pod(1, 2, 1<<40)), api.OK},
		// their sum
		{c, busy(1), api.ErrState},
		{c, busy(-1), api.ErrState},
		{c, busy(low), api.ErrState},
		{c, busy(top), api.ErrState},
		{c, busy(3, pod(0, 2, 1), pod(1, 2, 2)), api.OK},
		{c, busy(2, pod(0, 2, 1), pod(1, 2, 2)), api.ErrState},
		{c, busy(4, pod(0, 2, 1), pod(1, 2, 2)), api.ErrState},
		{c, busy(low, pod(0, 2, 0)), api.ErrState},
		{c, busy(top, pod(0, 2, 1)), api.ErrState},
		// how many
		{c, seen(many(100, 2, 1)...), api.OK},
		{c, seen(many(101, 2, 1)...), api.ErrState},
		{c, seen(many(101, 1, 0)...), api.ErrState},
		{c, seen(many(150, 3, 1)...), api.OK},
		{three, seen(many(3, 2, 0)...), api.OK},
		{three, seen(many(4, 2, 0)...), api.ErrState},
		{three, seen(many(4, 1, 0)...), api.ErrState},
		{three, seen(pod(0, 1, 0), pod(1, 2, 0), pod(2, 3, 1), pod(3, 3, 1), pod(4, 1, 0)), api.OK},
		{three, seen(pod(0, 1, 0), pod(1, 2, 0), pod(2, 3, 1), pod(3, 2, 1), pod(4, 1, 0)), api.ErrState},
	} {
		was := slices.Clone(x.v.Pods)
		if code := tower.Pods(x.c, x.v); code != x.code {
			t.Fatal(i, code)
		}
		if !slices.Equal(was, x.v.Pods) {
			t.Fatal("changed", i)
		}
	}
}

// 25.1: nothing is asked of the time but that all is since then.
func TestPodsAtAnyTime(t *testing.T) {
	for _, now := range []int64{low, -1, 0, top} {
		if code := tower.Pods(conf.Default(), api.View{T: now}); code != api.OK {
			t.Fatal(now, code)
		}
		v := api.View{T: now, Pods: []api.Pod{{State: api.PReady}}}
		if code := tower.Pods(conf.Default(), v); (code == api.OK) != (now >= 0) {
			t.Fatal(now, code)
		}
	}
}

// 25.1
func TestBalance(t *testing.T) {
	for i, x := range []struct {
		v    api.View
		code int
	}{
		{api.View{}, api.OK},
		{api.View{Waiting: 3, Busy: 2, Ends: [7]int{0, 3, 2, 9, 8, 7, 6}}, api.OK},
		{api.View{Waiting: top, Busy: top, Ends: [7]int{0, top, top, top, top, top, top}}, api.OK},
		{api.View{Waiting: 3, Busy: 2, Ends: [7]int{1, 3, 2}}, api.ErrState},
		{api.View{Waiting: 3, Busy: 2, Ends: [7]int{-1, 3, 2}}, api.ErrState},
		{api.View{Waiting: 3, Busy: 2, Ends: [7]int{0, 2, 2}}, api.ErrState},
		{api.View{Waiting: 3, Busy: 2, Ends: [7]int{0, 3, 3}}, api.ErrState},
		{api.View{Waiting: 2, Busy: 3, Ends: [7]int{0, 3, 2}}, api.ErrState},
		{api.View{Waiting: -1, Ends: [7]int{0, -1}}, api.ErrState},
		{api.View{Busy: -1, Ends: [7]int{0, 0, -1}}, api.ErrState},
		{api.View{Ends: [7]int{0, 0, 0, -1}}, api.ErrState},
		{api.View{Ends: [7]int{0, 0, 0, 0, -1}}, api.ErrState},
		{api.View{Ends: [7]int{0, 0, 0, 0, 0, -1}}, api.ErrState},
		{api.View{Ends: [7]int{0, 0, 0, 0, 0, 0, low}}, api.ErrState},
	} {
		if code := tower.Balance(x.v); code != x.code {
			t.Fatal(i, code)
		}
	}
}

// 25.2
func TestStep(t *testing.T) {
	c := with(func(c *api.Conf) { c.Min, c.Max = 1, 9 })
	a := api.View{T: 5, Want: 4, Ends: [7]int{0, 0, 0, 7, 7, 7, 7}}
	at := func(set func(v *api.View)) api.View {
		v := a
		v.T = 6
		set(&v)
		return v
	}
	before := func(set func(v *api.View)) api.View {
		v := a
		set(&v)
		return v
	}
	same := at(func(v *api.View) {})
	for i, x := range []struct {
		c    api.Conf
		a, b api.View
		code int
	}{
		{c, a, same, api.OK},
		{api.Conf{}, a, same, api.ErrArg},
		{wrong(), a, same, api.ErrArg},
		// side by side
		{c, a, a, api.ErrArg},
		{c, same, a, api.ErrArg},
		{c, a, at(func(v *api.View) { v.T = 7 }), api.ErrArg},
		{c, a, at(func(v *api.View) { v.T = low }), api.ErrArg},
		{c, before(func(v *api.View) { v.T = top }), at(func(v *api.View) { v.T = low }), api.ErrArg},
		{c, before(func(v *api.View) { v.T = low }), at(func(v *api.View) { v.T = top }), api.ErrArg},
		{c, before(func(v *api.View) { v.T = top - 1 }), at(func(v *api.View) { v.T = top }), api.OK},
		{c, before(func(v *api.View) { v.T = -1 }), at(func(v *api.View) { v.T = 0 }), api.OK},
		// both pass
		{c, before(func(v *api.View) { v.Busy = 1 }), same, api.ErrArg},
		{c, before(func(v *api.View) { v.Waiting = 1 }), same, api.ErrArg},
		{c, a, at(func(v *api.View) { v.Pods = []api.Pod{pod(0, 0, 0)} }), api.ErrArg},
		{c, before(func(v *api.View) { v.Pods = []api.Pod{pod(0, 0, 0)} }), same, api.ErrArg},
		{c, a, at(func(v *api.View) { v.Ends[0] = 1 }), api.ErrArg},
		{c, a, at(func(v *api.View) { v.Pods = []api.Pod{pod(0, 2, 0)} }), api.OK},
		// what is wanted
		{c, a, at(func(v *api.View) { v.Want = 1 }), api.OK},
		{c, a, at(func(v *api.View) { v.Want = 9 }), api.OK},
		{c, a, at(func(v *api.View) { v.Want = 0 }), api.ErrRange},
		{c, a, at(func(v *api.View) { v.Want = 10 }), api.ErrRange},
		{c, a, at(func(v *api.View) { v.Want = low }), api.ErrRange},
		{c, a, at(func(v *api.View) { v.Want = top }), api.ErrRange},
		{c, before(func(v *api.View) { v.Want = 77 }), same, api.OK},
		{conf.Default(), a, at(func(v *api.View) { v.Want = 0 }), api.OK},
		{conf.Default(), a, at(func(v *api.View) { v.Want = 100 }), api.OK},
		{conf.Default(), a, at(func(v *api.View) { v.Want = 101 }), api.ErrRange},
		{conf.Default(), a, at(func(v *api.View) { v.Want = -1 }), api.ErrRange},
		// who is done stays so
		{c, a, at(func(v *api.View) { v.Ends = [7]int{0, 0, 0, 8, 9, 10, 11} }), api.OK},
		{c, a, at(func(v *api.View) { v.Ends[api.RDone] = 6 }), api.ErrFull},
		{c, a, at(func(v *api.View) { v.Ends[api.RLate] = 6 }), api.ErrFull},
		{c, a, at(func(v *api.View) { v.Ends[api.RRefused] = 6 }), api.ErrFull},
		{c, a, at(func(v *api.View) { v.Ends[api.RFailed] = 6 }), api.ErrFull},
		{c, before(func(v *api.View) { v.Waiting, v.Ends[api.RWaiting] = 5, 5 }), same, api.OK},
		{c, before(func(v *api.View) { v.Busy, v.Ends[api.RFlying], v.Pods = 5, 5, []api.Pod{pod(0, 2, 5)} }), same, api.OK},
		// in panic it never falls
		{c, before(func(v *api.View) { v.Panic = true }), at(func(v *api.View) { v.Panic, v.Want = true, 3 }), api.ErrState},
		{c, before(func(v *api.View) { v.Panic = true }), at(func(v *api.View) { v.Panic, v.Want = true, 4 }), api.OK},
		{c, before(func(v *api.View) { v.Panic = true }), at(func(v *api.View) { v.Panic, v.Want = true, 5 }), api.OK},
		{c, before(func(v *api.View) { v.Panic = true }), at(func(v *api.View) { v.Want = 3 }), api.OK},
		{c, a, at(func(v *api.View) { v.Panic, v.Want = true, 3 }), api.OK},
		// in their order
		{c, before(func(v *api.View) { v.Panic = true }), at(func(v *api.View) { v.Panic, v.Want, v.Ends[3] = true, 0, 0 }), api.ErrRange},
		{c, before(func(v *api.View) { v.Panic = true }), at(func(v *api.View) { v.Panic, v.Want, v.Ends[3] = true, 3, 0 }), api.ErrFull},
		{c, a, at(func(v *api.View) { v.T, v.Want, v.Ends[3] = 7, 0, 0 }), api.ErrArg},
	} {
		if code := tower.Step(x.c, x.a, x.b); code != x.code {
			t.Fatal(i, code)
		}
	}
}

// 25.2
func TestTrace(t *testing.T) {
	c := conf.Default()
	v := func(at int64, want int) api.View { return api.View{T: at, Want: want} }
	for i, x := range []struct {
		c           api.Conf
		l           []api.View
		code, place int
	}{
		{c, nil, api.OK, 0},
		{c, []api.View{}, api.OK, 0},
		{c, []api.View{{Busy: 7}}, api.OK, 0}, // one by itself is no step
		{c, []api.View{v(1, 1), v(2, 0), v(3, 100)}, api.OK, 0},
		{c, []api.View{v(1, 1), v(2, 101), v(3, 101)}, api.ErrRange, 1},
		{c, []api.View{v(1, 1), v(2, 1), v(3, 101)}, api.ErrRange, 2},
		{c, []api.View{v(1, 1), v(2, 1), v(4, 101)}, api.ErrArg, 2},
		{c, []api.View{v(1, 1), v(1, 1), v(2, 101)}, api.ErrArg, 1},
		{c, []api.View{{T: 1, Panic: true, Want: 3}, {T: 2, Panic: true, Want: 2}}, api.ErrState, 1},
		{c, []api.View{{T: 1, Ends: [7]int{0, 0, 0, 1}}, {T: 2, Ends: [7]int{0, 0, 0, 1}}, {T: 3}}, api.ErrFull, 2},
		{api.Conf{}, nil, api.ErrArg, 0},
		{wrong(), []api.View{v(1, 1), v(2, 101)}, api.ErrArg, 0},
	} {
		if code, place := tower.Trace(x.c, x.l); code != x.code || place != x.place {
			t.Fatal(i, code, place)
		}
	}
}

func anyConf(r *rand.Rand) api.Conf {
	for {
		c := with(func(c *api.Conf) {
			c.Target, c.Util = 1000+r.Int63n(9000), 100+r.Int63n(901)
			c.Stable, c.Panic, c.Grain = 6+r.Intn(20), 1+r.Intn(6), 1+r.Intn(3)
			c.Threshold, c.Up, c.Down = 1100+r.Int63n(2000), 1001+r.Int63n(5000), 1001+r.Int63n(3000)
			c.Min, c.Max, c.Initial = r.Intn(4)*r.Intn(2), r.Intn(20)*r.Intn(2), r.Intn(6)
			c.Grace, c.Delay, c.Burst = r.Intn(10), r.Intn(6)*r.Intn(2), []int64{-1000, 0, 1000, 20000}[r.Intn(4)]
			c.Limit, c.Queue, c.Timeout, c.Ready = 1+r.Intn(6), r.Intn(30), 1+r.Intn(10), r.Intn(4)
			c.Subset, c.Sample = r.Intn(4), r.Intn(4)
		})
		if conf.May(c) {
			return c
		}
	}
}

// 25.3, T2, T3: what the whole makes of any script may be.
func TestWhatMustHoldAtEveryStep(t *testing.T) {
	r := rand.New(rand.NewSource(31))
	for range 300 {
		c := anyConf(r)
		s, code := sys.New(c)
		if code != api.OK {
			t.Fatal(code)
		}
		if code := tower.Pods(c, s.See()); code != api.OK {
			t.Fatal(code)
		}
		for range 150 {
			switch r.Intn(8) {
			case 0, 1:
				s.Do(api.Event{Kind: api.EArrive, N: 1 + r.Intn(12)})
			case 2, 3:
				s.Do(api.Event{Kind: api.EFinish, N: r.Intn(6)})
			case 4:
				if r.Intn(4) == 0 {
					s.Do(api.Event{Kind: api.ECrash, N: r.Intn(4)})
				}
			default:
				s.Do(api.Event{Kind: api.ETick, N: 1 + r.Intn(4)})
			}
			if v := s.See(); tower.Pods(c, v) != api.OK || tower.Balance(v) != api.OK {
				t.Fatalf("%+v", v)
			}
		}
		if code, place := tower.Trace(c, s.Trace()); code != api.OK || place != 0 {
			l := s.Trace()
			t.Fatalf("%+v\n%d at %d\n%+v\n%+v", c, code, place, l[place-1], l[place])
		}
	}
}
