package sys_test

import (
	"math"
	"slices"
	"strings"
	"testing"

	"spinnaker/api"
	"spinnaker/conf"
	"spinnaker/sys"
)

// with is the default Conf with some parts set.
func with(set func(c *api.Conf)) api.Conf {
	c := conf.Default()
	set(&c)
	return c
}

func made(t *testing.T, c api.Conf) *sys.Sys {
	t.Helper()
	s, code := sys.New(c)
	if s == nil || code != api.OK {
		t.Fatal(s, code)
	}
	return s
}

func do(t *testing.T, s *sys.Sys, kind, n, code int) {
	t.Helper()
	if c := s.Do(api.Event{Kind: kind, N: n}); c != code {
		t.Fatalf("Do(%d, %d) = %d", kind, n, c)
	}
}

func set(t *testing.T, s *sys.Sys, text string, code int) {
	t.Helper()
	if c := s.Do(api.Event{Kind: api.EConf, Text: text}); c != code {
		t.Fatalf("set %q = %d", text, c)
	}
}

// stand is how many requests stand so: waiting, flying, done, late, refused,
// failed.
func stand(t *testing.T, s *sys.Sys, n ...int) {
	t.Helper()
	v := s.See()
	if !slices.Equal(v.Ends[1:], n) || v.Ends[0] != 0 || v.Waiting != n[0] || v.Busy != n[1] {
		t.Fatalf("%+v", v)
	}
}

func pods(t *testing.T, s *sys.Sys, want ...api.Pod) {
	t.Helper()
	if l := s.See().Pods; !slices.Equal(l, want) {
		t.Fatalf("%+v", l)
	}
}

func ready(id, busy int, since int64) api.Pod {
	return api.Pod{Id: id, State: api.PReady, Busy: busy, Since: since}
}

// 24.1, 24.4
func TestNew(t *testing.T) {
	for _, c := range []api.Conf{{}, with(func(c *api.Conf) { c.Sample = -1 }), with(func(c *api.Conf) { c.Max, c.Initial = 1, 2 })} {
		if s, code := sys.New(c); s != nil || code != api.ErrArg {
			t.Fatal(c, s, code)
		}
	}
	s := made(t, conf.Default())
	if got, want := traced([]api.View{s.See()}), traced([]api.View{{Want: 1, Proxy: true, Pods: []api.Pod{ready(0, 0, 0)}}}); got != want {
		t.Fatal(got, want)
	}
	if len(s.Requests()) != 0 || len(s.Trace()) != 0 || s.Conf() != conf.Default() || s.Last() != (api.Decision{}) {
		t.Fatal(s.Requests(), s.Trace(), s.Conf(), s.Last())
	}
	for _, x := range []struct {
		initial int
		burst   int64
		proxy   bool
	}{{0, 0, true}, {1, 0, false}, {1, 10000, false}, {1, 10001, true}, {2, 20000, false}, {3, -1000, true}, {0, -1000, true}, {100, 20000, false}} {
		v := made(t, with(func(c *api.Conf) { c.Initial, c.Burst = x.initial, x.burst })).See()
		if v.Proxy != x.proxy || v.Want != x.initial || len(v.Pods) != x.initial || v.T != 0 || v.Panic {
			t.Fatal(x, v)
		}
	}
}

// 24.2
func TestArrive(t *testing.T) {
	s := made(t, with(func(c *api.Conf) { c.Initial, c.Limit, c.Queue = 2, 2, 3 }))
	do(t, s, api.EArrive, 3, api.OK)
	pods(t, s, ready(0, 2, 0), ready(1, 1, 0))
	stand(t, s, 0, 3, 0, 0, 0, 0)
	do(t, s, api.EArrive, 6, api.OK)
	pods(t, s, ready(0, 2, 0), ready(1, 2, 0))
	stand(t, s, 3, 4, 0, 0, 2, 0)
	want := []api.Request{
		{State: api.RFlying, Pod: 0}, {State: api.RFlying, Pod: 1}, {State: api.RFlying, Pod: 0}, {State: api.RFlying, Pod: 1},
		{State: api.RWaiting, Pod: -1}, {State: api.RWaiting, Pod: -1}, {State: api.RWaiting, Pod: -1}, {State: api.RRefused, Pod: -1}, {State: api.RRefused, Pod: -1},
	}
	if l := s.Requests(); !slices.Equal(l, want) {
		t.Fatalf("%+v", l)
	}
}

// 24.2: each is put into the queue first, so without one all are refused.
func TestNoQueueLetsNoneThrough(t *testing.T) {
	s := made(t, with(func(c *api.Conf) { c.Queue = 0 }))
	do(t, s, api.EArrive, 4, api.OK)
	stand(t, s, 0, 0, 0, 0, 4, 0)
	// with one place they go through one by one
	s = made(t, with(func(c *api.Conf) { c.Queue = 1 }))
	do(t, s, api.EArrive, 12, api.OK)
	stand(t, s, 1, 10, 0, 0, 1, 0)
}

// 24.2
func TestFinish(t *testing.T) {
	s := made(t, with(func(c *api.Conf) { c.Initial, c.Min, c.Limit = 2, 2, 2 }))
	do(t, s, api.EFinish, 0, api.ErrNone)
	do(t, s, api.EArrive, 6, api.OK) // 0 and 2 at pod 0, 1 and 3 at pod 1; 4, 5 wait
	do(t, s, api.ETick, 1, api.OK)
	do(t, s, api.EFinish, 4, api.ErrNone)
	do(t, s, api.EFinish, 999, api.ErrNone)
	do(t, s, api.EFinish, 1000, api.ErrArg)
	do(t, s, api.EFinish, 1, api.OK)
	l := s.Requests()
	if l[1] != (api.Request{Came: 0, Since: 1, State: api.RDone, Pod: 1}) {
		t.Fatalf("%+v", l)
	}
	if l[4] != (api.Request{Came: 0, Since: 1, State: api.RFlying, Pod: 1}) || l[5].State != api.RWaiting {
		t.Fatalf("%+v", l)
	}
	// place 1 is request 2 now
	do(t, s, api.EFinish, 1, api.OK)
	if l := s.Requests(); l[2].State != api.RDone || l[2].Pod != 0 || l[5] != (api.Request{Came: 0, Since: 1, State: api.RFlying, Pod: 0}) {
		t.Fatalf("%+v", l)
	}
	stand(t, s, 0, 4, 2, 0, 0, 0)
	do(t, s, api.EFinish, 4, api.ErrNone)
	do(t, s, api.EFinish, 3, api.OK)
	stand(t, s, 0, 3, 3, 0, 0, 0)
}

// 24.2
func TestCrash(t *testing.T) {
	s := made(t, with(func(c *api.Conf) { c.Initial, c.Limit = 2, 2 }))
	do(t, s, api.ECrash, 2, api.ErrNone)
	do(t, s, api.EArrive, 5, api.OK)
	stand(t, s, 1, 4, 0, 0, 0, 0)
	do(t, s, api.ECrash, 2, api.ErrNone)
	do(t, s, api.ECrash, 0, api.OK)
	stand(t, s, 1, 2, 0, 0, 0, 2)
	pods(t, s, ready(1, 2, 0))
	l := s.Requests()
	if l[0] != (api.Request{State: api.RFailed, Pod: 0}) || l[2] != l[0] || l[1] != (api.Request{State: api.RFlying, Pod: 1}) {
		t.Fatalf("%+v", l)
	}
	do(t, s, api.ECrash, 0, api.OK)
	stand(t, s, 1, 0, 0, 0, 0, 4)
	pods(t, s)
	do(t, s, api.ECrash, 0, api.ErrNone)
	do(t, s, api.EFinish, 0, api.ErrNone)
}

// 24.2
func TestConf(t *testing.T) {
	s := made(t, with(func(c *api.Conf) { c.Limit, c.Queue = 2, 4 }))
	do(t, s, api.EArrive, 6, api.OK)
	stand(t, s, 4, 2, 0, 0, 0, 0)
	was := told(s)
	set(t, s, "limit", api.ErrParse)
	set(t, s, "queue: 1\nlimit: 3\nlimit: 3", api.ErrParse)
	set(t, s, "queue: 1\nlimit: 0", api.ErrRange)
	if told(s) != was {
		t.Fatal(was, told(s))
	}
	set(t, s, "queue: 1", api.OK)
	stand(t, s, 4, 2, 0, 0, 0, 0) // those that wait stay
	do(t, s, api.EArrive, 1, api.OK)
	stand(t, s, 4, 2, 0, 0, 1, 0)
	set(t, s, "limit: 4\n# more\n", api.OK)
	stand(t, s, 2, 4, 0, 0, 1, 0)
	set(t, s, "limit: 1", api.OK) // those in flight stay
	pods(t, s, ready(0, 4, 0))
	for range 3 {
		do(t, s, api.EFinish, 0, api.OK)
	}
	stand(t, s, 2, 1, 3, 0, 1, 0)
	do(t, s, api.EFinish, 0, api.OK)
	stand(t, s, 1, 1, 4, 0, 1, 0)
	if c := s.Conf(); c != with(func(c *api.Conf) { c.Limit, c.Queue = 1, 1 }) {
		t.Fatal(c)
	}
	set(t, s, "timeout: 1", api.OK)
	do(t, s, api.ETick, 1, api.OK)
	stand(t, s, 0, 1, 4, 1, 1, 0)
}

// 24.2: a new Conf is one for what is decided, too.
func TestConfChangesWhatIsDecided(t *testing.T) {
	s := made(t, conf.Default())
	set(t, s, "min: 3\nready: 0\nburst: 0", api.OK)
	if v := s.See(); len(v.Pods) != 1 || v.Want != 1 || !v.Proxy {
		t.Fatal(v)
	}
	do(t, s, api.ETick, 1, api.OK)
	if v := s.See(); len(v.Pods) != 3 || v.Want != 3 || v.Proxy || s.Last().Want != 3 {
		t.Fatal(v)
	}
	set(t, s, "min: 0\nmax: 2", api.OK)
	do(t, s, api.ETick, 1, api.OK)
	if v := s.See(); len(v.Pods) > 2 || v.Want > 2 {
		t.Fatal(v)
	}
}

// 24.2
func TestWrongEventsChangeNothing(t *testing.T) {
	s := made(t, conf.Default())
	do(t, s, api.EArrive, 12, api.OK)
	do(t, s, api.ETick, 2, api.OK)
	was, trace := told(s), traced(s.Trace())
	for _, e := range []api.Event{
		{}, {Kind: 7, N: 1}, {Kind: -1, N: 1}, {Kind: api.ETick}, {Kind: api.ETick, N: 201}, {Kind: api.EArrive, N: 101}, {Kind: api.EFinish, N: -1}, {Kind: api.ECrash, N: 1000},
		{Kind: api.ELose, N: 51}, {Kind: api.ELose}, {Kind: api.EConf, N: 1}, {Kind: api.EConf, Text: strings.Repeat(" ", 201)}, {Kind: api.ETick, N: 1, Text: "x"}, {Kind: math.MaxInt, N: math.MinInt},
	} {
		if code := s.Do(e); code != api.ErrArg {
			t.Fatal(e, code)
		}
	}
	do(t, s, api.EFinish, 10, api.ErrNone)
	do(t, s, api.ECrash, 9, api.ErrNone)
	set(t, s, "x", api.ErrParse)
	set(t, s, "limit: 0", api.ErrRange)
	if told(s) != was || traced(s.Trace()) != trace {
		t.Fatal(was, told(s))
	}
}

// 24.3
func TestLate(t *testing.T) {
	s := made(t, with(func(c *api.Conf) { c.Initial, c.Timeout, c.Grace, c.Max = 0, 3, 600, 1 }))
	do(t, s, api.ETick, 5, api.OK)
	set(t, s, "ready: 100", api.OK)
	do(t, s, api.EArrive, 2, api.OK)
	do(t, s, api.ETick, 1, api.OK)
	do(t, s, api.EArrive, 1, api.OK)
	do(t, s, api.ETick, 1, api.OK)
	stand(t, s, 3, 0, 0, 0, 0, 0)
	do(t, s, api.ETick, 1, api.OK)
	stand(t, s, 1, 0, 0, 2, 0, 0)
	if l := s.Requests(); l[0] != (api.Request{Came: 5, Since: 8, State: api.RLate, Pod: -1}) || l[2] != (api.Request{Came: 6, Since: 6, State: api.RWaiting, Pod: -1}) {
		t.Fatalf("%+v", l)
	}
	do(t, s, api.ETick, 1, api.OK)
	stand(t, s, 0, 0, 0, 3, 0, 0)
}

// 24.3: up by what waits, ready behind its time, and then sent.
func TestFromNoneUp(t *testing.T) {
	s := made(t, with(func(c *api.Conf) { c.Initial = 0 }))
	do(t, s, api.ETick, 1, api.OK)
	if v := s.See(); v.Want != 0 || len(v.Pods) != 0 || !v.Proxy || v.Panic {
		t.Fatalf("%+v", v)
	}
	do(t, s, api.EArrive, 1, api.OK)
	do(t, s, api.ETick, 1, api.OK)
	if s.Last() != (api.Decision{T: 2, Stable: 500, Quick: 500, Want: 1, Excess: -20500}) {
		t.Fatalf("%+v", s.Last())
	}
	pods(t, s, api.Pod{Id: 0, State: api.PStarting, Since: 2})
	do(t, s, api.ETick, 2, api.OK)
	pods(t, s, api.Pod{Id: 0, State: api.PStarting, Since: 2})
	do(t, s, api.ETick, 1, api.OK)
	pods(t, s, ready(0, 1, 2))
	if l := s.Requests(); l[0] != (api.Request{Came: 1, Since: 5, State: api.RFlying, Pod: 0}) {
		t.Fatalf("%+v", l)
	}
	if s.Last().Quick != 800 { // 0, 1, 1, 1, 1 waited when they were asked
		t.Fatalf("%+v", s.Last())
	}
}

// 24.3: up in panic.
func TestPanic(t *testing.T) {
	s := made(t, with(func(c *api.Conf) { c.Ready = 0 }))
	do(t, s, api.EArrive, 80, api.OK)
	stand(t, s, 70, 10, 0, 0, 0, 0)
	do(t, s, api.ETick, 1, api.OK)
	// 80 in all at 7 a pod: 12, but ten times one at most
	if s.Last() != (api.Decision{T: 1, Stable: 80000, Quick: 80000, Want: 10, Panic: true, Excess: -90000}) {
		t.Fatalf("%+v", s.Last())
	}
	if v := s.See(); !v.Panic || v.Want != 10 || len(v.Pods) != 10 || v.Waiting != 70 {
		t.Fatalf("%+v", v)
	}
	do(t, s, api.ETick, 1, api.OK)
	if v := s.See(); !v.Panic || v.Want != 12 || len(v.Pods) != 12 || v.Waiting != 0 || v.Busy != 80 {
		t.Fatalf("%+v", v)
	}
}

// 24.2, 24.3
func TestLose(t *testing.T) {
	s := made(t, conf.Default())
	do(t, s, api.EArrive, 5, api.OK)
	do(t, s, api.ELose, 2, api.OK)
	for at := range int64(2) {
		do(t, s, api.ETick, 1, api.OK)
		if s.Last() != (api.Decision{T: at + 1, Excess: -10000}) {
			t.Fatalf("%+v", s.Last())
		}
	}
	do(t, s, api.ETick, 1, api.OK)
	if s.Last() != (api.Decision{T: 3, Stable: 5000, Quick: 5000, Want: 1, Excess: -15000}) {
		t.Fatalf("%+v", s.Last())
	}
	for range 30 { // 1,500 of them: 1,000 are lost
		do(t, s, api.ELose, 50, api.OK)
	}
	for range 5 {
		do(t, s, api.ETick, 200, api.OK)
	}
	if s.Last().Stable != 0 {
		t.Fatalf("%+v", s.Last())
	}
	do(t, s, api.ETick, 1, api.OK)
	if s.Last().Stable != 5000 {
		t.Fatalf("%+v", s.Last())
	}
}

// 24.3: some speak for all, each in its turn.
func TestSample(t *testing.T) {
	s := made(t, with(func(c *api.Conf) { c.Initial, c.Sample, c.Min, c.Burst = 3, 1, 3, 0 }))
	do(t, s, api.EArrive, 4, api.OK) // 2, 1, 1
	for i, quick := range []int64{3000, 3000, 4000, 3750} {
		do(t, s, api.ETick, 1, api.OK)
		if s.Last().Quick != quick {
			t.Fatal(i, s.Last())
		}
	}
}

// 24.2, T5: in the way the activator serves its subset alone.
func TestSubset(t *testing.T) {
	s := made(t, with(func(c *api.Conf) { c.Initial, c.Subset, c.Burst, c.Limit = 3, 1, 20000, 1 }))
	if !s.See().Proxy {
		t.Fatal("a burst of 20 with room for 3")
	}
	do(t, s, api.EArrive, 3, api.OK)
	pods(t, s, ready(0, 1, 0), ready(1, 0, 0), ready(2, 0, 0))
	stand(t, s, 2, 1, 0, 0, 0, 0)
	set(t, s, "subset: 2", api.OK) // the least scores: 0 and 2
	pods(t, s, ready(0, 1, 0), ready(1, 0, 0), ready(2, 1, 0))
	s = made(t, with(func(c *api.Conf) { c.Initial, c.Subset, c.Burst, c.Limit = 3, 1, 0, 1 }))
	do(t, s, api.EArrive, 3, api.OK)
	pods(t, s, ready(0, 1, 0), ready(1, 1, 0), ready(2, 1, 0))
}

// 24.3, T3
func TestDownToNoneBehindAQuietGrace(t *testing.T) {
	s := made(t, with(func(c *api.Conf) { c.Stable, c.Panic, c.Grace = 6, 2, 10 }))
	do(t, s, api.EArrive, 1, api.OK)
	do(t, s, api.ETick, 20, api.OK)
	do(t, s, api.EFinish, 0, api.OK)
	do(t, s, api.ETick, 5, api.OK)
	if v := s.See(); len(v.Pods) != 1 || v.Want != 1 { // 1,000 at tick 20 is still in the window
		t.Fatalf("%+v", v)
	}
	do(t, s, api.ETick, 1, api.OK)
	if v := s.See(); len(v.Pods) != 0 || v.Want != 0 || s.Last().Want != 0 { // in the way since tick 1
		t.Fatalf("%+v", v)
	}
	// with nothing ever the grace begins at the first tick
	s = made(t, with(func(c *api.Conf) { c.Stable, c.Panic, c.Grace = 6, 2, 10 }))
	do(t, s, api.ETick, 10, api.OK)
	if v := s.See(); len(v.Pods) != 1 || v.Want != 1 {
		t.Fatalf("%+v", v)
	}
	do(t, s, api.ETick, 1, api.OK)
	if v := s.See(); len(v.Pods) != 0 || v.Want != 0 {
		t.Fatalf("%+v", v)
	}
	// out of the way it never begins
	s = made(t, with(func(c *api.Conf) { c.Stable, c.Panic, c.Grace, c.Burst = 6, 2, 10, 0 }))
	do(t, s, api.ETick, 200, api.OK)
	if v := s.See(); len(v.Pods) != 1 || v.Want != 1 || v.Proxy {
		t.Fatalf("%+v", v)
	}
}

// 24.3, T2: who goes finishes first.
func TestWhoGoesFinishesFirst(t *testing.T) {
	s := made(t, with(func(c *api.Conf) { c.Initial, c.Limit, c.Stable, c.Panic, c.Down = 2, 3, 6, 2, 2000 }))
	do(t, s, api.EArrive, 4, api.OK)
	do(t, s, api.ETick, 1, api.OK)
	pods(t, s, ready(0, 2, 0), api.Pod{Id: 1, State: api.PDraining, Busy: 2, Since: 1})
	do(t, s, api.EFinish, 1, api.OK)
	pods(t, s, ready(0, 2, 0), api.Pod{Id: 1, State: api.PDraining, Busy: 1, Since: 1})
	do(t, s, api.EArrive, 2, api.OK)
	pods(t, s, ready(0, 3, 0), api.Pod{Id: 1, State: api.PDraining, Busy: 1, Since: 1})
	stand(t, s, 1, 4, 1, 0, 0, 0)
	do(t, s, api.EFinish, 2, api.OK) // request 3 was at pod 1
	pods(t, s, ready(0, 3, 0))
	do(t, s, api.ECrash, 0, api.OK)
	stand(t, s, 1, 0, 2, 0, 0, 3)
}

// 24.3
func TestTheLastThousandAreTraced(t *testing.T) {
	s := made(t, conf.Default())
	for i := range 6 {
		do(t, s, api.ETick, 200, api.OK)
		l := s.Trace()
		if n := min(200*(i+1), 1000); len(l) != n || l[n-1].T != int64(200*(i+1)) || l[0].T != int64(200*(i+1)-n+1) {
			t.Fatal(i, len(l))
		}
		if got, want := traced(l[len(l)-1:]), traced([]api.View{s.See()}); got != want {
			t.Fatal(got, want)
		}
	}
	for i := range int64(3) {
		do(t, s, api.ETick, 1, api.OK)
		if l := s.Trace(); len(l) != 1000 || l[0].T != 202+i || l[999].T != 1201+i {
			t.Fatal(i, len(l))
		}
	}
	do(t, s, api.EArrive, 1, api.OK) // just ticks are traced
	if l := s.Trace(); len(l) != 1000 || l[999].T != 1203 || l[999].Ends[api.RWaiting] != 0 {
		t.Fatal(len(l))
	}
}

// 24.4
func TestOver(t *testing.T) {
	s := made(t, conf.Default())
	do(t, s, api.EArrive, 100, api.OK)
	do(t, s, api.ETick, 200, api.OK)
	if s.See().Over {
		t.Fatal("nothing was cut")
	}
}

// What is answered is the caller's own.
func TestAnswersAreNotShared(t *testing.T) {
	s := made(t, conf.Default())
	do(t, s, api.EArrive, 3, api.OK)
	do(t, s, api.ETick, 3, api.OK)
	was, trace := told(s), traced(s.Trace())
	s.See().Pods[0].Busy = 77
	s.Requests()[0].State = 77
	for i, v := range s.Trace() {
		v.Pods[0].Busy = 77 + i
	}
	s.Trace()[0].T = 77
	if told(s) != was || traced(s.Trace()) != trace {
		t.Fatal(was, told(s))
	}
	held := s.See()
	do(t, s, api.EFinish, 0, api.OK)
	if held.Pods[0].Busy != 3 {
		t.Fatal(held)
	}
}

// 24.4
func TestNil(t *testing.T) {
	var s *sys.Sys
	do(t, s, api.ETick, 1, api.ErrState)
	do(t, s, api.EArrive, 1, api.ErrState)
	if traced([]api.View{s.See()}) != traced([]api.View{{}}) || len(s.Requests()) != 0 || s.Conf() != (api.Conf{}) || s.Last() != (api.Decision{}) || len(s.Trace()) != 0 {
		t.Fatal(s.See())
	}
}
