package sys_test

import (
	"fmt"
	"math/rand"
	"slices"
	"testing"

	"spinnaker/api"
	"spinnaker/burst"
	"spinnaker/conf"
	"spinnaker/decide"
	"spinnaker/event"
	"spinnaker/life"
	"spinnaker/plain"
	"spinnaker/sample"
	"spinnaker/subset"
	"spinnaker/sys"
	"spinnaker/text"
	"spinnaker/zero"
)

// model is the whole by all that was: it keeps each request and asks all of
// them each time.
type model struct {
	c        api.Conf
	t        int64
	pods     *life.Life
	decider  *decide.Decider
	quiet    zero.State
	proxy    bool
	want     int
	lose     int
	last     api.Decision
	requests []api.Request
	trace    []api.View
	records  []api.Record // since the grain was set
}

func newModel(c api.Conf) *model {
	m := &model{c: c, pods: life.New(), decider: decide.New(c), quiet: zero.New(), want: c.Initial}
	m.pods.Scale(c.Initial, 0)
	m.pods.Ripe(0, 0)
	ready := len(m.pods.Ready())
	m.proxy = burst.Proxy(c, ready, burst.Excess(c, ready, 0))
	return m
}

// standing is the numbers of all requests that stand so.
func (m *model) standing(state int) []int {
	var l []int
	for n, r := range m.requests {
		if r.State == state {
			l = append(l, n)
		}
	}
	return l
}

func (m *model) turn(n, state int) {
	m.requests[n].State, m.requests[n].Since = state, m.t
}

func (m *model) do(e api.Event) int {
	if !event.May(e) {
		return api.ErrArg
	}
	switch e.Kind {
	case api.EArrive:
		for range e.N {
			r := api.Request{Came: m.t, Since: m.t, State: api.RWaiting, Pod: -1}
			if len(m.standing(api.RWaiting)) >= m.c.Queue {
				r.State = api.RRefused
			}
			m.requests = append(m.requests, r)
			m.sent()
		}
	case api.EFinish:
		l := m.standing(api.RFlying)
		if e.N >= len(l) {
			return api.ErrNone
		}
		m.turn(l[e.N], api.RDone)
		m.pods.Leave(m.requests[l[e.N]].Pod)
		m.sent()
	case api.ECrash:
		p, code := m.pods.Crash(e.N)
		if code != 0 {
			return code
		}
		for _, n := range m.standing(api.RFlying) {
			if m.requests[n].Pod == p.Id {
				m.turn(n, api.RFailed)
			}
		}
		m.sent()
	case api.EConf:
		c, code, _ := text.Parse(m.c, e.Text)
		if code != 0 {
			return code
		}
		if c.Grain != m.c.Grain {
			m.records = nil
		}
		m.c = c
		m.decider.Change(c)
		m.sent()
	case api.ELose:
		m.lose = min(m.lose+e.N, 1000)
	case api.ETick:
		for range e.N {
			m.tick()
		}
	}
	return 0
}

func (m *model) sent() {
	for _, n := range m.standing(api.RWaiting) {
		ids := m.pods.Ready()
		if m.proxy {
			ids = subset.Of(ids, m.c.Subset)
		}
		best, least := -1, m.c.Limit
		for _, p := range m.pods.All() {
			if slices.Contains(ids, p.Id) && p.Busy < least {
				best, least = p.Id, p.Busy
			}
		}
		if best < 0 {
			return
		}
		m.turn(n, api.RFlying)
		m.requests[n].Pod = best
		m.pods.Enter(best)
	}
}

func (m *model) scrape() {
	if m.lose > 0 {
		m.lose--
		return
	}
	ready := m.pods.Ready()
	asked := sample.Which(ready, m.c.Sample, m.t)
	sum := int64(0)
	for _, p := range m.pods.All() {
		if slices.Contains(asked, p.Id) {
			sum += int64(p.Busy) * 1000
		}
	}
	if len(asked) > 0 {
		sum = sum * int64(len(ready)) / int64(len(asked))
	}
	sum += int64(len(m.standing(api.RWaiting))) * 1000
	m.decider.Put(m.t, sum)
	m.records = append(m.records, api.Record{T: m.t, V: sum})
}

func (m *model) tick() {
	m.t++
	for _, n := range m.standing(api.RWaiting) {
		if m.t-m.requests[n].Came >= int64(m.c.Timeout) {
			m.turn(n, api.RLate)
		}
	}
	m.pods.Ripe(m.t, m.c.Ready)
	m.scrape()
	ready := len(m.pods.Ready())
	m.last, _ = m.decider.Next(m.t, ready)
	m.proxy = burst.Proxy(m.c, ready, m.last.Excess)
	m.quiet = zero.Next(m.quiet, m.t, m.proxy)
	have := m.pods.Count()
	m.want = zero.Want(m.c, m.quiet, m.t, m.last.Want, have, m.last.Stable, len(m.standing(api.RWaiting)), len(m.standing(api.RFlying)))
	if n := min(m.want, conf.Most(m.c)); n != have {
		m.pods.Scale(n, m.t)
	}
	m.sent()
	m.trace = append(m.trace, m.see())
}

func (m *model) see() api.View {
	v := api.View{T: m.t, Want: m.want, Panic: m.last.Panic, Proxy: m.proxy, Pods: m.pods.All(), Over: m.decider.Over()}
	for _, r := range m.requests {
		v.Ends[r.State]++
	}
	v.Waiting, v.Busy = v.Ends[api.RWaiting], v.Ends[api.RFlying]
	return v
}

// told is all that is seen of a Sys.
func told(s *sys.Sys) string {
	return fmt.Sprintf("%+v\n%+v\n%+v\n%+v", s.See(), s.Requests(), s.Conf(), s.Last())
}

func (m *model) told() string {
	return fmt.Sprintf("%+v\n%+v\n%+v\n%+v", m.see(), m.requests, m.c, m.last)
}

func traced(l []api.View) string {
	if len(l) > 1000 {
		l = l[len(l)-1000:]
	}
	return fmt.Sprintf("%+v", l)
}

func anySettings(r *rand.Rand) string {
	s := fmt.Sprintf("target: %d\nutil: 0.%d\nstable: %d\npanic: %d\ngrain: %d\n", 1+r.Intn(8), 1+r.Intn(9), 6+r.Intn(15), 3+r.Intn(4), 1+r.Intn(2))
	s += fmt.Sprintf("threshold: %d.%d\nup: %d.5\ndown: 1.%d\n", 1+r.Intn(2), 1+r.Intn(9), 1+r.Intn(5), 1+r.Intn(9))
	s += fmt.Sprintf("grace: %d\ndelay: %d\nburst: %d\nlimit: %d\nqueue: %d\ntimeout: %d\nready: %d\n", r.Intn(8), r.Intn(5), []int{-1, 0, 1, 5, 20}[r.Intn(5)], 1+r.Intn(6), r.Intn(15), 1+r.Intn(8), r.Intn(4))
	return s + fmt.Sprintf("subset: %d\nsample: %d\nmin: %d\nmax: %d\ninitial: %d", r.Intn(4), r.Intn(4), r.Intn(3)*r.Intn(2), []int{0, 5, 9}[r.Intn(3)], r.Intn(5))
}

func anyEvent(r *rand.Rand) api.Event {
	switch k := r.Intn(40); {
	case k < 12:
		return api.Event{Kind: api.ETick, N: 1 + r.Intn(3)}
	case k < 13:
		return api.Event{Kind: api.ETick, N: 1 + r.Intn(40)}
	case k < 21:
		return api.Event{Kind: api.EArrive, N: 1 + r.Intn(6)*r.Intn(3)}
	case k < 32:
		return api.Event{Kind: api.EFinish, N: r.Intn(6) * r.Intn(2)}
	case k < 34:
		return api.Event{Kind: api.ECrash, N: r.Intn(6)}
	case k < 35:
		return api.Event{Kind: api.ELose, N: 1 + r.Intn(4)}
	case k < 36:
		return api.Event{Kind: api.EConf, Text: []string{"limit: 2", "limit: 9\nqueue: 3", "grain: 1", "burst: -1", "burst: 0", "max: 3", "subset: 2", "x", "limit: 0", "limit: 1\nlimit: 2", "timeout: 2"}[r.Intn(11)]}
	case k < 37:
		return api.Event{Kind: r.Intn(9) - 1, N: r.Intn(300) - 50, Text: []string{"", "", "x"}[r.Intn(3)]}
	}
	return api.Event{Kind: api.ETick, N: 1}
}

// 24.1 to 24.4, T1, T2, T3, T5: event by event.
func TestEventByEvent(t *testing.T) {
	r := rand.New(rand.NewSource(30))
	for range 250 {
		c, code, _ := text.Parse(conf.Default(), anySettings(r))
		if code != 0 {
			continue
		}
		s, code := sys.New(c)
		if code != 0 {
			t.Fatal(code)
		}
		m := newModel(c)
		if told(s) != m.told() {
			t.Fatalf("%s\n\n%s", told(s), m.told())
		}
		for range 100 {
			e := anyEvent(r)
			was := told(s)
			code := s.Do(e)
			if want := m.do(e); code != want {
				t.Fatal(e, code, want)
			}
			if told(s) != m.told() {
				t.Fatalf("%+v\n%s\n\n%s", e, told(s), m.told())
			}
			if code != 0 && told(s) != was {
				t.Fatalf("refused, but changed: %+v\n%s\n\n%s", e, was, told(s))
			}
			balanced(t, s)
			if e.Kind == api.ETick && code == 0 {
				measured(t, m, s.Last())
			}
		}
		if got, want := traced(s.Trace()), traced(m.trace); got != want {
			t.Fatalf("%s\n\n%s", got, want)
		}
	}
}

// balanced: each request stands in just one way, and no pod holds others than
// are in flight there (T2); who waits has none waiting ahead that came later,
// and the first waits only where no pod is free (T5).
func balanced(t *testing.T, s *sys.Sys) {
	t.Helper()
	v, all := s.See(), s.Requests()
	held := map[int]int{}
	var ends [7]int
	for _, r := range all {
		ends[r.State]++
		if r.State == api.RFlying {
			held[r.Pod]++
		}
		if (r.Pod >= 0) != (r.State == api.RFlying || r.State == api.RDone || r.State == api.RFailed) {
			t.Fatal(r)
		}
	}
	if ends != v.Ends || v.Waiting != ends[api.RWaiting] || v.Busy != ends[api.RFlying] || ends[0] != 0 {
		t.Fatal(v, ends)
	}
	for _, p := range v.Pods {
		if held[p.Id] != p.Busy {
			t.Fatal(p, held)
		}
		delete(held, p.Id)
		if v.Waiting > 0 && s.Conf().Subset == 0 && p.State == api.PReady && p.Busy < s.Conf().Limit {
			t.Fatal("a place is free", p)
		}
	}
	if len(held) > 0 {
		t.Fatal("in flight nowhere", held)
	}
	waits := false
	for _, r := range all {
		if waits && r.State != api.RWaiting && r.State != api.RRefused {
			t.Fatal("one went ahead")
		}
		waits = waits || r.State == api.RWaiting
	}
}

// measured: what was decided at the last tick came from plain sums of all that
// was measured (T1).
func measured(t *testing.T, m *model, last api.Decision) {
	t.Helper()
	if q := plain.Mean(m.records, m.c.Panic, m.c.Grain, m.t); q != last.Quick {
		t.Fatal(q, last)
	}
	if s := plain.Mean(m.records, m.c.Stable, m.c.Grain, m.t); s != last.Stable {
		t.Fatal(s, last)
	}
}
