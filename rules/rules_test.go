// Package rules_test holds the rules of DOC.md that hold for all calls: what
// no chapter tells by itself.
package rules_test

import (
	"testing"

	"spinnaker/api"
	"spinnaker/breaker"
	"spinnaker/conf"
	"spinnaker/decide"
	"spinnaker/delay"
	"spinnaker/life"
	"spinnaker/metric"
	"spinnaker/pod"
	"spinnaker/queue"
	"spinnaker/ring"
	"spinnaker/sys"
)

// Rule 1: a value that no New made is handed over, too, and ends every call.
func TestWhatNoNewMadeEndsEveryCall(t *testing.T) {
	windows(&ring.Ring{}, &metric.Metric{})
	places(&breaker.Breaker{}, &pod.Runner{}, &queue.Queue{}, &life.Life{})
	decisions(&delay.Delay{}, &decide.Decider{})
	whole(&sys.Sys{})
}

// Rule 1: nor does none at all.
func TestNothingEndsEveryCall(t *testing.T) {
	windows(nil, nil)
	places(nil, nil, nil, nil)
	decisions(nil, nil)
	whole(nil)
}

func windows(r *ring.Ring, m *metric.Metric) {
	r.Put(1, 1)
	r.Sum(1)
	r.Mean(1)
	r.Resize(6)
	r.Size()
	r.Over()
	m.Put(1, 1)
	m.Means(1)
	m.Change(conf.Default())
	m.Over()
}

func places(b *breaker.Breaker, r *pod.Runner, q *queue.Queue, l *life.Life) {
	b.Enter()
	b.Leave()
	b.Quit()
	b.Limit(5)
	b.Load()
	b.Free()
	r.Enter(1)
	r.Leave(1)
	r.Stat(1)
	r.Load()
	q.Late(1, 0)
	q.Put(1, 1)
	q.Take()
	q.Depth(5)
	q.All()
	l.Ripe(5, 0)
	l.Scale(1, 1)
	l.Enter(0)
	l.Leave(0)
	l.All()
	l.Ready()
	l.Count()
	l.Crash(0)
}

func decisions(d *delay.Delay, e *decide.Decider) {
	d.Most(1)
	d.Put(1, 1)
	d.Most(1)
	d.Span(5)
	e.Put(1, 1)
	e.Next(1, 1)
	e.Change(conf.Default())
	e.Mode()
	e.Over()
}

func whole(s *sys.Sys) {
	for kind := api.ETick; kind <= api.ELose; kind++ {
		s.Do(api.Event{Kind: kind, N: 1})
	}
	s.Do(api.Event{Kind: api.EConf})
	s.See()
	s.Requests()
	s.Conf()
	s.Last()
	s.Trace()
}
