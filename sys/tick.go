package sys

import (
	"slices"

	"spinnaker/api"
	"spinnaker/burst"
	"spinnaker/conf"
	"spinnaker/sample"
	"spinnaker/stat"
	"spinnaker/zero"
)

// A scrape comes to what is measured, or it is lost.
type (
	measured int64
	missed   struct{}
)

// pass asks ahead of all ticks whether there is time for them, as a refusal
// changes nothing.
func (s *Sys) pass(n int) int {
	if s.time > api.MaxTime-int64(n) {
		return api.ErrRange
	}
	for range n {
		s.tick()
	}
	return api.OK
}

func (s *Sys) tick() {
	s.time++
	for _, number := range s.queue.Late(s.time, int64(s.conf.Timeout)) {
		s.turn(number, api.RLate)
	}
	s.life.Ripe(s.time, s.conf.Ready)
	if v, ok := s.scrape().(measured); ok {
		s.decider.Put(s.time, int64(v))
	}
	ready := len(s.life.Ready())
	s.last, _ = s.decider.Next(s.time, ready)
	s.proxy = burst.Proxy(s.conf, ready, s.last.Excess)
	s.quiet = zero.Next(s.quiet, s.time, s.proxy)
	s.scale()
	s.send()
	s.trace = append(s.trace, s.See())
	if len(s.trace) > mostTrace {
		s.trace = s.trace[1:]
	}
}

// scale makes as many pods as are wanted, but keeps the last one where it is
// not sure.
func (s *Sys) scale() {
	have := s.life.Count()
	waiting, busy := s.ends[api.RWaiting], s.ends[api.RFlying]
	s.want = zero.Want(s.conf, s.quiet, s.time, s.last.Want, have, s.last.Stable, waiting, busy)
	if n := min(s.want, conf.Most(s.conf)); n != have {
		s.life.Scale(n, s.time)
	}
}

// scrape asks some of the ready pods, who speak for all; who waits is known
// without asking.
func (s *Sys) scrape() any {
	if s.lost > 0 {
		s.lost--
		return missed{}
	}
	ready := s.life.Ready()
	asked := sample.Which(ready, s.conf.Sample, s.time)
	sum, _ := stat.Spread(s.stats(asked), 0, len(ready)) // nought of no pod
	return measured(sum + int64(s.ends[api.RWaiting])*api.One)
}

func (s *Sys) stats(ids []int) []api.Stat {
	var l []api.Stat
	for _, p := range s.life.All() {
		if slices.Contains(ids, p.Id) {
			l = append(l, api.Stat{
				Pod:  p.Id,
				Age:  int(s.time - p.Since),
				Load: int64(p.Busy) * api.One,
			})
		}
	}
	return l
}
