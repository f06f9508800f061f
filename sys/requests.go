package sys

import (
	"slices"

	"spinnaker/api"
	"spinnaker/load"
	"spinnaker/pick"
	"spinnaker/subset"
)

// Who waits goes to the pod that has room, or to nowhere as long as none has.
type (
	toPod   int
	nowhere struct{}
)

// arrive lets n requests come, each ahead of the next: one that is sent at
// once leaves its place in the queue to it.
func (s *Sys) arrive(n int) int {
	for range n {
		number := len(s.requests)
		state := api.RWaiting
		if s.queue.Put(number, s.time) != api.OK {
			state = api.RRefused
		}
		s.requests = append(s.requests, api.Request{Came: s.time, Since: s.time, State: state, Pod: -1})
		s.ends[state]++
		s.send()
	}
	return api.OK
}

// finish ends the request of that place of those in flight.
func (s *Sys) finish(place int) int {
	if place >= len(s.flying) {
		return api.ErrNone
	}
	number := s.flying[place]
	s.flying = slices.Delete(s.flying, place, place+1)
	s.turn(number, api.RDone)
	s.life.Leave(s.requests[number].Pod)
	s.send()
	return api.OK
}

// crash ends all requests of the pod of that place.
func (s *Sys) crash(place int) int {
	pod, code := s.life.Crash(place)
	if code != api.OK {
		return code
	}
	var others []int
	for _, number := range s.flying {
		if s.requests[number].Pod == pod.Id {
			s.turn(number, api.RFailed)
		} else {
			others = append(others, number)
		}
	}
	s.flying = others
	s.send()
	return api.OK
}

// send lets those go that wait, in their order, while a pod has room.
func (s *Sys) send() {
	for s.ends[api.RWaiting] > 0 {
		id, ok := s.free().(toPod)
		if !ok {
			return
		}
		number, _ := s.queue.Take()
		s.turn(number, api.RFlying)
		s.requests[number].Pod = int(id)
		s.flying = append(s.flying, number)
		s.life.Enter(int(id))
	}
}

// free is where the next one goes: the activator serves its subset alone.
func (s *Sys) free() any {
	ids := s.life.Ready()
	if s.proxy {
		ids = subset.Of(ids, s.conf.Subset)
	}
	place := pick.Least(s.loads(ids), s.conf.Limit)
	if place < 0 {
		return nowhere{}
	}
	return toPod(ids[place])
}

// loads are those of the pods of these numbers, which rise as all pods do.
func (s *Sys) loads(ids []int) []complex128 {
	l := make([]complex128, 0, len(ids))
	for _, p := range s.life.All() {
		if _, ok := slices.BinarySearch(ids, p.Id); ok {
			l = append(l, load.Of(p.Busy, 0))
		}
	}
	return l
}

// turn changes how a request stands: in one way at a time.
func (s *Sys) turn(number, state int) {
	r := &s.requests[number]
	s.ends[r.State]--
	s.ends[state]++
	r.State, r.Since = state, s.time
}
