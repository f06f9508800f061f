package life_test

import (
	"math"
	"math/rand"
	"slices"
	"testing"

	"spinnaker/api"
	"spinnaker/life"
)

func pods(t *testing.T, l *life.Life, want ...api.Pod) {
	t.Helper()
	if got := l.All(); !slices.Equal(got, want) {
		t.Fatalf("All = %+v, not %+v", got, want)
	}
	var ready []int
	count := 0
	for _, p := range want {
		if p.State == api.PReady {
			ready = append(ready, p.Id)
		}
		if p.State != api.PDraining {
			count++
		}
	}
	if got := l.Ready(); !slices.Equal(got, ready) {
		t.Fatal("Ready", got)
	}
	if n := l.Count(); n != count {
		t.Fatal("Count", n)
	}
}

func scale(t *testing.T, l *life.Life, want int, now int64, code int) {
	t.Helper()
	if c := l.Scale(want, now); c != code {
		t.Fatalf("Scale(%d, %d) = %d", want, now, c)
	}
}

func enter(t *testing.T, l *life.Life, id, code int) {
	t.Helper()
	if c := l.Enter(id); c != code {
		t.Fatalf("Enter(%d) = %d", id, c)
	}
}

func leave(t *testing.T, l *life.Life, id, code int) {
	t.Helper()
	if c := l.Leave(id); c != code {
		t.Fatalf("Leave(%d) = %d", id, c)
	}
}

func crash(t *testing.T, l *life.Life, place int, p api.Pod, code int) {
	t.Helper()
	if q, c := l.Crash(place); q != p || c != code {
		t.Fatalf("Crash(%d) = %+v, %d", place, q, c)
	}
}

// made is n ready pods, each with so many in flight.
func made(t *testing.T, busy ...int) *life.Life {
	t.Helper()
	l := life.New()
	scale(t, l, len(busy), 0, api.OK)
	l.Ripe(0, 0)
	for id, n := range busy {
		for range n {
			enter(t, l, id, api.OK)
		}
	}
	return l
}

func starting(id int, since int64) api.Pod {
	return api.Pod{Id: id, State: api.PStarting, Since: since}
}

func ready(id, busy int, since int64) api.Pod {
	return api.Pod{Id: id, State: api.PReady, Busy: busy, Since: since}
}

func draining(id, busy int, since int64) api.Pod {
	return api.Pod{Id: id, State: api.PDraining, Busy: busy, Since: since}
}

// 21.1
func TestScaleUp(t *testing.T) {
	l := life.New()
	pods(t, l)
	scale(t, l, 0, 5, api.OK)
	pods(t, l)
	scale(t, l, 2, 5, api.OK)
	pods(t, l, starting(0, 5), starting(1, 5))
	scale(t, l, 2, 6, api.OK)
	pods(t, l, starting(0, 5), starting(1, 5))
	scale(t, l, 3, 7, api.OK)
	pods(t, l, starting(0, 5), starting(1, 5), starting(2, 7))
	scale(t, l, 0, 7, api.OK)
	pods(t, l)
	scale(t, l, 1, 7, api.OK) // numbers don't come back
	pods(t, l, starting(3, 7))
	scale(t, l, 100, api.MaxTime, api.OK)
	if n := l.Count(); n != 100 || len(l.All()) != 100 || l.All()[99] != starting(102, api.MaxTime) {
		t.Fatal(n)
	}
}

// 21.1
func TestScaleRefuses(t *testing.T) {
	l := made(t, 1, 0)
	for _, x := range []struct {
		want int
		now  int64
	}{{-1, 5}, {101, 5}, {math.MinInt, 5}, {math.MaxInt, 5}, {1, -1}, {1, api.MaxTime + 1}, {9, math.MinInt64}, {9, math.MaxInt64}, {-1, -1}} {
		scale(t, l, x.want, x.now, api.ErrArg)
	}
	pods(t, l, ready(0, 1, 0), ready(1, 0, 0))
}

// 21.1: the starting ones first, from the greatest number down.
func TestStartingOnesGoFirst(t *testing.T) {
	l := made(t, 0, 3)
	scale(t, l, 5, 4, api.OK)
	scale(t, l, 4, 6, api.OK)
	pods(t, l, ready(0, 0, 0), ready(1, 3, 0), starting(2, 4), starting(3, 4))
	scale(t, l, 2, 7, api.OK)
	pods(t, l, ready(0, 0, 0), ready(1, 3, 0))
	scale(t, l, 1, 8, api.OK)
	pods(t, l, ready(1, 3, 0))
	scale(t, l, 0, 9, api.OK)
	pods(t, l, draining(1, 3, 9))
}

// 21.1: of the ready ones the least loaded, of these the greatest number.
func TestWhoGoesOfTheReadyOnes(t *testing.T) {
	l := made(t, 2, 1, 1, 2, 0)
	scale(t, l, 4, 5, api.OK)
	pods(t, l, ready(0, 2, 0), ready(1, 1, 0), ready(2, 1, 0), ready(3, 2, 0))
	scale(t, l, 3, 6, api.OK)
	pods(t, l, ready(0, 2, 0), ready(1, 1, 0), draining(2, 1, 6), ready(3, 2, 0))
	scale(t, l, 1, 7, api.OK)
	pods(t, l, ready(0, 2, 0), draining(1, 1, 7), draining(2, 1, 6), draining(3, 2, 7))
	scale(t, l, 1, 8, api.OK)
	scale(t, l, 2, 8, api.OK) // who drains does not come back
	pods(t, l, ready(0, 2, 0), draining(1, 1, 7), draining(2, 1, 6), draining(3, 2, 7), starting(5, 8))
	l = made(t, 0, 0, 0)
	scale(t, l, 2, 5, api.OK)
	pods(t, l, ready(0, 0, 0), ready(1, 0, 0))
}

// 21.1
func TestRipe(t *testing.T) {
	l := life.New()
	scale(t, l, 1, 5, api.OK)
	scale(t, l, 2, 7, api.OK)
	for _, x := range []struct {
		now   int64
		after int
	}{{7, 3}, {math.MinInt64, 0}, {math.MinInt64, 100}, {4, 0}, {104, 100}, {1000, -1}, {1000, 101}, {1000, math.MinInt}, {1000, math.MaxInt}, {math.MaxInt64, -1}} {
		l.Ripe(x.now, x.after)
		pods(t, l, starting(0, 5), starting(1, 7))
	}
	l.Ripe(8, 3)
	pods(t, l, ready(0, 0, 5), starting(1, 7))
	l.Ripe(106, 100)
	pods(t, l, ready(0, 0, 5), starting(1, 7))
	l.Ripe(107, 100)
	pods(t, l, ready(0, 0, 5), ready(1, 0, 7))
	enter(t, l, 0, api.OK)
	enter(t, l, 1, api.OK)
	enter(t, l, 1, api.OK)
	scale(t, l, 1, 200, api.OK)
	l.Ripe(500, 0) // who drains is not ready again
	pods(t, l, draining(0, 1, 200), ready(1, 2, 7))
	scale(t, l, 2, api.MaxTime, api.OK)
	l.Ripe(api.MaxTime, 0)
	pods(t, l, draining(0, 1, 200), ready(1, 2, 7), ready(2, 0, api.MaxTime))
}

// 21.2, 21.3, T2
func TestWhoGoesFinishesFirst(t *testing.T) {
	l := made(t, 2, 3)
	scale(t, l, 3, 4, api.OK)
	for _, id := range []int{-1, 2, 3, math.MinInt, math.MaxInt} {
		enter(t, l, id, api.ErrNone)
		leave(t, l, id, api.ErrNone)
	}
	scale(t, l, 1, 5, api.OK)
	pods(t, l, draining(0, 2, 5), ready(1, 3, 0))
	enter(t, l, 0, api.ErrNone)
	leave(t, l, 0, api.OK)
	pods(t, l, draining(0, 1, 5), ready(1, 3, 0))
	leave(t, l, 0, api.OK)
	pods(t, l, ready(1, 3, 0))
	leave(t, l, 0, api.ErrNone)
	for range 3 {
		leave(t, l, 1, api.OK)
	}
	leave(t, l, 1, api.ErrNone)
	pods(t, l, ready(1, 0, 0)) // a ready one stays with none left
	enter(t, l, 1, api.OK)
	pods(t, l, ready(1, 1, 0))
}

// 21.2
func TestCrash(t *testing.T) {
	l := made(t, 2, 0, 1)
	scale(t, l, 4, 4, api.OK)
	for _, place := range []int{-1, 4, math.MinInt, math.MaxInt} {
		crash(t, l, place, api.Pod{}, api.ErrNone)
	}
	crash(t, l, 1, ready(1, 0, 0), api.OK)
	pods(t, l, ready(0, 2, 0), ready(2, 1, 0), starting(3, 4))
	crash(t, l, 2, starting(3, 4), api.OK)
	scale(t, l, 1, 6, api.OK)
	crash(t, l, 1, draining(2, 1, 6), api.OK)
	crash(t, l, 0, ready(0, 2, 0), api.OK)
	crash(t, l, 0, api.Pod{}, api.ErrNone)
	pods(t, l)
	scale(t, l, 1, 6, api.OK)
	pods(t, l, starting(4, 6))
}

// What is answered is the caller's own.
func TestAnswersAreNotShared(t *testing.T) {
	l := made(t, 1, 0)
	l.All()[0].Busy = 9
	l.Ready()[0] = 9
	pods(t, l, ready(0, 1, 0), ready(1, 0, 0))
	held := l.All()
	leave(t, l, 0, api.OK)
	if held[0].Busy != 1 {
		t.Fatal("what was told changes")
	}
}

// 21.1, 21.2: pod by pod.
func TestByAllPods(t *testing.T) {
	r := rand.New(rand.NewSource(26))
	for range 300 {
		l, all, number, now := life.New(), []api.Pod{}, 0, int64(0)
		for range 120 {
			now += int64(r.Intn(2))
			switch r.Intn(6) {
			case 0:
				want := r.Intn(8)
				scale(t, l, want, now, api.OK)
				all, number = scaled(all, number, want, now)
			case 1:
				after := r.Intn(4)
				l.Ripe(now, after)
				for i := range all {
					if all[i].State == api.PStarting && now-all[i].Since >= int64(after) {
						all[i].State = api.PReady
					}
				}
			case 2, 3:
				id, code := r.Intn(number+2)-1, api.ErrNone
				for i := range all {
					if all[i].Id == id && all[i].State == api.PReady {
						all[i].Busy++
						code = api.OK
					}
				}
				enter(t, l, id, code)
			case 4:
				id, code := r.Intn(number+2)-1, api.ErrNone
				for i := range all {
					if all[i].Id == id && all[i].Busy > 0 {
						all[i].Busy--
						code = api.OK
					}
				}
				all = slices.DeleteFunc(all, func(p api.Pod) bool { return p.State == api.PDraining && p.Busy == 0 })
				leave(t, l, id, code)
			case 5:
				if place := r.Intn(12) - 1; r.Intn(3) > 0 {
					break
				} else if place < 0 || place >= len(all) {
					crash(t, l, place, api.Pod{}, api.ErrNone)
				} else {
					crash(t, l, place, all[place], api.OK)
					all = slices.Delete(all, place, place+1)
				}
			}
			pods(t, l, all...)
		}
	}
}

func scaled(all []api.Pod, number, want int, now int64) ([]api.Pod, int) {
	count := 0
	for _, p := range all {
		if p.State != api.PDraining {
			count++
		}
	}
	for ; count < want; count++ {
		all = append(all, starting(number, now))
		number++
	}
	for ; count > want; count-- {
		last, least := -1, -1
		for i, p := range all {
			if p.State == api.PStarting {
				last = i
			}
			if p.State == api.PReady && (least < 0 || p.Busy <= all[least].Busy) {
				least = i
			}
		}
		switch {
		case last >= 0:
			all = slices.Delete(all, last, last+1)
		case all[least].Busy == 0:
			all = slices.Delete(all, least, least+1)
		default:
			all[least] = draining(all[least].Id, all[least].Busy, now)
		}
	}
	return all, number
}

// 21.2
func TestNil(t *testing.T) {
	var l *life.Life
	l.Ripe(5, 0)
	scale(t, l, 1, 1, api.ErrState)
	enter(t, l, 0, api.ErrState)
	leave(t, l, 0, api.ErrState)
	crash(t, l, 0, api.Pod{}, api.ErrState)
	pods(t, l)
}
