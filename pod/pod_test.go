package pod_test

import (
	"math"
	"math/rand"
	"testing"

	"spinnaker/api"
	"spinnaker/breaker"
	"spinnaker/load"
	"spinnaker/pod"
)

func stat(t *testing.T, r *pod.Runner, now int64, want api.Stat) {
	t.Helper()
	if s := r.Stat(now); s != want {
		t.Fatalf("Stat(%d) = %+v, not %+v", now, s, want)
	}
}

func enter(t *testing.T, r *pod.Runner, now int64, in bool, code int) {
	t.Helper()
	if i, c := r.Enter(now); i != in || c != code {
		t.Fatalf("Enter(%d) = %t, %d", now, i, c)
	}
}

func leave(t *testing.T, r *pod.Runner, now int64, in bool, code int) {
	t.Helper()
	if i, c := r.Leave(now); i != in || c != code {
		t.Fatalf("Leave(%d) = %t, %d", now, i, c)
	}
}

// 8.1
func TestNew(t *testing.T) {
	for _, x := range []struct {
		id, limit, depth int
		now              int64
		ok               bool
	}{
		{0, 0, 0, 0, true}, {7, 1000, 1000, api.MaxTime, true}, {math.MaxInt, 1, 1, 5, true},
		{-1, 1, 1, 5, false}, {math.MinInt, 1, 1, 5, false}, {1, -1, 1, 5, false}, {1, 1001, 1, 5, false}, {1, 1, -1, 5, false}, {1, 1, 1001, 5, false},
		{1, 1, 1, -1, false}, {1, 1, 1, api.MaxTime + 1, false}, {1, 1, 1, math.MinInt64, false}, {1, 1, 1, math.MaxInt64, false},
	} {
		r := pod.New(x.id, x.limit, x.depth, x.now)
		if (r != nil) != x.ok {
			t.Fatal(x)
		}
		if r != nil {
			stat(t, r, x.now, api.Stat{Pod: x.id})
		}
	}
}

// 8.1
func TestEnterAndLeaveAreTheBreakers(t *testing.T) {
	r := pod.New(3, 1, 1, 10)
	enter(t, r, 10, true, api.OK)
	enter(t, r, 11, false, api.OK)
	enter(t, r, 11, false, api.ErrFull)
	if r.Load() != 1+1i {
		t.Fatal(r.Load())
	}
	leave(t, r, 12, true, api.OK)
	leave(t, r, 12, false, api.OK)
	leave(t, r, 13, false, api.ErrNone)
	if r.Load() != 0 {
		t.Fatal(r.Load())
	}
}

// 8.1
func TestTimeDoesNotGoBack(t *testing.T) {
	r := pod.New(3, 1, 0, 10)
	for _, now := range []int64{9, -1, math.MinInt64, api.MaxTime + 1, math.MaxInt64} {
		enter(t, r, now, false, api.ErrArg)
		leave(t, r, now, false, api.ErrArg)
		stat(t, r, now, api.Stat{})
	}
	if r.Load() != 0 {
		t.Fatal(r.Load())
	}
	enter(t, r, 20, true, api.OK)
	enter(t, r, 30, false, api.ErrFull) // refused, but the time went on
	enter(t, r, 29, false, api.ErrArg)
	leave(t, r, 29, false, api.ErrArg)
	leave(t, r, 30, false, api.OK)
	leave(t, r, 40, false, api.ErrNone)
	leave(t, r, 39, false, api.ErrArg)
	stat(t, r, 39, api.Stat{})
	stat(t, r, 50, api.Stat{Pod: 3, Age: 40, Load: 250})
	enter(t, r, 49, false, api.ErrArg)
	enter(t, r, 50, true, api.OK)
	enter(t, r, api.MaxTime, false, api.ErrFull)
	enter(t, r, api.MaxTime, false, api.ErrFull)
}

// 8.2
func TestStatByHand(t *testing.T) {
	r := pod.New(5, 2, 3, 100)
	stat(t, r, 100, api.Stat{Pod: 5})
	enter(t, r, 100, true, api.OK)
	stat(t, r, 100, api.Stat{Pod: 5, Load: 1000})
	stat(t, r, 110, api.Stat{Pod: 5, Age: 10, Load: 1000})
	// 1 for one tick, 2 for one, 3 (one waits) for one
	enter(t, r, 111, true, api.OK)
	enter(t, r, 112, false, api.OK)
	stat(t, r, 113, api.Stat{Pod: 5, Age: 13, Load: 2000})
	stat(t, r, 113, api.Stat{Pod: 5, Age: 13, Load: 3000})
	leave(t, r, 113, true, api.OK)
	stat(t, r, 113, api.Stat{Pod: 5, Age: 13, Load: 2000})
	// 2, 2, 1 of three: the whole part of 1,666.67
	leave(t, r, 115, false, api.OK)
	stat(t, r, 116, api.Stat{Pod: 5, Age: 16, Load: 1666})
	leave(t, r, 116, false, api.OK)
	stat(t, r, 117, api.Stat{Pod: 5, Age: 17, Load: 0})
}

// 8.2: what is refused for its time leaves the sum as it was.
func TestWrongTimesChangeNoStat(t *testing.T) {
	r := pod.New(1, 5, 5, 10)
	enter(t, r, 10, true, api.OK)
	enter(t, r, 14, true, api.OK)
	stat(t, r, 13, api.Stat{})
	enter(t, r, 13, false, api.ErrArg)
	leave(t, r, api.MaxTime+1, false, api.ErrArg)
	stat(t, r, api.MaxTime+1, api.Stat{})
	stat(t, r, 18, api.Stat{Pod: 1, Age: 8, Load: 1500})
}

// 8.2
func TestTheGreatestLoadForTheLongestTime(t *testing.T) {
	r := pod.New(1, 1000, 1000, 0)
	for i := range 2000 {
		enter(t, r, 0, i < 1000, api.OK)
	}
	stat(t, r, api.MaxTime, api.Stat{Pod: 1, Age: api.MaxTime, Load: 2000000})
	stat(t, r, api.MaxTime, api.Stat{Pod: 1, Age: api.MaxTime, Load: 2000000})
}

// 8.1 to 8.3: tick by tick it is the average of what a breaker held.
func TestStatIsTheAverage(t *testing.T) {
	r := rand.New(rand.NewSource(10))
	for range 500 {
		limit, depth, born := r.Intn(4), r.Intn(4), int64(r.Intn(50))
		x, b := pod.New(2, limit, depth, born), breaker.New(limit, depth)
		now, told, sum := born, born, int64(0)
		both := func() int64 { return int64(load.Busy(b.Load()) + load.Waiting(b.Load())) }
		for range 80 {
			for range r.Intn(3) {
				sum += both()
				now++
			}
			switch r.Intn(5) {
			case 0, 1:
				in, code := b.Enter()
				enter(t, x, now, in, code)
			case 2, 3:
				in, code := b.Leave()
				leave(t, x, now, in, code)
			case 4:
				mean := both() * 1000
				if now > told {
					mean = sum * 1000 / (now - told)
				}
				stat(t, x, now, api.Stat{Pod: 2, Age: int(now - born), Load: mean})
				told, sum = now, 0
			}
			if x.Load() != b.Load() {
				t.Fatal(x.Load(), b.Load())
			}
		}
	}
}

// 8.2
func TestNil(t *testing.T) {
	var r *pod.Runner
	enter(t, r, 1, false, api.ErrState)
	leave(t, r, 1, false, api.ErrState)
	stat(t, r, 1, api.Stat{})
	if r.Load() != 0 {
		t.Fatal(r.Load())
	}
}
