package delay_test

import (
	"math"
	"math/rand"
	"testing"

	"spinnaker/api"
	"spinnaker/delay"
)

func put(t *testing.T, d *delay.Delay, at int64, want, code int) {
	t.Helper()
	if c := d.Put(at, want); c != code {
		t.Fatalf("Put(%d, %d) = %d", at, want, c)
	}
}

func most(t *testing.T, d *delay.Delay, at int64, want int) {
	t.Helper()
	if n := d.Most(at); n != want {
		t.Fatalf("Most(%d) = %d, not %d", at, n, want)
	}
}

// 15.1
func TestNew(t *testing.T) {
	for n, ok := range map[int]bool{math.MinInt: false, -1: false, 0: true, 1: true, 600: true, 601: false, math.MaxInt: false} {
		d := delay.New(n)
		if (d != nil) != ok {
			t.Fatal(n)
		}
		if ok {
			most(t, d, 0, 0)
			most(t, d, 5, 0)
			most(t, d, -5, 0)
		}
	}
}

// 15.1
func TestPutRefuses(t *testing.T) {
	d := delay.New(10)
	for _, at := range []int64{-1, math.MinInt64, api.MaxTime + 1, math.MaxInt64} {
		put(t, d, at, 5, api.ErrArg)
	}
	for _, want := range []int{-1, math.MinInt, 1000001, math.MaxInt} {
		put(t, d, 5, want, api.ErrArg)
	}
	most(t, d, 5, 0)
	put(t, d, 0, 7, api.OK) // what was refused was not the last one
	put(t, d, 5, 0, api.OK)
	put(t, d, 4, 9, api.ErrArg)
	put(t, d, 5, 1000000, api.OK)
	put(t, d, api.MaxTime, 3, api.OK)
	put(t, d, api.MaxTime, 2, api.OK)
	put(t, d, api.MaxTime-1, 2, api.ErrArg)
	most(t, d, api.MaxTime, 3)
}

// 15.1
func TestSpan0(t *testing.T) {
	d := delay.New(0)
	put(t, d, 3, 7, api.OK)
	most(t, d, 3, 7)
	most(t, d, 4, 0)
	most(t, d, 2, 7)
	put(t, d, 4, 2, api.OK)
	most(t, d, 4, 2)
	most(t, d, 3, 7)
	put(t, d, 4, 1, api.OK)
	most(t, d, 4, 2)
	put(t, d, 4, 3, api.OK)
	most(t, d, 4, 3)
	most(t, d, 5, 0)
	most(t, d, math.MaxInt64, 0)
}

// 15.1, 15.2
func TestDownOnlyBehindTheSpan(t *testing.T) {
	d := delay.New(5)
	put(t, d, 10, 9, api.OK)
	put(t, d, 11, 4, api.OK)
	put(t, d, 12, 6, api.OK)
	put(t, d, 13, 2, api.OK)
	for at, want := range map[int64]int{
		math.MinInt64: 9, -1: 9, 0: 9, 9: 9, 10: 9, 13: 9, 14: 9, 15: 6, 16: 6, 17: 2, 18: 0, 1000: 0, math.MaxInt64: 0,
	} {
		most(t, d, at, want)
	}
	put(t, d, 14, 20, api.OK)
	most(t, d, 14, 20)
	most(t, d, 18, 20)
	most(t, d, 19, 0)
}

// 15.1
func TestSpan(t *testing.T) {
	d := delay.New(2)
	put(t, d, 10, 9, api.OK)
	put(t, d, 13, 1, api.OK)
	most(t, d, 13, 1)
	for _, n := range []int{-1, 601, math.MinInt, math.MaxInt} {
		if code := d.Span(n); code != api.ErrArg {
			t.Fatal(n, code)
		}
	}
	most(t, d, 13, 1)
	if code := d.Span(4); code != api.OK {
		t.Fatal(code)
	}
	most(t, d, 13, 9)
	most(t, d, 14, 1)
	d.Span(600)
	most(t, d, 609, 9)
	most(t, d, 610, 1)
	d.Span(0)
	most(t, d, 13, 1)
	most(t, d, 14, 0)
}

// 15.1: what lies more than 600 ahead of the last Put counts no more.
func TestWhatIsLongAgo(t *testing.T) {
	d := delay.New(600)
	put(t, d, 100, 9, api.OK)
	put(t, d, 700, 1, api.OK)
	most(t, d, 0, 9)
	most(t, d, 699, 9)
	most(t, d, 700, 1)
	put(t, d, 701, 1, api.OK)
	most(t, d, 0, 1)
	most(t, d, 699, 1)
	put(t, d, 5000, 0, api.OK)
	most(t, d, 0, 0)
	most(t, d, 701, 0)
}

type wanted struct {
	t    int64
	want int
}

// 15.1, 15.2: by all that was put.
func TestTheGreatestOfAllThatCount(t *testing.T) {
	r := rand.New(rand.NewSource(17))
	for range 300 {
		span := r.Intn(12)
		if r.Intn(5) == 0 {
			span = r.Intn(601)
		}
		d, all, now := delay.New(span), []wanted{}, int64(0)
		for range 100 {
			switch r.Intn(6) {
			case 0, 1, 2:
				now += int64(r.Intn(3))
				if r.Intn(15) == 0 {
					now += int64(r.Intn(700))
				}
				w := wanted{now, r.Intn(30)}
				put(t, d, w.t, w.want, api.OK)
				all = append(all, w)
			case 3:
				if r.Intn(4) == 0 {
					span = r.Intn(20)
					if code := d.Span(span); code != api.OK {
						t.Fatal(code)
					}
				}
			default:
				at := now + int64(r.Intn(2*span+10)-span-5)
				from, want := max(at, 0), 0
				for _, w := range all {
					if now-w.t <= 600 && (w.t > from-int64(span) || w.t >= from) {
						want = max(want, w.want)
					}
				}
				most(t, d, at, want)
			}
		}
	}
}

// 15.1
func TestNil(t *testing.T) {
	var d *delay.Delay
	put(t, d, 1, 1, api.ErrState)
	most(t, d, 1, 0)
	if code := d.Span(5); code != api.ErrState {
		t.Fatal(code)
	}
}
