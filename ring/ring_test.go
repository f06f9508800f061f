package ring_test

import (
	"math"
	"math/rand"
	"runtime"
	"testing"

	"spinnaker/api"
	"spinnaker/milli"
	"spinnaker/ring"
)

// A value is what was put, and whether it is forgotten.
type value struct {
	bucket, v int64
	gone      bool
}

// history is the ring by all that was: it keeps every value.
type history struct {
	window, grain, n int
	all              []value
	newest           int64
	over             bool
}

func remember(window, grain int) *history {
	h := &history{window: window, grain: grain, newest: -1}
	h.n = (window + grain - 1) / grain
	return h
}

func (h *history) forget() {
	for i := range h.all {
		if h.newest-h.all[i].bucket >= int64(h.n) {
			h.all[i].gone = true
		}
	}
}

func (h *history) put(t, v int64) {
	b := t / int64(h.grain)
	h.newest = max(h.newest, b)
	h.all = append(h.all, value{bucket: b, v: v})
	h.forget()
}

func (h *history) resize(window int) {
	h.window = window
	h.n = (window + h.grain - 1) / h.grain
	h.forget()
}

func (h *history) sum(t int64) (int64, int64) {
	if t < 0 {
		return 0, 0
	}
	b := t / int64(h.grain)
	sum, count := int64(0), int64(0)
	for _, x := range h.all {
		if x.gone || x.bucket > b || b-x.bucket >= int64(h.n) {
			continue
		}
		n, code := milli.Add(sum, x.v)
		h.over = h.over || code != 0
		sum = n
		count++
	}
	return sum, count
}

func (h *history) mean(t int64) int64 {
	sum, count := h.sum(t)
	if count == 0 {
		return 0
	}
	return sum / count
}

func compare(t *testing.T, r *ring.Ring, h *history, at int64) {
	t.Helper()
	s, n := r.Sum(at)
	if hs, hn := h.sum(at); s != hs || n != hn {
		t.Fatalf("Sum(%d) = %d, %d, not %d, %d", at, s, n, hs, hn)
	}
	if m, hm := r.Mean(at), h.mean(at); m != hm {
		t.Fatalf("Mean(%d) = %d, not %d", at, m, hm)
	}
	if r.Over() != h.over {
		t.Fatal("Over", r.Over())
	}
	if w, n := r.Size(); w != h.window || n != h.n {
		t.Fatal("Size", w, n)
	}
}

// 5.1
func TestNew(t *testing.T) {
	for _, x := range [][3]int{{1, 1, 1}, {6, 2, 3}, {7, 2, 4}, {600, 1, 600}, {600, 600, 1}, {600, 599, 2}, {5, 3, 2}, {60, 7, 9}} {
		r := ring.New(x[0], x[1])
		if r == nil {
			t.Fatal(x)
		}
		if w, n := r.Size(); w != x[0] || n != x[2] {
			t.Fatal(x, w, n)
		}
		if s, n := r.Sum(5); s != 0 || n != 0 || r.Mean(5) != 0 || r.Over() {
			t.Fatal(x, s, n)
		}
	}
	for _, x := range [][2]int{{0, 0}, {0, 1}, {1, 0}, {1, 2}, {-1, -1}, {-1, 1}, {6, -2}, {601, 1}, {601, 601}, {600, 601}, {math.MaxInt, 1}, {math.MinInt, math.MinInt}} {
		if ring.New(x[0], x[1]) != nil {
			t.Fatal(x)
		}
	}
}

// 5.1
func TestPutRefuses(t *testing.T) {
	r := ring.New(6, 2)
	if code := r.Put(4, 5); code != api.OK {
		t.Fatal(code)
	}
	for _, x := range [][2]int64{{-1, 1}, {math.MinInt64, 1}, {api.MaxTime + 1, 1}, {math.MaxInt64, 1}, {4, -1}, {4, math.MinInt64}, {-1, -1}} {
		if code := r.Put(x[0], x[1]); code != api.ErrArg {
			t.Fatal(x, code)
		}
	}
	// what is refused changes nothing
	if s, n := r.Sum(5); s != 5 || n != 1 {
		t.Fatal(s, n)
	}
}

// 5.1, 5.2
func TestAWindowOfThreeBuckets(t *testing.T) {
	r := ring.New(6, 2)
	for at, v := range []int64{1, 2, 3, 4, 5, 6, 7, 8} {
		if code := r.Put(int64(at), v); code != api.OK {
			t.Fatal(code)
		}
	}
	// buckets: 1 2 | 3 4 | 5 6 | 7 8: the first is forgotten
	for _, x := range [][4]int64{
		{-1, 0, 0, 0}, {math.MinInt64, 0, 0, 0}, {0, 0, 0, 0}, {1, 0, 0, 0}, {2, 7, 2, 3}, {3, 7, 2, 3}, {4, 18, 4, 4}, {5, 18, 4, 4}, {6, 33, 6, 5}, {7, 33, 6, 5},
		{8, 26, 4, 6}, {10, 15, 2, 7}, {11, 15, 2, 7}, {12, 0, 0, 0}, {math.MaxInt64, 0, 0, 0},
	} {
		s, n := r.Sum(x[0])
		if m := r.Mean(x[0]); s != x[1] || n != x[2] || m != x[3] {
			t.Fatal(x, s, n, m)
		}
	}
}

// 5.1
func TestALateValueStandsWhereItBelongs(t *testing.T) {
	r := ring.New(3, 1)
	r.Put(10, 100)
	for _, x := range [][2]int64{{8, 1}, {7, 1000}, {9, 10}, {0, 5000}} {
		if code := r.Put(x[0], x[1]); code != api.OK {
			t.Fatal(x, code)
		}
	}
	for _, x := range [][3]int64{{10, 111, 3}, {9, 11, 2}, {8, 1, 1}, {7, 0, 0}, {11, 110, 2}, {12, 100, 1}, {13, 0, 0}} {
		if s, n := r.Sum(x[0]); s != x[1] || n != x[2] {
			t.Fatal(x, s, n)
		}
	}
	// a leap ahead forgets all, and what lay there does not shine through
	r.Put(1000, 0)
	for _, x := range [][3]int64{{10, 0, 0}, {8, 0, 0}, {1000, 0, 1}, {1002, 0, 1}, {1003, 0, 0}, {999, 0, 0}} {
		if s, n := r.Sum(x[0]); s != x[1] || n != x[2] {
			t.Fatal(x, s, n)
		}
	}
}

// 5.1
func TestTheLastTime(t *testing.T) {
	r := ring.New(600, 7)
	if code := r.Put(api.MaxTime, 5); code != api.OK {
		t.Fatal(code)
	}
	if s, n := r.Sum(api.MaxTime); s != 5 || n != 1 {
		t.Fatal(s, n)
	}
	if s, n := r.Sum(0); s != 0 || n != 0 {
		t.Fatal(s, n)
	}
}

// 5.2
func TestSumsAreCutAndOverTellsIt(t *testing.T) {
	r := ring.New(2, 1)
	r.Put(0, math.MaxInt64)
	r.Put(0, 0)
	if s, n := r.Sum(0); s != math.MaxInt64 || n != 2 || r.Over() {
		t.Fatal(s, n, r.Over())
	}
	r.Put(1, 1)
	if r.Over() { // no sum was asked for yet
		t.Fatal("over unasked")
	}
	if s, n := r.Sum(0); s != math.MaxInt64 || n != 2 || r.Over() {
		t.Fatal(s, n, r.Over())
	}
	if m := r.Mean(1); m != math.MaxInt64/3 || !r.Over() {
		t.Fatal(m, r.Over())
	}
	r.Put(100, 1)
	if s, n := r.Sum(100); s != 1 || n != 1 || !r.Over() {
		t.Fatal(s, n, r.Over())
	}
	one := ring.New(1, 1)
	one.Put(0, math.MaxInt64)
	one.Put(0, 5)
	if one.Over() {
		t.Fatal("over unasked")
	}
	if s, n := one.Sum(0); s != math.MaxInt64 || n != 2 || !one.Over() {
		t.Fatal(s, n, one.Over())
	}
}

// 5.3
func TestResize(t *testing.T) {
	r := ring.New(6, 2)
	for at := range int64(12) {
		r.Put(at, 1)
	}
	for _, w := range []int{1, 0, -1, 601, math.MinInt, math.MaxInt} {
		if code := r.Resize(w); code != api.ErrArg {
			t.Fatal(w, code)
		}
	}
	if w, n := r.Size(); w != 6 || n != 3 {
		t.Fatal(w, n)
	}
	if _, n := r.Sum(11); n != 6 {
		t.Fatal(n)
	}
	if code := r.Resize(600); code != api.OK {
		t.Fatal(code)
	}
	if w, n := r.Size(); w != 600 || n != 300 {
		t.Fatal(w, n)
	}
	if _, n := r.Sum(11); n != 6 { // what was forgotten does not come back
		t.Fatal(n)
	}
	if code := r.Resize(2); code != api.OK {
		t.Fatal(code)
	}
	if _, n := r.Sum(11); n != 2 {
		t.Fatal(n)
	}
	r.Resize(9)
	if w, n := r.Size(); w != 9 || n != 5 {
		t.Fatal(w, n)
	}
	if _, n := r.Sum(11); n != 2 {
		t.Fatal(n)
	}
	// one that was too old before is not now
	r.Put(3, 1)
	if _, n := r.Sum(11); n != 3 {
		t.Fatal(n)
	}
}

// 5.1 to 5.3, T1
func TestARingIsItsHistory(t *testing.T) {
	r := rand.New(rand.NewSource(7))
	for range 400 {
		window := 1 + r.Intn(12)
		if r.Intn(10) == 0 {
			window = 1 + r.Intn(600)
		}
		grain := 1 + r.Intn(window)
		x, h := ring.New(window, grain), remember(window, grain)
		now := int64(0)
		for range 120 {
			switch k := r.Intn(20); {
			case k < 12:
				now += int64(r.Intn(4))
				if r.Intn(30) == 0 {
					now += int64(r.Intn(3 * window))
				}
				at, v := max(now-int64(r.Intn(window+3)*r.Intn(2)), 0), int64(r.Intn(1000))
				if r.Intn(200) == 0 {
					v = math.MaxInt64 - v
				}
				if code := x.Put(at, v); code != api.OK {
					t.Fatal(code)
				}
				h.put(at, v)
			case k == 12:
				w := 1 + r.Intn(20)
				code := x.Resize(w)
				if (code == api.OK) != (w >= grain) {
					t.Fatal(w, grain, code)
				}
				if code == api.OK {
					h.resize(w)
				}
			default:
				compare(t, x, h, now+int64(r.Intn(2*window+3)-window-1))
			}
		}
		for at := int64(-2); at < now+int64(window)+2; at += 1 + int64(r.Intn(3)) {
			compare(t, x, h, at)
		}
	}
}

// 5.3
func TestNil(t *testing.T) {
	var r *ring.Ring
	w, n := r.Size()
	s, c := r.Sum(1)
	if r.Put(1, 1) != api.ErrState || r.Resize(6) != api.ErrState || w != 0 || n != 0 || s != 0 || c != 0 || r.Mean(1) != 0 || r.Over() {
		t.Fatal("nil")
	}
}

// 5.4: what is forgotten takes no room.
func TestNoMoreIsKeptThanIsAskedFor(t *testing.T) {
	r := ring.New(60, 7)
	before := held()
	for at := range int64(1 << 20) {
		if code := r.Put(at, 1); code != api.OK {
			t.Fatal(code)
		}
	}
	if grown := held() - before; grown > 1<<22 {
		t.Fatal(grown, "bytes are kept")
	}
	if s, n := r.Sum(1<<20 - 1); s != n || n < 57 || n > 63 {
		t.Fatal(s, n)
	}
}

func held() int64 {
	runtime.GC()
	var m runtime.MemStats
	runtime.ReadMemStats(&m)
	return int64(m.HeapAlloc)
}
