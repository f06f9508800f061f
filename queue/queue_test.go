package queue_test

import (
	"math"
	"math/big"
	"math/rand"
	"slices"
	"testing"

	"spinnaker/api"
	"spinnaker/queue"
)

const top, low = math.MaxInt64, math.MinInt64

func put(t *testing.T, q *queue.Queue, id int, at int64, code int) {
	t.Helper()
	if c := q.Put(id, at); c != code {
		t.Fatalf("Put(%d, %d) = %d", id, at, c)
	}
}

func take(t *testing.T, q *queue.Queue, id int, ok bool) {
	t.Helper()
	if i, o := q.Take(); i != id || o != ok {
		t.Fatal("Take", i, o)
	}
}

func late(t *testing.T, q *queue.Queue, now, age int64, ids ...int) {
	t.Helper()
	if l := q.Late(now, age); !slices.Equal(l, ids) {
		t.Fatalf("Late(%d, %d) = %v", now, age, l)
	}
}

func all(t *testing.T, q *queue.Queue, ids ...int) {
	t.Helper()
	if l := q.All(); !slices.Equal(l, ids) {
		t.Fatal("All", l)
	}
}

// 20.1
func TestNew(t *testing.T) {
	for n, ok := range map[int]bool{math.MinInt: false, -1: false, 0: true, 1: true, 200: true, 201: false, math.MaxInt: false} {
		q := queue.New(n)
		if (q != nil) != ok {
			t.Fatal(n)
		}
		if !ok {
			continue
		}
		all(t, q)
		take(t, q, 0, false)
		late(t, q, 5, 0)
		for i := range n {
			put(t, q, i, 5, api.OK)
		}
		put(t, q, n, 5, api.ErrFull)
	}
}

// 20.1, 20.2
func TestWhoCameFirstGoesFirst(t *testing.T) {
	q := queue.New(3)
	put(t, q, 7, 1, api.OK)
	put(t, q, 3, 1, api.OK)
	put(t, q, 7, 2, api.OK)
	put(t, q, 9, 3, api.ErrFull)
	all(t, q, 7, 3, 7)
	take(t, q, 7, true)
	all(t, q, 3, 7)
	put(t, q, 0, 3, api.OK)
	take(t, q, 3, true)
	take(t, q, 7, true)
	take(t, q, 0, true)
	take(t, q, 0, false)
	all(t, q)
}

// 20.1
func TestPutRefuses(t *testing.T) {
	q := queue.New(2)
	put(t, q, -1, 5, api.ErrArg)
	put(t, q, math.MinInt, 5, api.ErrArg)
	put(t, q, 1, low, api.OK) // any time may be the first
	put(t, q, 2, -5, api.OK)
	put(t, q, 3, 100, api.ErrFull) // that was not put
	put(t, q, 3, -6, api.ErrArg)   // told ahead of what is full
	put(t, q, -3, 5, api.ErrArg)
	all(t, q, 1, 2)
	take(t, q, 1, true)
	take(t, q, 2, true)
	put(t, q, 3, -6, api.ErrArg) // the last one counts though it waits no more
	put(t, q, math.MaxInt, -5, api.OK)
	put(t, q, 4, top, api.OK)
	all(t, q, math.MaxInt, 4)
	put(t, queue.New(0), 1, 1, api.ErrFull)
	put(t, queue.New(0), -1, 1, api.ErrArg)
}

// 20.1
func TestLate(t *testing.T) {
	q := queue.New(10)
	for id, at := range []int64{10, 10, 12, 15, 20} {
		put(t, q, id, at, api.OK)
	}
	late(t, q, 9, 0)
	late(t, q, 9, -5)
	late(t, q, 14, 5)
	late(t, q, 15, 5, 0, 1)
	all(t, q, 2, 3, 4)
	late(t, q, 15, 5)
	late(t, q, 15, -7, 2, 3)
	all(t, q, 4)
	late(t, q, 19, 0)
	late(t, q, 20, 1)
	late(t, q, 20, 0, 4)
	all(t, q)
	put(t, q, 5, 19, api.ErrArg) // still below the last one
	put(t, q, 5, 20, api.OK)
}

// 20.1
func TestLateAtTheEndsOf64Bits(t *testing.T) {
	q := queue.New(10)
	put(t, q, 1, low, api.OK)
	put(t, q, 2, -1, api.OK)
	put(t, q, 3, 0, api.OK)
	put(t, q, 4, top, api.OK)
	late(t, q, low, 1)
	late(t, q, low, top)
	late(t, q, -2, top)
	late(t, q, -1, top, 1)
	late(t, q, low, 0)
	late(t, q, -2, 0)
	late(t, q, top-2, top)
	late(t, q, top-1, top, 2)
	late(t, q, top, top, 3)
	late(t, q, top, 1)
	late(t, q, low, low)
	late(t, q, top, low, 4)
}

// 20.1
func TestDepth(t *testing.T) {
	q := queue.New(3)
	for id := range 3 {
		put(t, q, id, 0, api.OK)
	}
	for _, n := range []int{-1, 201, math.MinInt, math.MaxInt} {
		if code := q.Depth(n); code != api.ErrArg {
			t.Fatal(n, code)
		}
	}
	if code := q.Depth(1); code != api.OK {
		t.Fatal(code)
	}
	all(t, q, 0, 1, 2)
	put(t, q, 3, 0, api.ErrFull)
	take(t, q, 0, true)
	take(t, q, 1, true)
	put(t, q, 3, 0, api.ErrFull)
	take(t, q, 2, true)
	put(t, q, 3, 0, api.OK)
	put(t, q, 4, 0, api.ErrFull)
	if code := q.Depth(200); code != api.OK {
		t.Fatal(code)
	}
	put(t, q, 4, 0, api.OK)
	if code := q.Depth(0); code != api.OK {
		t.Fatal(code)
	}
	all(t, q, 3, 4)
}

// What is answered is the caller's own.
func TestAnswersAreNotShared(t *testing.T) {
	q := queue.New(3)
	put(t, q, 1, 0, api.OK)
	put(t, q, 2, 1, api.OK)
	q.All()[0] = 9
	all(t, q, 1, 2)
	l := q.Late(1, 1)
	put(t, q, 3, 1, api.OK)
	l[0] = 9
	all(t, q, 2, 3)
}

type waiter struct {
	id int
	t  int64
}

// 20.1, 20.2, T5: by all that wait.
func TestAllThatWait(t *testing.T) {
	r := rand.New(rand.NewSource(25))
	for range 300 {
		depth := r.Intn(8)
		q, l, last, some := queue.New(depth), []waiter{}, int64(0), false
		now := int64(r.Intn(100) - 50)
		for range 150 {
			now += int64(r.Intn(3))
			switch r.Intn(6) {
			case 0, 1, 2:
				w := waiter{r.Intn(20) - 1, now - int64(r.Intn(3)*r.Intn(2))}
				code := api.OK
				if w.id < 0 || some && w.t < last {
					code = api.ErrArg
				} else if len(l) >= depth {
					code = api.ErrFull
				} else {
					l, last, some = append(l, w), w.t, true
				}
				put(t, q, w.id, w.t, code)
			case 3:
				if len(l) == 0 {
					take(t, q, 0, false)
				} else {
					take(t, q, l[0].id, true)
					l = l[1:]
				}
			case 4:
				age := int64(r.Intn(12) - 1)
				if r.Intn(10) == 0 {
					age = top - int64(r.Intn(2))
				}
				var gone []int
				var stay []waiter
				for _, w := range l {
					waited := new(big.Int).Sub(big.NewInt(now), big.NewInt(w.t))
					if waited.Cmp(big.NewInt(max(age, 0))) >= 0 {
						gone = append(gone, w.id)
					} else {
						stay = append(stay, w)
					}
				}
				late(t, q, now, age, gone...)
				l = stay
			case 5:
				if r.Intn(4) == 0 {
					depth = r.Intn(8)
					if code := q.Depth(depth); code != api.OK {
						t.Fatal(code)
					}
				}
			}
			var ids []int
			for _, w := range l {
				ids = append(ids, w.id)
			}
			all(t, q, ids...)
		}
	}
}

// 20.1
func TestNil(t *testing.T) {
	var q *queue.Queue
	put(t, q, 1, 1, api.ErrState)
	take(t, q, 0, false)
	late(t, q, 1, 0)
	all(t, q)
	if code := q.Depth(5); code != api.ErrState {
		t.Fatal(code)
	}
}
