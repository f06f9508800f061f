package breaker_test

import (
	"math"
	"math/rand"
	"testing"

	"spinnaker/api"
	"spinnaker/breaker"
	"spinnaker/load"
)

func enter(t *testing.T, b *breaker.Breaker, in bool, code int) {
	t.Helper()
	if i, c := b.Enter(); i != in || c != code {
		t.Fatal("Enter", i, c)
	}
}

func leave(t *testing.T, b *breaker.Breaker, in bool, code int) {
	t.Helper()
	if i, c := b.Leave(); i != in || c != code {
		t.Fatal("Leave", i, c)
	}
}

func limit(t *testing.T, b *breaker.Breaker, n, in, code int) {
	t.Helper()
	if i, c := b.Limit(n); i != in || c != code {
		t.Fatal("Limit", n, i, c)
	}
}

func look(t *testing.T, b *breaker.Breaker, z complex128, free int) {
	t.Helper()
	if b.Load() != z || b.Free() != free {
		t.Fatal("look", b.Load(), b.Free())
	}
}

// 7.1
func TestNew(t *testing.T) {
	for _, x := range [][2]int{{0, 0}, {1, 0}, {0, 1}, {1000, 1000}, {1000, 0}, {0, 1000}} {
		b := breaker.New(x[0], x[1])
		if b == nil {
			t.Fatal(x)
		}
		look(t, b, 0, x[0])
	}
	for _, x := range [][2]int{{-1, 0}, {0, -1}, {1001, 0}, {0, 1001}, {-1, -1}, {1001, 1001}, {math.MinInt, 5}, {5, math.MaxInt}} {
		if breaker.New(x[0], x[1]) != nil {
			t.Fatal(x)
		}
	}
}

// 7.1
func TestOneGoesInOneWaitsTheThirdIsRefused(t *testing.T) {
	b := breaker.New(1, 1)
	look(t, b, 0, 1)
	enter(t, b, true, api.OK)
	look(t, b, 1, 0)
	enter(t, b, false, api.OK)
	look(t, b, 1+1i, 0)
	enter(t, b, false, api.ErrFull)
	look(t, b, 1+1i, 0)
	leave(t, b, true, api.OK)
	look(t, b, 1, 0)
	leave(t, b, false, api.OK)
	look(t, b, 0, 1)
	leave(t, b, false, api.ErrNone)
	look(t, b, 0, 1)
}

// 7.1
func TestNoRoomAtAll(t *testing.T) {
	b := breaker.New(0, 0)
	enter(t, b, false, api.ErrFull)
	leave(t, b, false, api.ErrNone)
	look(t, b, 0, 0)
	b = breaker.New(0, 1)
	enter(t, b, false, api.OK)
	enter(t, b, false, api.ErrFull)
	leave(t, b, false, api.ErrNone) // who waits is not in flight
	look(t, b, 1i, 0)
	b = breaker.New(1, 0)
	enter(t, b, true, api.OK)
	enter(t, b, false, api.ErrFull)
}

// 7.1
func TestQuit(t *testing.T) {
	b := breaker.New(1, 2)
	if code := b.Quit(); code != api.ErrNone {
		t.Fatal(code)
	}
	enter(t, b, true, api.OK)
	if code := b.Quit(); code != api.ErrNone {
		t.Fatal(code)
	}
	enter(t, b, false, api.OK)
	enter(t, b, false, api.OK)
	if code := b.Quit(); code != api.OK {
		t.Fatal(code)
	}
	look(t, b, 1+1i, 0)
	enter(t, b, false, api.OK)
	enter(t, b, false, api.ErrFull)
}

// 7.2
func TestLimit(t *testing.T) {
	b := breaker.New(2, 5)
	for _, n := range []int{-1, 1001, math.MinInt, math.MaxInt} {
		limit(t, b, n, 0, api.ErrArg)
	}
	look(t, b, 0, 2)
	limit(t, b, 1000, 0, api.OK)
	look(t, b, 0, 1000)
	limit(t, b, 2, 0, api.OK)
	for range 2 {
		enter(t, b, true, api.OK)
	}
	for range 5 {
		enter(t, b, false, api.OK)
	}
	limit(t, b, -1, 0, api.ErrArg)
	look(t, b, 2+5i, 0)
	limit(t, b, 4, 2, api.OK)
	look(t, b, 4+3i, 0)
	limit(t, b, 9, 3, api.OK)
	look(t, b, 7, 2)
	// below what is in flight none goes in until they are fewer
	limit(t, b, 5, 0, api.OK)
	look(t, b, 7, 0)
	enter(t, b, false, api.OK)
	leave(t, b, false, api.OK)
	look(t, b, 6+1i, 0)
	leave(t, b, false, api.OK)
	look(t, b, 5+1i, 0)
	leave(t, b, true, api.OK)
	look(t, b, 5, 0)
	leave(t, b, false, api.OK)
	look(t, b, 4, 1)
	limit(t, b, 0, 0, api.OK)
	look(t, b, 4, 0)
	enter(t, b, false, api.OK)
	limit(t, b, 4, 0, api.OK)
	limit(t, b, 5, 1, api.OK)
	look(t, b, 5, 0)
}

// 7.1 to 7.3, T2: the two numbers by themselves tell what it does.
func TestNeverMoreThanMayBe(t *testing.T) {
	r := rand.New(rand.NewSource(9))
	for range 500 {
		top, depth, busy, waiting := r.Intn(6), r.Intn(6), 0, 0
		b := breaker.New(top, depth)
		for range 100 {
			let := max(busy, top)
			switch r.Intn(8) {
			case 0, 1, 2:
				switch {
				case busy < top:
					busy++
					enter(t, b, true, api.OK)
				case waiting < depth:
					waiting++
					enter(t, b, false, api.OK)
				default:
					enter(t, b, false, api.ErrFull)
				}
			case 3, 4, 5:
				if busy == 0 {
					leave(t, b, false, api.ErrNone)
					break
				}
				busy--
				in := waiting > 0 && busy < top
				if in {
					busy, waiting = busy+1, waiting-1
				}
				leave(t, b, in, api.OK)
			case 6:
				code := api.ErrNone
				if waiting > 0 {
					waiting, code = waiting-1, api.OK
				}
				if c := b.Quit(); c != code {
					t.Fatal(c)
				}
			case 7:
				top = r.Intn(8)
				in := max(min(waiting, top-busy), 0)
				busy, waiting = busy+in, waiting-in
				limit(t, b, top, in, api.OK)
				let = max(let, top)
			}
			look(t, b, load.Of(busy, waiting), max(top-busy, 0))
			if load.Busy(b.Load()) > let || load.Waiting(b.Load()) > depth {
				t.Fatal(b.Load(), let, depth)
			}
		}
	}
}

// 7.2
func TestNil(t *testing.T) {
	var b *breaker.Breaker
	enter(t, b, false, api.ErrState)
	leave(t, b, false, api.ErrState)
	limit(t, b, 1, 0, api.ErrState)
	look(t, b, 0, 0)
	if code := b.Quit(); code != api.ErrState {
		t.Fatal(code)
	}
}
