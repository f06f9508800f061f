package event_test

import (
	"bytes"
	"math"
	"math/rand"
	"slices"
	"strings"
	"testing"

	"spinnaker/api"
	"spinnaker/event"
)

func ev(kind, n int) api.Event { return api.Event{Kind: kind, N: n} }

func set(text string) api.Event { return api.Event{Kind: api.EConf, Text: text} }

// 23.1
func TestMay(t *testing.T) {
	for _, x := range []struct{ kind, lo, hi int }{
		{api.ETick, 1, 200}, {api.EArrive, 1, 100}, {api.EFinish, 0, 999}, {api.ECrash, 0, 999}, {api.ELose, 1, 50}, {api.EConf, 0, 0},
	} {
		for _, n := range []int{x.lo, (x.lo + x.hi) / 2, x.hi} {
			if !event.May(ev(x.kind, n)) {
				t.Fatal(x, n)
			}
			if e := (api.Event{Kind: x.kind, N: n, Text: "x"}); event.May(e) != (x.kind == api.EConf) {
				t.Fatal(e)
			}
		}
		for _, n := range []int{x.lo - 1, x.hi + 1, math.MinInt, math.MaxInt} {
			if event.May(ev(x.kind, n)) {
				t.Fatal(x, n)
			}
		}
	}
	for _, kind := range []int{math.MinInt, -1, 0, 7, 8, 256 + api.ETick, math.MaxInt} {
		if event.May(ev(kind, 1)) || event.May(ev(kind, 0)) {
			t.Fatal(kind)
		}
	}
	for n, ok := range map[int]bool{0: true, 1: true, 199: true, 200: true, 201: false, 255: false, 256: false, 5000: false} {
		if event.May(set(strings.Repeat("\xff", n))) != ok {
			t.Fatal(n)
		}
	}
	if event.May(api.Event{Kind: api.EConf, N: 1, Text: "x"}) {
		t.Fatal("a number with a text")
	}
}

// 23.2
func TestPutByHand(t *testing.T) {
	for i, x := range []struct {
		l []api.Event
		b string
	}{
		{nil, ""},
		{[]api.Event{}, ""},
		{[]api.Event{ev(1, 200)}, "\x01\x00\xc8"},
		{[]api.Event{ev(2, 100)}, "\x02\x00\x64"},
		{[]api.Event{ev(3, 999)}, "\x03\x03\xe7"},
		{[]api.Event{ev(4, 256)}, "\x04\x01\x00"},
		{[]api.Event{ev(6, 50)}, "\x06\x00\x32"},
		{[]api.Event{set("")}, "\x05\x00"},
		{[]api.Event{set("a\n\x00\xff")}, "\x05\x04a\n\x00\xff"},
		{[]api.Event{set(strings.Repeat("y", 200))}, "\x05\xc8" + strings.Repeat("y", 200)},
		{[]api.Event{ev(1, 1), set("ab"), ev(3, 0), ev(4, 999), ev(2, 1), ev(6, 1)}, "\x01\x00\x01\x05\x02ab\x03\x00\x00\x04\x03\xe7\x02\x00\x01\x06\x00\x01"},
	} {
		b, code := event.Put(x.l)
		if string(b) != x.b || code != api.OK {
			t.Fatalf("%d: %q, %d", i, b, code)
		}
		l, code, at := event.All([]byte(x.b))
		if !slices.Equal(l, x.l) || code != api.OK || at != 0 {
			t.Fatal(i, l, code, at)
		}
	}
}

// 23.2
func TestPutRefuses(t *testing.T) {
	for _, bad := range []api.Event{ev(0, 1), ev(7, 1), ev(1, 0), ev(1, 201), ev(2, 101), ev(3, -1), ev(4, 1000), ev(6, 51), ev(5, 1), set(strings.Repeat("x", 201)), {Kind: 1, N: 1, Text: "x"}} {
		for _, l := range [][]api.Event{{bad}, {ev(1, 1), bad}, {bad, ev(1, 1)}, {ev(1, 1), bad, set("x")}} {
			if b, code := event.Put(l); len(b) != 0 || code != api.ErrArg {
				t.Fatal(l, b, code)
			}
		}
	}
}

// 23.2
func TestAllTellsWhereNoneIs(t *testing.T) {
	for _, x := range []struct {
		b     string
		ahead int
		at    int
	}{
		{"\x00", 0, 0}, {"\x07\x00\x01", 0, 0}, {"\xff\x00\x01", 0, 0}, {"\x00\x00\x00", 0, 0},
		{"\x01", 0, 0}, {"\x01\x00", 0, 0}, {"\x05", 0, 0}, {"\x05\x01", 0, 0}, {"\x05\x03ab", 0, 0}, {"\x05\xc9" + strings.Repeat("x", 201), 0, 0}, {"\x05\xff" + strings.Repeat("x", 255), 0, 0},
		{"\x01\x00\x00", 0, 0}, {"\x01\x00\xc9", 0, 0}, {"\x01\x01\x01", 0, 0}, {"\x02\x00\x65", 0, 0}, {"\x02\x00\x00", 0, 0}, {"\x03\x03\xe8", 0, 0}, {"\x04\xff\xff", 0, 0}, {"\x06\x00\x33", 0, 0}, {"\x06\x00\x00", 0, 0},
		{"\x01\x00\x05\x00", 1, 3}, {"\x01\x00\x05\x01\x00", 1, 3}, {"\x01\x00\x05\x05\x02ab\x03\x00", 2, 7}, {"\x05\x00\x05\x00\x05", 2, 4}, {"\x05\x02ab\x01\x00\xc9\x01\x00\x01", 1, 4},
		{"\x02\x00\x05\x00\x01\x00\x05", 1, 3},
	} {
		l, code, at := event.All([]byte(x.b))
		if len(l) != x.ahead || code != api.ErrParse || at != x.at {
			t.Fatalf("%q: %v, %d, %d", x.b, l, code, at)
		}
		whole, code, _ := event.All([]byte(x.b[:x.at]))
		if !slices.Equal(l, whole) || code != api.OK {
			t.Fatalf("%q: %v, not %v", x.b, l, whole)
		}
	}
	if l, code, at := event.All(nil); len(l) != 0 || code != api.OK || at != 0 {
		t.Fatal(l, code, at)
	}
}

// What is read is not what was handed in.
func TestBytesAreNotKept(t *testing.T) {
	b := []byte("\x05\x02ab\x01\x00\x01")
	l, _, _ := event.All(b)
	clear(b)
	if l[0] != set("ab") || l[1] != ev(1, 1) {
		t.Fatal(l)
	}
	if string(b) != strings.Repeat("\x00", 7) {
		t.Fatal(b)
	}
}

// 23.2, 23.3
func TestWhatIsPutIsReadAsTheSame(t *testing.T) {
	r := rand.New(rand.NewSource(28))
	for range 2000 {
		var l []api.Event
		for range r.Intn(20) {
			kind := 1 + r.Intn(6)
			text := make([]byte, r.Intn(201))
			r.Read(text)
			switch kind {
			case api.ETick:
				l = append(l, ev(kind, 1+r.Intn(200)))
			case api.EArrive:
				l = append(l, ev(kind, 1+r.Intn(100)))
			case api.ELose:
				l = append(l, ev(kind, 1+r.Intn(50)))
			case api.EConf:
				l = append(l, set(string(text)))
			default:
				l = append(l, ev(kind, r.Intn(1000)))
			}
		}
		b, code := event.Put(l)
		if code != api.OK {
			t.Fatal(l, code)
		}
		got, code, at := event.All(b)
		if !slices.Equal(got, l) || code != api.OK || at != 0 {
			t.Fatal(l, got, code, at)
		}
	}
}

// anyBytes checks what holds of whatever bytes: what is read stands there
// byte by byte, and nothing begins where it ends.
func anyBytes(t *testing.T, b []byte) {
	l, code, at := event.All(b)
	end := len(b)
	if code == api.ErrParse {
		end = at
	} else if code != api.OK || at != 0 {
		t.Fatal(b, code, at)
	}
	again, put := event.Put(l)
	if put != api.OK || !bytes.Equal(again, b[:end]) || code != api.OK && end >= len(b) {
		t.Fatal(b, l, code, at)
	}
}

// 23.3
func TestAnyBytes(t *testing.T) {
	r := rand.New(rand.NewSource(29))
	for range 50000 {
		b := make([]byte, r.Intn(24))
		for i := range b {
			b[i] = byte(r.Intn(9))
			if r.Intn(10) == 0 {
				b[i] = byte(r.Intn(256))
			}
		}
		anyBytes(t, b)
	}
}

func FuzzAll(f *testing.F) {
	f.Add([]byte("\x01\x00\x05\x05\x02ab"))
	f.Fuzz(anyBytes)
}
