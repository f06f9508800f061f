package report_test

import (
	"math"
	"testing"

	"spinnaker/api"
	"spinnaker/conf"
	"spinnaker/report"
	"spinnaker/sys"
)

func pods(states ...int) []api.Pod {
	l := make([]api.Pod, len(states))
	for i, s := range states {
		l[i] = api.Pod{Id: i, State: s, Busy: 9}
	}
	return l
}

// 27.1
func TestLine(t *testing.T) {
	for i, x := range []struct {
		v    api.View
		line string
	}{
		{api.View{}, "0 0 0 0 0 0"},
		{api.View{Want: 1, Pods: pods(2), Proxy: true}, "0 1 1 1 0 0 proxy"},
		{api.View{T: 1, Want: 2, Pods: pods(1, 2, 3, 2, 2, 1, 3), Waiting: 5, Busy: 6}, "1 2 7 3 5 6"},
		{api.View{T: 12, Want: 34, Waiting: 56, Busy: 78, Panic: true}, "12 34 0 0 56 78 panic"},
		{api.View{T: 12, Want: 34, Waiting: 56, Busy: 78, Panic: true, Proxy: true, Over: true}, "12 34 0 0 56 78 panic proxy"},
		{api.View{T: 5, Pods: pods(1, 3, 0, 4), Ends: [7]int{9, 9, 9, 9, 9, 9, 9}, Over: true}, "5 0 4 0 0 0"},
		{api.View{T: -1, Want: -2, Waiting: -3, Busy: -4}, "-1 -2 0 0 -3 -4"},
		{api.View{T: math.MaxInt64, Want: math.MinInt, Waiting: math.MaxInt, Busy: math.MinInt}, "9223372036854775807 -9223372036854775808 0 0 9223372036854775807 -9223372036854775808"},
		{api.View{T: math.MinInt64}, "-9223372036854775808 0 0 0 0 0"},
	} {
		if line := report.Line(x.v); line != x.line {
			t.Fatalf("%d: %q", i, line)
		}
	}
}

// 27.1
func TestSum(t *testing.T) {
	for i, x := range []struct {
		l                          []api.View
		want, pods, panics, proxys int
	}{
		{nil, 0, 0, 0, 0},
		{[]api.View{}, 0, 0, 0, 0},
		{[]api.View{{}}, 0, 0, 0, 0},
		{[]api.View{{Want: 3, Pods: pods(1, 2)}, {Want: 5, Panic: true}, {Want: 4, Pods: pods(3, 3, 3), Panic: true, Proxy: true}}, 5, 3, 2, 1},
		{[]api.View{{Want: 7, Pods: pods(3, 3, 3, 3), Proxy: true}, {Want: 6, Proxy: true}}, 7, 4, 0, 2},
		{[]api.View{{Want: -3, Waiting: 9, Busy: 9, T: 9}, {Want: -1}}, 0, 0, 0, 0},
		{[]api.View{{Want: math.MinInt}, {Want: math.MaxInt}}, math.MaxInt, 0, 0, 0},
	} {
		if a, b, c, d := report.Sum(x.l); a != x.want || b != x.pods || c != x.panics || d != x.proxys {
			t.Fatal(i, a, b, c, d)
		}
	}
}

// 27.1
func TestEnds(t *testing.T) {
	var l []api.Request
	if ends := report.Ends(l); ends != [7]int{} {
		t.Fatal(ends)
	}
	for state := api.RWaiting; state <= api.RFailed; state++ {
		for range state {
			l = append(l, api.Request{State: state, Pod: 5, Since: 7})
		}
	}
	if ends := report.Ends(l); ends != [7]int{0, 1, 2, 3, 4, 5, 6} {
		t.Fatal(ends)
	}
	for _, state := range []int{0, -1, 7, math.MinInt, math.MaxInt} {
		l = append(l, api.Request{State: state})
	}
	if ends := report.Ends(l); ends != [7]int{0, 1, 2, 3, 4, 5, 6} {
		t.Fatal(ends)
	}
}

// 27.2: of a whole that runs.
func TestWhatAPersonReads(t *testing.T) {
	s, _ := sys.New(conf.Default())
	if line := report.Line(s.See()); line != "0 1 1 1 0 0 proxy" {
		t.Fatal(line)
	}
	s.Do(api.Event{Kind: api.EArrive, N: 80})
	if line := report.Line(s.See()); line != "0 1 1 1 70 10 proxy" {
		t.Fatal(line)
	}
	s.Do(api.Event{Kind: api.ETick, N: 2})
	if line := report.Line(s.See()); line != "2 10 10 1 70 10 panic proxy" {
		t.Fatal(line)
	}
	s.Do(api.Event{Kind: api.ETick, N: 3})
	if line := report.Line(s.See()); line != "5 12 12 10 0 80 panic proxy" {
		t.Fatal(line)
	}
	if a, b, c, d := report.Sum(s.Trace()); a != 12 || b != 12 || c != 5 || d != 5 {
		t.Fatal(a, b, c, d)
	}
	if ends := report.Ends(s.Requests()); ends != s.See().Ends {
		t.Fatal(ends)
	}
}
