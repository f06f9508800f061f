package desk_test

import (
	"fmt"
	"math/rand"
	"strconv"
	"strings"
	"testing"

	"spinnaker/api"
	"spinnaker/conf"
	"spinnaker/desk"
	"spinnaker/report"
	"spinnaker/sys"
	"spinnaker/text"
)

func run(t *testing.T, settings, script, want string) {
	t.Helper()
	if got := desk.Run(settings, script); got != want {
		t.Fatalf("%q, %q:\n%q, not\n%q", settings, script, got, want)
	}
}

// 28.1
func TestSettings(t *testing.T) {
	run(t, "", "", "")
	run(t, "", "see", "0 1 1 1 0 0 proxy\n")
	run(t, "initial: 3\nburst: 0\n", "see\n", "0 3 3 3 0 0\n")
	run(t, "# none\n\ninitial: 0", "see\npods", "0 0 0 0 0 0 proxy\nnone\n")
	run(t, "x", "see", "error 4 1\n")
	run(t, "limit: 5\n\nlimit: 5", "see", "error 4 3\n")
	run(t, "limit: 0", "see", "error 5 0\n")
	run(t, "x", "", "error 4 1\n")
	run(t, "x", strings.Repeat("see\n", 400), "error 4 1\n")
}

// 28.1
func TestEachLineHasItsAnswer(t *testing.T) {
	run(t, "", "arrive 80\nsee\nends\ntick 2\nsee\nlast\npods\n", "0\n0 1 1 1 70 10 proxy\n70 10 0 0 0 0\n0\n2 10 10 1 70 10 panic proxy\n80000 80000 10 -90000\n"+
		"0:2:10 1:1:0 2:1:0 3:1:0 4:1:0 5:1:0 6:1:0 7:1:0 8:1:0 9:1:0\n")
	run(t, "", "last\nends\npods", "0 0 0 0\n0 0 0 0 0 0\n0:2:0\n")
	run(t, "limit: 2\nqueue: 1\ntimeout: 1", "arrive 4\nfinish 0\ntick 1\narrive 1\ncrash 0\nends\npods\nsee", "0\n0\n0\n0\n0\n1 0 1 0 1 2\nnone\n1 1 0 0 1 0 proxy\n")
	run(t, "limit: 2\nqueue: 2\ntimeout: 1\ninitial: 0\ngrace: 600", "arrive 3\ntick 1\nends", "0\n0\n0 0 0 2 1 0\n")
}

// 28.1
func TestCodesAreTold(t *testing.T) {
	run(t, "", "finish 0\ncrash 1\ncrash 0\nlose 1\ntick 1", "7\n7\n0\n0\n0\n")
	run(t, "", "tick 0\ntick 200\ntick 201\ntick 9999\narrive 0\narrive 100\narrive 101\nfinish 1000\nfinish 999\ncrash 1000\ncrash 999\nlose 0\nlose 50\nlose 51", "1\n0\n1\n1\n1\n0\n1\n1\n7\n1\n7\n1\n0\n1\n")
	run(t, "", "tick 1\ntick 01\ntick 001\ntick 0001\nsee", "0\n0\n0\n0\n4 1 1 1 0 0 proxy\n")
}

// 28.1
func TestSet(t *testing.T) {
	run(t, "", "set limit 2\narrive 3\nsee", "0\n0\n0 1 1 1 1 2 proxy\n")
	run(t, "", "set limit 0\nset limit x\nset limits 2\nset target 1.5\nset burst -1\nset limit 2.5", "5\n4\n4\n0\n0\n4\n")
	// names and values of nothing
	run(t, "", "set limit \nset  5\nset  \nset # x\nset #  ", "4\n4\n4\n0\nerror\n")
	run(t, "", "set\nset limit\nset limit 2 \nset limit  2\nset  limit 2\nset limit: 2\nset limit 2 # x", "error\nerror\nerror\nerror\nerror\n4\nerror\n")
	// a text of 200 bytes may be, a longer one not
	run(t, "", "set #"+strings.Repeat("x", 196)+" y\nset #"+strings.Repeat("x", 197)+" y", "0\n1\n")
}

// 28.1
func TestOthersAreErrors(t *testing.T) {
	for _, line := range []string{
		" ", "  ", "x", "see ", " see", "see see", "see 1", "See", "SEE", "ends 1", "pods ", "last x", "\tsee", "see\r", "see\x00",
		"tick", "tick ", "tick  1", " tick 1", "tick 1 ", "tick 1 1", "tick -1", "tick +1", "tick 1.0", "tick 12345", "tick 00001", "tick x", "tick 1x", "tick\t1", "Tick 1", "ticks 1",
		"arrive", "finish", "crash", "lose", "arrive x", "finish -1", "crash  0", "lose 1 1", "conf 1", "1", "1 tick", "tick 1;tick 1", "a b c", "a b c d", "\u0661", "tick \u0661", "\xff", "set",
	} {
		run(t, "", line, "error\n")
		run(t, "", "tick 1\n"+line+"\nsee\n", "0\nerror\n1 1 1 1 0 0 proxy\n")
	}
}

// 28.1
func TestEmptyLinesAndHowManyThereMayBe(t *testing.T) {
	run(t, "", "\n\nsee\n\n\nsee\n\n", "0 1 1 1 0 0 proxy\n0 1 1 1 0 0 proxy\n")
	run(t, "", "\n", "")
	run(t, "", strings.Repeat("\n", 300), "")
	run(t, "", strings.Repeat("\n", 301), "error\n")
	run(t, "", strings.Repeat("\n", 299)+"x", "error\n")
	run(t, "", strings.Repeat("\n", 299)+"lose 1", "0\n")
	run(t, "", strings.Repeat("\n", 299)+"lose 1\n", "0\n")
	run(t, "", strings.Repeat("\n", 300)+"lose 1", "error\n")
	run(t, "", "lose 1"+strings.Repeat("\n", 301), "error\n")
	run(t, "", strings.Repeat("lose 1\n", 300), strings.Repeat("0\n", 300))
	run(t, "", strings.Repeat("lose 1\n", 301), "error\n")
	run(t, "", strings.Repeat("lose 1\n", 300)+" ", "error\n")
}

// 28.1: line by line it is what the whole below tells.
func TestLineByLine(t *testing.T) {
	r := rand.New(rand.NewSource(34))
	for range 300 {
		settings := fmt.Sprintf("limit: %d\nqueue: %d\ntimeout: %d\nready: %d\ninitial: %d\nburst: %d\nstable: 12\ngrace: 3", 1+r.Intn(5), r.Intn(20), 1+r.Intn(9), r.Intn(3), r.Intn(4), r.Intn(3)*10)
		c, _, _ := text.Parse(conf.Default(), settings)
		s, _ := sys.New(c)
		var script, want []string
		for range r.Intn(80) {
			n := r.Intn(12)
			word := []string{"tick", "tick", "arrive", "arrive", "finish", "finish", "crash", "lose"}[r.Intn(8)]
			kind := map[string]int{"tick": api.ETick, "arrive": api.EArrive, "finish": api.EFinish, "crash": api.ECrash, "lose": api.ELose}[word]
			script = append(script, word+" "+strconv.Itoa(n))
			want = append(want, strconv.Itoa(s.Do(api.Event{Kind: kind, N: n})))
			if r.Intn(10) == 0 {
				name, value := []string{"limit", "queue", "max", "", "x"}[r.Intn(5)], []string{"0", "3", "7", "", "2.5"}[r.Intn(5)]
				script = append(script, "set "+name+" "+value)
				want = append(want, strconv.Itoa(s.Do(api.Event{Kind: api.EConf, Text: name + ": " + value})))
			}
			script = append(script, "see", "ends", "last", "pods")
			ends, last, pods := report.Ends(s.Requests()), s.Last(), []string{}
			for _, p := range s.See().Pods {
				pods = append(pods, fmt.Sprintf("%d:%d:%d", p.Id, p.State, p.Busy))
			}
			if len(pods) == 0 {
				pods = []string{"none"}
			}
			want = append(want, report.Line(s.See()), fmt.Sprintf("%d %d %d %d %d %d", ends[1], ends[2], ends[3], ends[4], ends[5], ends[6]),
				fmt.Sprintf("%d %d %d %d", last.Stable, last.Quick, last.Want, last.Excess), strings.Join(pods, " "))
			if len(script) > 290 {
				break
			}
		}
		if len(want) > 0 {
			want = append(want, "")
		}
		run(t, settings, strings.Join(script, "\n"), strings.Join(want, "\n"))
	}
}

// 28.1: any two texts end with answers that are lines.
func FuzzRun(f *testing.F) {
	f.Add("limit: 5", "arrive 3\ntick 2\nsee")
	f.Add("", "set limit 2\nfinish 0\npods\nlast\nends\ncrash 0\nlose 3")
	f.Fuzz(func(t *testing.T, settings, script string) {
		if s := desk.Run(settings, script); s != "" && !strings.HasSuffix(s, "\n") || strings.Contains(s, "\n\n") || strings.HasPrefix(s, "\n") {
			t.Fatalf("%q", s)
		}
	})
}
