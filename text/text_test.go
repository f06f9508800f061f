package text_test

import (
	"math"
	"math/rand"
	"strconv"
	"strings"
	"testing"

	"spinnaker/api"
	"spinnaker/conf"
	"spinnaker/text"
)

// 4.1
func TestNumber(t *testing.T) {
	for s, n := range map[string]int64{
		"0": 0, "-0": 0, "0.0": 0, "-0.000": 0, "1": 1000, "-1": -1000, "007": 7000, "1.5": 1500, "1.50": 1500, "1.500": 1500,
		"1.05": 1050, "1.005": 1005, "-1.5": -1500, "0.001": 1, "-0.001": -1, "-0.5": -500, "0.1": 100, "0.12": 120, "0.123": 123,
		"999999999": 999999999000, "999999999.999": 999999999999, "-999999999.999": -999999999999, "000000000": 0, "000000001": 1000,
	} {
		if m, ok := text.Number(s); m != n || !ok {
			t.Fatal(s, m, ok)
		}
	}
}

// 4.1
func TestNoNumber(t *testing.T) {
	for _, s := range []string{
		"", "-", ".", "-.", ".5", "-.5", "1.", "-1.", "--1", "+1", "1-", " 1", "1 ", "1 5", "1,5", "1.5.", "1.5.5", "1.-5", "1.+5",
		"1.1234", "1.0000", "1234567890", "0000000000", "1234567890.1", "-1234567890", "a", "1a", "a1", "1.a", "1.5a", "1e3", "0x1", "1_0",
		"\n1", "1\n", "1\x00", "\u0661", "1.\u0661", "\xff",
	} {
		if n, ok := text.Number(s); n != 0 || ok {
			t.Fatalf("%q: %d, %t", s, n, ok)
		}
	}
}

// 4.1
func TestShow(t *testing.T) {
	for n, s := range map[int64]string{
		0: "0", 1: "0.001", -1: "-0.001", 10: "0.01", 100: "0.1", 120: "0.12", 123: "0.123", 1000: "1", -1000: "-1", 1500: "1.5", -1500: "-1.5",
		1005: "1.005", 1050: "1.05", 10000: "10", 1000000: "1000", 999: "0.999", -999: "-0.999", 100100: "100.1",
		math.MaxInt64: "9223372036854775.807", math.MinInt64 + 1: "-9223372036854775.807", math.MinInt64: "-9223372036854775.807",
		math.MinInt64 + 2: "-9223372036854775.806",
	} {
		if g := text.Show(n); g != s {
			t.Fatal(n, g, s)
		}
	}
}

// 4.3
func TestWhatIsShownIsReadAsTheSame(t *testing.T) {
	r := rand.New(rand.NewSource(4))
	for range 20000 {
		n := (r.Int63n(2*999999999999+1) - 999999999999) >> r.Intn(40)
		if m, ok := text.Number(text.Show(n)); m != n || !ok {
			t.Fatal(n, text.Show(n), m, ok)
		}
	}
}

const defaults = "target: 10\nutil: 0.7\nstable: 60\npanic: 6\ngrain: 1\nthreshold: 2\nup: 10\ndown: 2\nmin: 0\nmax: 0\n" +
	"initial: 1\ngrace: 30\ndelay: 0\nburst: 20\nlimit: 10\nqueue: 100\ntimeout: 60\nready: 3\nsubset: 0\nsample: 0\n"

// 4.2
func TestPrint(t *testing.T) {
	if s, code := text.Print(conf.Default()); s != defaults || code != api.OK {
		t.Fatal(s, code)
	}
	c := conf.Default()
	c.Target, c.Burst, c.Up, c.Down, c.Threshold, c.Util = 10, -1000, 1001, 999999, 1100, 999
	s, code := text.Print(c)
	if code != api.OK || s != "target: 0.01\nutil: 0.999\nstable: 60\npanic: 6\ngrain: 1\nthreshold: 1.1\nup: 1.001\ndown: 999.999\nmin: 0\nmax: 0\n"+
		"initial: 1\ngrace: 30\ndelay: 0\nburst: -1\nlimit: 10\nqueue: 100\ntimeout: 60\nready: 3\nsubset: 0\nsample: 0\n" {
		t.Fatal(s, code)
	}
	c.Grain = 7
	if s, code := text.Print(c); s != "" || code != api.ErrArg {
		t.Fatal(s, code)
	}
	if s, code := text.Print(api.Conf{}); s != "" || code != api.ErrArg {
		t.Fatal(s, code)
	}
}

// full is a Conf that may be and is unlike the default in every part.
func full() (api.Conf, string) {
	return api.Conf{
		Target: 12345, Util: 650, Stable: 120, Panic: 12, Grain: 2, Threshold: 1500, Up: 5500, Down: 1250, Min: 1, Max: 20,
		Initial: 2, Grace: 31, Delay: 7, Burst: 30250, Limit: 11, Queue: 101, Timeout: 61, Ready: 4, Subset: 5, Sample: 6,
	}, "target: 12.345\nutil: 0.65\nstable: 120\npanic: 12\ngrain: 2\nthreshold: 1.5\nup: 5.5\ndown: 1.25\nmin: 1\nmax: 20\n" +
		"initial: 2\ngrace: 31\ndelay: 7\nburst: 30.25\nlimit: 11\nqueue: 101\ntimeout: 61\nready: 4\nsubset: 5\nsample: 6\n"
}

// 4.2, 4.3
func TestEveryPartIsReadAndPrinted(t *testing.T) {
	c, s := full()
	for _, from := range []api.Conf{conf.Default(), c, {}} {
		if got, code, line := text.Parse(from, s); got != c || code != api.OK || line != 0 {
			t.Fatal(got, code, line)
		}
	}
	if got, code := text.Print(c); got != s || code != api.OK {
		t.Fatal(got, code)
	}
}

// 4.2: each line alone, too, and in any order.
func TestLinesStandInAnyOrder(t *testing.T) {
	c, s := full()
	lines := strings.SplitAfter(strings.TrimSuffix(s, "\n"), "\n")
	r := rand.New(rand.NewSource(5))
	for range 200 {
		r.Shuffle(len(lines), func(i, j int) { lines[i], lines[j] = lines[j], lines[i] })
		l := make([]string, len(lines))
		for i := range lines {
			l[i] = strings.TrimSuffix(lines[i], "\n")
		}
		if got, code, line := text.Parse(conf.Default(), strings.Join(l, "\n")); got != c || code != api.OK || line != 0 {
			t.Fatal(got, code, line)
		}
	}
}

// 4.2
func TestBlanksEmptyLinesAndRemarks(t *testing.T) {
	want := conf.Default()
	want.Limit, want.Target = 5, 2500
	for _, s := range []string{
		"limit: 5\ntarget: 2.5", "limit: 5\ntarget: 2.5\n", "\n\n  limit: 5  \n   \n target: 2.5 ", "# limit: 6\nlimit: 5\n  #x\n#\ntarget: 2.5\n#",
		"limit: 5\ntarget: 2.500\n\n\n", "limit: 000005\ntarget: 000000002.5", "#\xff\x00\nlimit: 5\ntarget: 2.5",
	} {
		if got, code, line := text.Parse(conf.Default(), s); got != want || code != api.OK || line != 0 {
			t.Fatalf("%q: %+v, %d, %d", s, got, code, line)
		}
	}
	for _, s := range []string{"", "\n", "   ", "#", "# limit: 5", " \n#\n \n"} {
		if got, code, line := text.Parse(want, s); got != want || code != api.OK || line != 0 {
			t.Fatalf("%q: %+v, %d, %d", s, got, code, line)
		}
	}
}

// 4.2
func TestLinesThatAreNone(t *testing.T) {
	c := conf.Default()
	c.Limit = 77
	for _, bad := range []string{
		"limit", "limit:", "limit:5", "limit:  5", "limit : 5", "limit 5", ": 5", ":", "Limit: 5", "LIMIT: 5", "limits: 5", "limi: 5", "x: 5",
		"limit: -5", "limit: +5", "limit: 5.0", "limit: 1234567", "limit: 0000005", "limit: a", "limit: 5a", "limit: 5 5", "limit: 5 # five", "limit: 5;",
		"limit: ", "target: ", "target: .5", "target: 1.2345", "target: 1234567890", "target: 1.", "target: +1", "target: 1e3", "target: 1 0",
		"\tlimit: 5", "limit: 5\t", "limit:\t5", "limit: 5\r", "limit: limit: 5", "; x", "//", "limit: 5: 5", "\x00", "target: --1", " : ",
	} {
		for before, s := range []string{bad, "queue: 5\n" + bad, "\n# x\n" + bad + "\ntarget: 5\n", "queue: 5\n\n\n" + bad + "\nmore"} {
			if got, code, line := text.Parse(c, s); got != c || code != api.ErrParse || line != before+1 {
				t.Fatalf("%q: %+v, %d, %d", s, got, code, line)
			}
		}
	}
}

// 4.2: what is a Number of six of the names is a whole number of the others, and none of these.
func TestWhoTakesThousandths(t *testing.T) {
	for _, x := range []struct {
		name string
		code int
	}{
		{"target", 0}, {"util", 0}, {"threshold", 0}, {"up", 0}, {"down", 0}, {"burst", 0}, {"stable", 4}, {"panic", 4}, {"grain", 4}, {"min", 4},
		{"max", 4}, {"initial", 4}, {"grace", 4}, {"delay", 4}, {"limit", 4}, {"queue", 4}, {"timeout", 4}, {"ready", 4}, {"subset", 4}, {"sample", 4},
	} {
		value := ": 2.5"
		if x.name == "util" {
			value = ": 0.5"
		}
		line := 0
		if x.code != 0 {
			line = 1
		}
		if _, code, at := text.Parse(conf.Default(), x.name+value); code != x.code || at != line {
			t.Fatal(x, code, at)
		}
	}
}

// 4.2
func TestANameStandsOnce(t *testing.T) {
	c := conf.Default()
	for s, at := range map[string]int{
		"limit: 5\nlimit: 5":                       2,
		"limit: 5\n#\n\nqueue: 3\n  limit: 6":      5,
		"target: 5\nlimit: 5\ntarget: 6\nlimit: 7": 3,
		"limit: 5\nlimit: x":                       2,
		"sample: 1\nsample: 1\nxx":                 2,
	} {
		if got, code, line := text.Parse(c, s); got != c || code != api.ErrParse || line != at {
			t.Fatalf("%q: %d, %d", s, code, line)
		}
	}
}

// 4.2
func TestTheWholeMayNotBe(t *testing.T) {
	c := conf.Default()
	c.Limit = 77
	for _, s := range []string{
		"limit: 0", "limit: 999999", "target: 0", "target: -1", "target: 999999999.999", "burst: -0.5", "util: 1.001", "panic: 61", "panic: 5\ngrain: 6",
		"min: 5\nmax: 4", "max: 3\ninitial: 4", "stable: 5",
	} {
		if got, code, line := text.Parse(c, s); got != c || code != api.ErrRange || line != 0 {
			t.Fatalf("%q: %+v, %d, %d", s, got, code, line)
		}
	}
	if got, code, line := text.Parse(api.Conf{Limit: 3}, ""); got != (api.Conf{Limit: 3}) || code != api.ErrRange || line != 0 {
		t.Fatal(got, code, line)
	}
	// a line that is none is told ahead of what may not be
	if got, code, line := text.Parse(c, "limit: 0\nx"); got != c || code != api.ErrParse || line != 2 {
		t.Fatal(got, code, line)
	}
	// it is the whole that counts, not each line by itself
	if got, code, line := text.Parse(c, "panic: 100\nstable: 100"); code != api.OK || line != 0 || got.Panic != 100 || got.Stable != 100 {
		t.Fatal(got, code, line)
	}
	if got, code, line := text.Parse(c, "burst: -1"); code != api.OK || line != 0 || got.Burst != -1000 {
		t.Fatal(got, code, line)
	}
}

// 4.3
func TestWhatIsPrintedIsReadAsTheSame(t *testing.T) {
	r := rand.New(rand.NewSource(6))
	for range 3000 {
		c := api.Conf{
			Target: 10 + r.Int63n(999991), Util: 100 + r.Int63n(901), Stable: 6 + r.Intn(595), Threshold: 1100 + r.Int63n(8901),
			Up: 1001 + r.Int63n(998999), Down: 1001 + r.Int63n(998999), Min: r.Intn(101), Grace: r.Intn(601), Delay: r.Intn(601),
			Burst: r.Int63n(100000001), Limit: 1 + r.Intn(1000), Queue: r.Intn(201), Timeout: 1 + r.Intn(10000), Ready: r.Intn(101),
			Subset: r.Intn(101), Sample: r.Intn(101),
		}
		c.Panic = 1 + r.Intn(c.Stable)
		c.Grain = 1 + r.Intn(c.Panic)
		if r.Intn(2) == 0 {
			c.Max = max(1, c.Min+r.Intn(101-c.Min))
		}
		c.Initial = r.Intn(conf.Most(c) + 1)
		s, code := text.Print(c)
		if code != api.OK || strings.Count(s, "\n") != 20 || !strings.HasPrefix(s, "target: "+text.Show(c.Target)+"\n") || !strings.HasSuffix(s, "\nsample: "+strconv.Itoa(c.Sample)+"\n") {
			t.Fatal(c, s, code)
		}
		if got, code, line := text.Parse(api.Conf{}, s); got != c || code != api.OK || line != 0 {
			t.Fatal(c, got, code, line)
		}
	}
}

// 4.2: any bytes end with a code.
func FuzzParse(f *testing.F) {
	f.Add(defaults)
	f.Add("limit: 5\n\n#\nx")
	f.Fuzz(func(t *testing.T, s string) {
		c := conf.Default()
		got, code, line := text.Parse(c, s)
		switch code {
		case api.OK:
			if !conf.May(got) || line != 0 {
				t.Fatal(got, line)
			}
		case api.ErrParse:
			if got != c || line < 1 || line > strings.Count(s, "\n")+1 {
				t.Fatal(got, line)
			}
		case api.ErrRange:
			if got != c || line != 0 {
				t.Fatal(got, line)
			}
		default:
			t.Fatal(code)
		}
	})
}
