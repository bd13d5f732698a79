package tests

import (
	"fmt"
	"math"
	"math/rand"
	"slices"
	"strings"
	"testing"

	"loop.example/g01079/impl"
)

const (
	// noCounters is what counters look like beside an error.
	noCounters = "{0 0 0}"
	// mostCounted is the greatest content of a counter.
	mostCounted = 1000000000000
)

func countersAt(at, a, b int64) impl.Counters { return impl.Counters{At: at, A: a, B: b} }

// outsideValues are numbers that are no contents of counters.
var outsideValues = []int64{-1, mostCounted + 1, -mostCounted, math.MinInt64, math.MaxInt64}

var sampleCounters = []impl.Counters{
	{}, countersAt(0, 3, 2), countersAt(1, 3, 2), countersAt(2, 0, 5), countersAt(400, 0, 0), countersAt(401, 0, 0), countersAt(-1, 0, 0), countersAt(math.MaxInt64, 0, 0),
	countersAt(math.MinInt64, 0, 0), countersAt(0, mostCounted, mostCounted), countersAt(0, mostCounted+1, 0), countersAt(0, 0, mostCounted+1), countersAt(0, -1, 0), countersAt(0, 0, -1),
	countersAt(0, mostCounted-1, 0), countersAt(mostCounted, 1, 1), countersAt(mostCounted+1, 1, 1), countersAt(0, math.MinInt64, math.MaxInt64),
}

var counterCalls = calls[[]impl.Instr, impl.Counters]{impl.StepCounters, impl.RunCounters, impl.TraceCounters}

// counterModel runs a program with two counters as the plain model of register machines does.
type counterModel struct {
	storeModel
}

func newCounterModel(p []impl.Instr, c impl.Counters) *counterModel {
	return &counterModel{storeModel{p, impl.Store{At: c.At, Contents: []int64{c.A, c.B}}, mostCounted}}
}

func (m *counterModel) config() impl.Counters {
	return countersAt(m.x.At, m.x.Contents[0], m.x.Contents[1])
}

// forSomeCounters checks many small programs with counters of each.
func forSomeCounters(seed int64, many int, check func(random *rand.Rand, p []impl.Instr, c impl.Counters)) {
	random := rand.New(rand.NewSource(seed))
	for range many {
		p := randomProgram(random, 7, 2)
		check(random, p, countersAt(random.Int63n(int64(len(p))+1), random.Int63n(5), random.Int63n(5)))
	}
}

// badForCounters returns programs that are not for two counters: invalid ones, and those with another register.
func badForCounters() [][]impl.Instr {
	all := badPrograms()
	for register := int64(2); register < 24; register++ {
		for _, other := range []impl.Instr{inc(register, 0), dec(register, 1, 2)} {
			all = append(all, []impl.Instr{other, {}}, []impl.Instr{{}, other}, []impl.Instr{inc(0, 2), other})
		}
	}
	return append(all, append(chainOf(399), inc(2, 0)), []impl.Instr{inc(0, 0), inc(1, 0), inc(0, 0), dec(23, 0, 0), inc(1, 0)})
}

func TestPromise9Constants(t *testing.T) {
	expect(t, show(impl.MaxFractions, impl.MaxFactor, impl.MaxSeen), "100 999999 20")
}

func TestPromise9TwoCounterPrograms(t *testing.T) {
	for _, p := range [][]impl.Instr{
		nil, {}, {{}}, {inc(0, 1)}, {inc(1, 1)}, {dec(0, 0, 1)}, {dec(1, 1, 1)}, {inc(1, 2), dec(0, 0, 0)}, chainOf(400), slices.Repeat([]impl.Instr{dec(1, 400, 0)}, 400),
	} {
		if !impl.IsTwoCounter(p) {
			t.Errorf("%v is not for two counters", p)
		}
	}
	for i, p := range badForCounters() {
		if impl.IsTwoCounter(p) {
			t.Errorf("the program %d is for two counters: %v", i, p)
		}
	}
	random := rand.New(rand.NewSource(90))
	for range 500 {
		p := randomProgram(random, 5, 3)
		registers, _ := impl.RegistersOf(p)
		expect(t, show(p, impl.IsTwoCounter(p)), show(p, !slices.Contains(registers, 2)))
	}
}

func TestPromise9CounterExamples(t *testing.T) {
	p := programOf(t, adder)
	expect(t, show(impl.RunCounters(p, countersAt(0, 3, 2), 100)), show(countersAt(2, 0, 5), 7, true, impl.OK))
	expect(t, show(impl.TraceCounters(p, countersAt(0, 1, 2), 9)), show([]impl.Counters{{At: 0, A: 1, B: 2}, {At: 1, A: 0, B: 2}, {At: 0, A: 0, B: 3}, {At: 2, A: 0, B: 3}}, impl.OK))
	double := programOf(t, "-0>1:3;+1>2;+1>0;-1>4:5;+0>3")
	expect(t, show(impl.RunCounters(double, countersAt(0, 50, 0), impl.MaxBudget)), show(countersAt(5, 100, 0), 50*3+1+100*2+1, true, impl.OK))
}

func TestPromise9SingleSteps(t *testing.T) {
	p := programOf(t, "+1>2;-1>3:0;-0>0:4;+0>4")
	const most = mostCounted
	for from, to := range map[impl.Counters]impl.Counters{
		{}: countersAt(2, 0, 1), countersAt(0, 5, 6): countersAt(2, 5, 7), countersAt(0, 0, most-1): countersAt(2, 0, most), countersAt(0, most, 0): countersAt(2, most, 1),
		countersAt(1, 0, 0): countersAt(0, 0, 0), countersAt(1, 4, 0): countersAt(0, 4, 0), countersAt(1, 4, 1): countersAt(3, 4, 0), countersAt(1, most, most): countersAt(3, most, most-1),
		countersAt(2, 0, 0): countersAt(4, 0, 0), countersAt(2, 0, most): countersAt(4, 0, most), countersAt(2, 2, 7): countersAt(0, 1, 7), countersAt(2, most, most): countersAt(0, most-1, most),
		countersAt(3, most-1, most): countersAt(4, most, most), countersAt(3, impl.MaxCount, 0): countersAt(4, impl.MaxCount+1, 0),
	} {
		expect(t, show(from)+show(impl.StepCounters(p, from)), show(from)+show(to, impl.OK))
	}
	expect(t, show(impl.StepCounters(p, countersAt(4, 1, 2))), noCounters+" 6")
	expect(t, show(impl.StepCounters(p, countersAt(4, most, most))), noCounters+" 6")
	expect(t, show(impl.StepCounters(p, countersAt(0, 0, most))), noCounters+" 5")
	expect(t, show(impl.StepCounters(p, countersAt(3, most, 0))), noCounters+" 5")
}

func TestPromise9CountersRunAsTheModel(t *testing.T) {
	t.Parallel()
	full := 0
	forSomeCounters(91, 600, func(random *rand.Rand, p []impl.Instr, c impl.Counters) {
		counterCalls.expectRuns(t, p, newCounterModel(p, c))
		c.A, c.B = mostCounted-c.A, mostCounted-c.B
		counterCalls.expectRuns(t, p, newCounterModel(p, c))
		if counterCalls.expectUntilTrouble(t, p, newCounterModel(p, c), 60) {
			full++
		}
	})
	if full < 60 {
		t.Errorf("only %d runs come to a full counter", full)
	}
}

// Two counters run as the registers 0 and 1 do, as long as there is no difference in how much they may contain.
func TestPromise9CountersRunAsRegisters(t *testing.T) {
	forSomeCounters(92, 500, func(random *rand.Rand, p []impl.Instr, c impl.Counters) {
		budget := 1 + random.Int63n(200)
		x, steps, halts, code := impl.RunProgram(p, storeAt(c.At, c.A, c.B), budget)
		expect(t, show(impl.RunCounters(p, c, budget)), show(countersAt(x.At, x.Contents[0], x.Contents[1]), steps, halts, code))
	})
	grows := programOf(t, "+0>0")
	expect(t, show(impl.RunProgram(grows, storeAt(0, impl.MaxCount), 9)), noStore+" 0 false 5")
	expect(t, show(impl.RunCounters(grows, countersAt(0, impl.MaxCount, 3), 9)), show(countersAt(0, impl.MaxCount+9, 3), 9, false, impl.OK))
}

func TestPromise9CounterRunsGoOn(t *testing.T) {
	forSomeCounters(93, 1000, func(random *rand.Rand, p []impl.Instr, c impl.Counters) {
		first, second := 1+random.Int63n(90), 1+random.Int63n(90)
		middle, made, _, code := impl.RunCounters(p, c, first)
		end, more, halts, again := impl.RunCounters(p, middle, second)
		expect(t, show(code, again), "0 0")
		expect(t, show(impl.RunCounters(p, c, first+second)), show(end, made+more, halts, impl.OK))
	})
}

func TestPromise9CounterBudgets(t *testing.T) {
	p := programOf(t, adder)
	c, full := countersAt(0, 3, 2), countersAt(0, mostCounted, mostCounted)
	for budget, want := range map[int64]string{1: "1 false", 6: "6 false", 7: "7 true", 8: "7 true", impl.MaxBudget: "7 true"} {
		_, steps, halts, code := impl.RunCounters(p, c, budget)
		expect(t, show(budget, steps, halts, code), show(budget)+" "+want+" 0")
	}
	end := countersAt(2, 4, 1)
	expect(t, show(impl.RunCounters(p, end, 1)), show(end, 0, true, impl.OK))
	expect(t, show(impl.TraceCounters(p, end, impl.MaxTrace)), show([]impl.Counters{end}, impl.OK))
	endless, grows := programOf(t, "-0>0:0"), programOf(t, "+1>0")
	expect(t, show(impl.RunCounters(endless, countersAt(0, 5, 0), impl.MaxBudget)), show(countersAt(0, 0, 0), impl.MaxBudget, false, impl.OK))
	expect(t, show(impl.RunCounters(grows, countersAt(0, 0, 7), impl.MaxBudget)), show(countersAt(0, 0, impl.MaxBudget+7), impl.MaxBudget, false, impl.OK))
	for _, budget := range []int64{0, -1, impl.MaxBudget + 1, math.MinInt64, math.MaxInt64} {
		for _, c := range []impl.Counters{{}, end, full} {
			expect(t, show(impl.RunCounters(p, c, budget)), noCounters+" 0 false 2")
		}
		expect(t, show(impl.RunCounters(grows, full, budget)), noCounters+" 0 false 2")
		expect(t, show(impl.RunCounters(nil, full, budget)), noCounters+" 0 false 2")
	}
	for n, want := range map[int64]string{-1: "0 2", 0: "1 0", 1: "2 0", 59: "60 0", 60: "61 0", 61: "0 2", math.MinInt64: "0 2", math.MaxInt64: "0 2"} {
		trace, code := impl.TraceCounters(endless, impl.Counters{}, n)
		expect(t, show(n, len(trace), code), show(n)+" "+want)
	}
	expect(t, show(impl.TraceCounters(grows, full, 61)), "[] 2")
	expect(t, show(impl.TraceCounters(grows, full, -1)), "[] 2")
}

func TestPromise9FullCounters(t *testing.T) {
	p := programOf(t, "+0>1;+1>0")
	c := countersAt(0, 0, mostCounted-10)
	near := countersAt(1, 11, mostCounted)
	expect(t, show(impl.RunCounters(p, c, 21)), show(near, 21, false, impl.OK))
	expect(t, show(impl.RunCounters(p, c, 22)), noCounters+" 0 false 5")
	expect(t, show(impl.RunCounters(p, c, impl.MaxBudget)), noCounters+" 0 false 5")
	trace, code := impl.TraceCounters(p, c, 21)
	expect(t, show(len(trace), trace[21], code), show(22, near, impl.OK))
	expect(t, show(impl.TraceCounters(p, c, 22)), "[] 5")
	expect(t, show(impl.TraceCounters(p, near, 0)), show([]impl.Counters{near}, impl.OK))
	expect(t, show(impl.TraceCounters(p, near, 1)), "[] 5")
	// A program that halts before a counter is too full, or that adds to no full one, has no error.
	expect(t, show(impl.RunCounters(p, countersAt(2, mostCounted, mostCounted), 5)), show(countersAt(2, mostCounted, mostCounted), 0, true, impl.OK))
	expect(t, show(impl.RunCounters(chainOf(10), countersAt(0, mostCounted-10, mostCounted), 11)), show(countersAt(10, mostCounted, mostCounted), 10, true, impl.OK))
	expect(t, show(impl.RunCounters(chainOf(11), countersAt(0, mostCounted-10, 0), 11)), noCounters+" 0 false 5")
	expect(t, show(impl.RunCounters(programOf(t, "-1>1:2;+1>2"), countersAt(0, 0, mostCounted), 9)), show(countersAt(2, 0, mostCounted), 2, true, impl.OK))
}

func TestPromise9InvalidCounters(t *testing.T) {
	for _, length := range []int64{0, 1, 2, 399, 400} {
		p := chainOf(int(length))
		for _, at := range []int64{-1, length + 1, mostCounted, math.MinInt64, math.MaxInt64} {
			counterCalls.expectInvalid(t, p, countersAt(at, 0, 0))
			counterCalls.expectInvalid(t, p, countersAt(at, mostCounted, mostCounted))
		}
		for _, bad := range outsideValues {
			for _, at := range []int64{0, length} {
				counterCalls.expectInvalid(t, p, countersAt(at, bad, 0))
				counterCalls.expectInvalid(t, p, countersAt(at, 0, bad))
				counterCalls.expectInvalid(t, p, countersAt(at, bad, bad))
			}
		}
		end := countersAt(length, mostCounted, 0)
		expect(t, show(impl.RunCounters(p, end, 1)), show(end, 0, true, impl.OK))
	}
	for _, bad := range badForCounters() {
		counterCalls.expectInvalid(t, bad, impl.Counters{})
		counterCalls.expectInvalid(t, bad, countersAt(int64(len(bad)), 0, 0))
		counterCalls.expectInvalid(t, bad, countersAt(0, mostCounted, mostCounted))
	}
}

func TestPromise9CountersWithoutInstructions(t *testing.T) {
	c := countersAt(0, 4, mostCounted)
	for _, p := range [][]impl.Instr{nil, {}} {
		expect(t, show(impl.IsTwoCounter(p)), "true")
		expect(t, show(impl.StepCounters(p, c)), noCounters+" 6")
		expect(t, show(impl.RunCounters(p, c, 1)), show(c, 0, true, impl.OK))
		expect(t, show(impl.TraceCounters(p, c, 60)), show([]impl.Counters{c}, impl.OK))
	}
}

func TestPromise9CountersTexts(t *testing.T) {
	numbers := []int64{0, 1, 9, 10, 400, 401, 123456789, mostCounted - 1, mostCounted}
	for _, at := range numbers {
		for _, a := range numbers {
			for _, b := range numbers {
				c := countersAt(at, a, b)
				text := impl.CountersText(c)
				expect(t, text, fmt.Sprintf("%d:%d:%d", at, a, b))
				back, ok := impl.ReadCounters(text)
				expect(t, show(back, ok), show(c, true))
			}
			for _, bad := range outsideValues {
				for _, c := range []impl.Counters{countersAt(bad, at, a), countersAt(at, bad, a), countersAt(at, a, bad)} {
					expect(t, show(impl.CountersText(c)), `""`)
					back, ok := impl.ReadCounters(fmt.Sprintf("%d:%d:%d", c.At, c.A, c.B))
					expect(t, show(back, ok), noCounters+" false")
				}
			}
		}
	}
}

func TestPromise9OtherCountersTexts(t *testing.T) {
	bad := []string{
		"", ":", "::", ":::", "0", "0:", "0:0", "0:0:", ":0:0", "0::0", "0:0:0:", ":0:0:0", "0:0:0:0", "0:0::0", "0,0,0", "0:0,0", "0 0 0", "0:0:0\n", " 0:0:0", "0:0:0 ", "0: 0:0", "0 :0:0", "0:0:0;", "(0:0:0)",
		"00:0:0", "0:00:0", "0:0:00", "01:0:0", "0:01:0", "0:0:01", "-0:0:0", "0:-0:0", "0:0:-0", "+1:0:0", "0:+1:0", "0:0:+1", "-1:0:0", "0:-1:0", "0:0:-1", "a:0:0", "0:a:0", "0:0:a", "0x1:0:0", "0:1e3:0", "0:0:1_0", "0:0:1.0",
		"1000000000001:0:0", "0:1000000000001:0", "0:0:1000000000001", "18446744073709551616:0:0", "0:18446744073709551617:0", "0:0:99999999999999999999", "9223372036854775807:0:0", "\uff10:0:0", "0:\uff10:0", "0:0\uff1a0", "0:0:0\x00", "\xff:0:0", "-:-:-",
	}
	for _, s := range bad {
		c, ok := impl.ReadCounters(s)
		expect(t, show(s, c, ok), show(s, impl.Counters{}, false))
	}
	for _, s := range []string{strings.Repeat(":", 100000), strings.Repeat("0:", 100000), "0:0:" + strings.Repeat("0", 100000), strings.Repeat("1", 100000) + ":0:0"} {
		c, ok := impl.ReadCounters(s)
		expect(t, show(c, ok), noCounters+" false")
	}
}
