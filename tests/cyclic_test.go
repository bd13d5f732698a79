package tests

import (
	"math"
	"math/rand"
	"slices"
	"strings"
	"testing"

	"loop.example/g01079/impl"
)

const (
	// noTurn is what a turn looks like beside an error, and noCyclic a cyclic tag system beside false.
	noTurn   = "{0 []}"
	noCyclic = "{[]}"
)

func cyclicOf(t *testing.T, s string) impl.Cyclic {
	t.Helper()
	return mustRead(t, impl.ReadCyclic, s)
}

func cyclicWith(words ...[]int64) impl.Cyclic { return impl.Cyclic{Words: words} }

func turnAt(at int64, queue ...int64) impl.Turn { return impl.Turn{At: at, Word: queue} }

// noBits are letters of no cyclic tag system.
var noBits = []int64{2, -1, 10, math.MinInt64, math.MaxInt64}

// badCyclics returns cyclic tag systems that are not valid, each for another reason.
func badCyclics() []impl.Cyclic {
	all := []impl.Cyclic{
		{}, {Words: [][]int64{}}, cyclicWith(slices.Repeat([][]int64{{1}}, 401)...), cyclicWith(make([][]int64, 401)...), cyclicWith(make([][]int64, 5000)...), cyclicWith(repeat(0, 1001)), cyclicWith(repeat(1, 1001), nil), cyclicWith(nil, repeat(0, 5000)),
	}
	for _, bad := range noBits {
		all = append(all, cyclicWith([]int64{bad}), cyclicWith([]int64{1}, []int64{bad}), cyclicWith([]int64{bad}, nil), cyclicWith([]int64{0, 1, bad, 1}), cyclicWith(nil, []int64{bad, 0}, nil), cyclicWith(append(repeat(1, 999), bad)))
	}
	return all
}

// badTurns returns turns that are not valid for a cyclic tag system with two words.
func badTurns() []impl.Turn {
	all := []impl.Turn{turnAt(0, repeat(0, 1001)...), turnAt(1, repeat(1, 1001)...), turnAt(0, repeat(1, 5000)...)}
	for _, at := range []int64{-1, 2, 3, 400, math.MinInt64, math.MaxInt64} {
		all = append(all, turnAt(at), turnAt(at, 0), turnAt(at, 1, 0), turnAt(at, repeat(0, 1001)...))
	}
	for _, bad := range noBits {
		all = append(all, turnAt(0, bad), turnAt(1, bad), turnAt(0, 0, bad), turnAt(0, bad, 1), turnAt(0, 1, 0, bad, 1), turnAt(1, append(repeat(0, 999), bad)...))
	}
	return all
}

func sampleCyclics() []impl.Cyclic {
	all := []impl.Cyclic{
		cyclicWith(nil), cyclicWith(nil, nil), cyclicWith([]int64{1}), cyclicWith([]int64{1, 1}, []int64{0}), cyclicWith([]int64{0, 1, 1}, nil, []int64{1, 0}), cyclicWith(repeat(1, 1000)), cyclicWith(repeat(1, 602), []int64{1}), cyclicWith(make([][]int64, 400)...),
	}
	return append(all, badCyclics()[:16]...)
}

func sampleTurns() []impl.Turn {
	all := []impl.Turn{
		{}, turnAt(0, 0), turnAt(0, 1), turnAt(1, 1, 0, 1), turnAt(2, 1, 1), turnAt(399, 1), turnAt(400), turnAt(0, repeat(0, 1000)...), turnAt(0, repeat(1, 1000)...), turnAt(1, repeat(1, 1000)...), turnAt(1, repeat(1, 999)...), turnAt(0, repeat(1, 398)...),
	}
	return append(all, badTurns()[:20]...)
}

var cyclicCalls = calls[impl.Cyclic, impl.Turn]{impl.StepCyclic, impl.RunCyclic, impl.TraceCyclic}

// cyclicModel runs a cyclic tag system in the plainest way.
type cyclicModel struct {
	c impl.Cyclic
	x impl.Turn
}

func newCyclicModel(c impl.Cyclic, x impl.Turn) *cyclicModel {
	return &cyclicModel{c, turnAt(x.At, slices.Clone(x.Word)...)}
}

func (m *cyclicModel) config() impl.Turn { return turnAt(m.x.At, slices.Clone(m.x.Word)...) }

func (m *cyclicModel) halts() bool { return len(m.x.Word) == 0 }

func (m *cyclicModel) step() int64 {
	if m.halts() {
		return impl.ErrState
	}
	next := slices.Clone(m.x.Word[1:])
	if m.x.Word[0] == 1 {
		next = append(next, m.c.Words[m.x.At]...)
	}
	if len(next) > mostTagLetters {
		return impl.ErrFull
	}
	m.x.Word = next
	m.x.At++
	if m.x.At == int64(len(m.c.Words)) {
		m.x.At = 0
	}
	return impl.OK
}

// someCyclic returns a cyclic tag system whose words have at most so many letters.
func someCyclic(random *rand.Rand, most int) impl.Cyclic {
	var c impl.Cyclic
	for range 1 + random.Intn(5) {
		c.Words = append(c.Words, someTagWord(random, 2, random.Intn(most+1)))
	}
	return c
}

// forSomeCyclics checks many small cyclic tag systems with a turn of each, whose queue has at least so many letters.
func forSomeCyclics(seed int64, many, least int, check func(random *rand.Rand, c impl.Cyclic, x impl.Turn)) {
	random := rand.New(rand.NewSource(seed))
	for range many {
		c := someCyclic(random, 4)
		at := random.Int63n(int64(len(c.Words)))
		check(random, c, turnAt(at, someTagWord(random, 2, least+random.Intn(9))...))
	}
}

func TestPromise10ValidCyclics(t *testing.T) {
	for i, c := range badCyclics() {
		if impl.ValidCyclic(c) {
			t.Errorf("the cyclic tag system %d is valid: %v", i, c)
		}
		expect(t, show(i, impl.ValidTurn(c, impl.Turn{}), impl.ValidTurn(c, turnAt(0, 1))), show(i, false, false))
	}
	for _, many := range []int{0, 1, 2, 399, 400, 401, 402} {
		c := cyclicWith(slices.Repeat([][]int64{{1, 0}}, many)...)
		expect(t, show(many, impl.ValidCyclic(c)), show(many, many >= 1 && many <= 400))
		for at := int64(-2); at <= int64(many)+2; at++ {
			isIndex := many >= 1 && many <= 400 && at >= 0 && at < int64(many)
			expect(t, show(many, at, impl.ValidTurn(c, turnAt(at)), impl.ValidTurn(c, turnAt(at, 1, 0))), show(many, at, isIndex, isIndex))
		}
	}
	for _, length := range []int{0, 1, 999, 1000, 1001, 1002} {
		for _, letter := range []int64{0, 1} {
			w := repeat(letter, length)
			fits := length <= 1000
			expect(t, show(length, impl.ValidCyclic(cyclicWith(nil, w)), impl.ValidTurn(cyclicWith(nil, nil), turnAt(1, w...))), show(length, fits, fits))
		}
	}
	for _, x := range badTurns() {
		expect(t, show(impl.ValidTurn(cyclicOf(t, "1.1,0"), x)), "false")
	}
	expect(t, show(impl.ValidCyclic(cyclicWith(slices.Repeat([][]int64{repeat(1, 1000)}, 400)...))), "true")
}

func plainCyclicText(c impl.Cyclic) string {
	var words []string
	for _, w := range c.Words {
		words = append(words, plainTagWordText(w))
	}
	return strings.Join(words, ",")
}

func TestPromise10CyclicTexts(t *testing.T) {
	random := rand.New(rand.NewSource(110))
	for range 500 {
		c := someCyclic(random, 6)
		text := impl.CyclicText(c)
		expect(t, text, plainCyclicText(c))
		back, ok := impl.ReadCyclic(text)
		expect(t, show(back, ok), show(c, true))
	}
	for _, c := range []impl.Cyclic{cyclicWith(nil), cyclicWith(nil, nil, nil), cyclicWith([]int64{0}), cyclicWith([]int64{}, []int64{1}), cyclicWith(make([][]int64, 400)...), cyclicWith(slices.Repeat([][]int64{repeat(1, 1000)}, 400)...)} {
		text := impl.CyclicText(c)
		expect(t, text, plainCyclicText(c))
		back, ok := impl.ReadCyclic(text)
		expect(t, show(back, ok), show(c, true))
	}
	for i, bad := range badCyclics() {
		expect(t, show(i, impl.CyclicText(bad)), show(i, ""))
		back, ok := impl.ReadCyclic(plainCyclicText(bad))
		expect(t, show(i, back, ok), show(i, impl.Cyclic{}, false))
	}
	for _, s := range []string{"-", "0", "1", "1.1,0", "-,-", "1.0.1,-,0"} {
		c, ok := impl.ReadCyclic(s)
		expect(t, show(impl.CyclicText(c), ok), show(s, true))
	}
}

func TestPromise10OtherCyclicTexts(t *testing.T) {
	bad := []string{
		"", " ", ".", ",", ":", "--", "-.", ".-", "-.-", "-.0", "0.-", "-,", ",-", "-,,-", "0,", ",0", "0,,1", "0.", ".0", "0..1", "0.1.", "0 1", "0. 1", "0 .1", " 0", "0 ", "0\n", "0, 1", "0 ,1", "01", "00", "11", "0;1", "0|1", "[0]", "10",
		"2", "0.2", "2.0", "1,2", "2,1", "-1", "-0", "+0", "+1", "0x1", "1e0", "a", "0.a", "a.0", "1:0", "1:0:-", "18446744073709551617", "4294967297", "\uff11", "\u2212", "0\uff0c1", "0\x00", "\x00", "\xff", "0.\xff",
	}
	for _, s := range bad {
		c, ok := impl.ReadCyclic(s)
		expect(t, show(s, c, ok), show(s, impl.Cyclic{}, false))
	}
	for _, s := range []string{
		strings.Repeat(",", 100000), strings.Repeat(".", 100000), strings.Repeat("-", 100000), strings.Repeat("0", 100000), strings.Repeat("1.", 1000) + "1", strings.Repeat("1.", 100000) + "1", strings.Repeat("-,", 400) + "-", strings.Repeat("0,", 100000) + "0",
	} {
		c, ok := impl.ReadCyclic(s)
		expect(t, show(c, ok), noCyclic+" false")
	}
}

func TestPromise10SingleCyclicSteps(t *testing.T) {
	for _, c := range []struct {
		words string
		from  impl.Turn
		to    impl.Turn
	}{
		{"1.1,0", turnAt(0, 1, 0), turnAt(1, 0, 1, 1)}, {"1.1,0", turnAt(1, 0, 1, 1), turnAt(0, 1, 1)}, {"1.1,0", turnAt(1, 1), turnAt(0, 0)}, {"1.1,0", turnAt(0, 0), turnAt(1)}, {"1.1,0", turnAt(1, 0), turnAt(0)}, {"1.1,0", turnAt(0, 1), turnAt(1, 1, 1)},
		// Behind the last index comes 0, whatever letter is removed.
		{"1", turnAt(0, 1), turnAt(0, 1)}, {"1", turnAt(0, 0), turnAt(0)}, {"-", turnAt(0, 1, 0), turnAt(0, 0)}, {"0,1,0.1", turnAt(2, 1, 1), turnAt(0, 1, 0, 1)}, {"0,1,0.1", turnAt(2, 0, 1), turnAt(0, 1)}, {"0,1,0.1", turnAt(1, 1), turnAt(2, 1)}, {"0,-,0.1", turnAt(1, 1), turnAt(2)},
	} {
		expect(t, show(c.words, c.from, show(impl.StepCyclic(cyclicOf(t, c.words), c.from))), show(c.words, c.from, show(c.to, impl.OK)))
	}
	most := cyclicWith(slices.Repeat([][]int64{{1, 0}}, 400)...)
	expect(t, show(impl.StepCyclic(most, turnAt(398, 1))), show(turnAt(399, 1, 0), impl.OK))
	expect(t, show(impl.StepCyclic(most, turnAt(399, 1))), show(turnAt(0, 1, 0), impl.OK))
	expect(t, show(impl.StepCyclic(most, turnAt(400, 1))), noTurn+" 1")
}

func TestPromise10EmptyQueues(t *testing.T) {
	for _, s := range []string{"-", "1", "1.1,0", "0,1,-"} {
		c := cyclicOf(t, s)
		for at := range int64(len(c.Words)) {
			x := turnAt(at)
			expect(t, show(impl.ValidTurn(c, x)), "true")
			expect(t, show(impl.StepCyclic(c, x)), noTurn+" 6")
			expect(t, show(impl.RunCyclic(c, x, 1)), show(x, 0, true, impl.OK))
			expect(t, show(impl.RunCyclic(c, x, impl.MaxBudget)), show(x, 0, true, impl.OK))
			expect(t, show(impl.TraceCyclic(c, x, impl.MaxTrace)), show([]impl.Turn{x}, impl.OK))
		}
	}
	// A queue of zeros becomes empty, one letter in each step.
	c := cyclicOf(t, "1.1,0,1")
	expect(t, show(impl.RunCyclic(c, turnAt(1, repeat(0, 1000)...), 1000)), show(turnAt(2), 1000, true, impl.OK))
	expect(t, show(impl.RunCyclic(c, turnAt(1, repeat(0, 1000)...), 999)), show(turnAt(1, 0), 999, false, impl.OK))
	expect(t, show(impl.TraceCyclic(c, turnAt(2, 0), 60)), show([]impl.Turn{turnAt(2, 0), turnAt(0)}, impl.OK))
}

func TestPromise10CyclicsRunAsTheModel(t *testing.T) {
	t.Parallel()
	forSomeCyclics(111, 250, 0, func(_ *rand.Rand, c impl.Cyclic, x impl.Turn) {
		cyclicCalls.expectRuns(t, c, newCyclicModel(c, x))
	})
}

// Near the greatest length, runs come to where the model has no place for more.
func TestPromise10LongQueues(t *testing.T) {
	t.Parallel()
	forSomeCyclics(112, 8, 991, func(_ *rand.Rand, c impl.Cyclic, x impl.Turn) {
		cyclicCalls.expectRuns(t, c, newCyclicModel(c, x))
	})
	full := 0
	forSomeCyclics(113, 500, 991, func(_ *rand.Rand, c impl.Cyclic, x impl.Turn) {
		if cyclicCalls.expectUntilTrouble(t, c, newCyclicModel(c, x), 300) {
			full++
		}
	})
	if full < 100 {
		t.Errorf("only %d runs come to a queue that is too long", full)
	}
}

// In a long run, the letters go past every place at which they may be kept.
func TestPromise10LongCyclicRuns(t *testing.T) {
	for _, s := range []string{"1", "1.0,1.0,0.1", "1.1.0,-,1", "0.1.1,-,1,0.1", "1.0.0.1,0,-"} {
		c := cyclicOf(t, s)
		for _, length := range []int{3, 400, 900, 999, 1000} {
			x := turnAt(0, someTagWord(rand.New(rand.NewSource(114)), 2, length)...)
			cyclicCalls.expectUntilTrouble(t, c, newCyclicModel(c, x), 6000)
		}
	}
}

func TestPromise10CyclicRunsGoOn(t *testing.T) {
	forSomeCyclics(115, 500, 0, func(random *rand.Rand, c impl.Cyclic, x impl.Turn) {
		first, second := 1+random.Int63n(90), 1+random.Int63n(90)
		middle, made, _, code := impl.RunCyclic(c, x, first)
		end, more, halts, again := impl.RunCyclic(c, middle, second)
		expect(t, show(code, again), "0 0")
		expect(t, show(impl.RunCyclic(c, x, first+second)), show(end, made+more, halts, impl.OK))
	})
}

// The queue is counted behind the step, when its first letter is gone.
func TestPromise10FullQueues(t *testing.T) {
	for length := 1; length <= 5; length++ {
		c := cyclicWith(repeat(0, length), nil)
		fits, long := turnAt(0, repeat(1, 1001-length)...), turnAt(0, repeat(1, 1002-length)...)
		next := turnAt(1, append(repeat(1, 1000-length), repeat(0, length)...)...)
		expect(t, show(impl.StepCyclic(c, fits)), show(next, impl.OK))
		expect(t, show(impl.RunCyclic(c, fits, 1)), show(next, 1, false, impl.OK))
		if length == 1 {
			// This one is no queue any more.
			expect(t, show(impl.StepCyclic(c, long)), noTurn+" 1")
			continue
		}
		expect(t, show(impl.StepCyclic(c, long)), noTurn+" 5")
		expect(t, show(impl.RunCyclic(c, long, 1)), noTurn+" 0 false 5")
		expect(t, show(impl.TraceCyclic(c, long, 1)), "[] 5")
		expect(t, show(impl.TraceCyclic(c, long, 0)), show([]impl.Turn{long}, impl.OK))
		// Another index, or the letter 0, adds nothing.
		expect(t, show(impl.StepCyclic(c, turnAt(1, repeat(1, 1000)...))), show(turnAt(0, repeat(1, 999)...), impl.OK))
		expect(t, show(impl.StepCyclic(c, turnAt(0, append([]int64{0}, repeat(1, 999)...)...))), show(turnAt(1, repeat(1, 999)...), impl.OK))
	}
	whole := cyclicWith(repeat(1, 1000))
	expect(t, show(impl.StepCyclic(whole, turnAt(0, 1))), show(turnAt(0, repeat(1, 1000)...), impl.OK))
	expect(t, show(impl.StepCyclic(whole, turnAt(0, 1, 0))), noTurn+" 5")
	expect(t, show(impl.RunCyclic(whole, turnAt(0, 1), 2)), noTurn+" 0 false 5")
	same := cyclicWith([]int64{1})
	expect(t, show(impl.RunCyclic(same, turnAt(0, repeat(1, 1000)...), impl.MaxBudget)), show(turnAt(0, repeat(1, 1000)...), impl.MaxBudget, false, impl.OK))
}

func TestPromise10CyclicBudgets(t *testing.T) {
	grows, same := cyclicOf(t, "1.1"), cyclicOf(t, "1,1")
	expect(t, show(impl.RunCyclic(grows, turnAt(0, 1), 999)), show(turnAt(0, repeat(1, 1000)...), 999, false, impl.OK))
	for _, budget := range []int64{1000, 1001, impl.MaxBudget} {
		expect(t, show(impl.RunCyclic(grows, turnAt(0, 1), budget)), noTurn+" 0 false 5")
	}
	trace, code := impl.TraceCyclic(grows, turnAt(0, repeat(1, 940)...), 60)
	expect(t, show(len(trace), trace[60], code), show(61, turnAt(0, repeat(1, 1000)...), impl.OK))
	expect(t, show(impl.TraceCyclic(grows, turnAt(0, repeat(1, 941)...), 60)), "[] 5")
	x := turnAt(1, 0, 0, 0)
	for budget, want := range map[int64]string{1: "1 false", 2: "2 false", 3: "3 true", 4: "3 true", impl.MaxBudget: "3 true"} {
		_, steps, halts, code := impl.RunCyclic(same, x, budget)
		expect(t, show(budget, steps, halts, code), show(budget)+" "+want+" 0")
	}
	expect(t, show(impl.RunCyclic(same, turnAt(1, 1), impl.MaxBudget-1)), show(turnAt(0, 1), impl.MaxBudget-1, false, impl.OK))
	for _, budget := range []int64{0, -1, impl.MaxBudget + 1, math.MinInt64, math.MaxInt64} {
		for _, x := range []impl.Turn{{}, x, turnAt(0, repeat(1, 1000)...)} {
			expect(t, show(impl.RunCyclic(same, x, budget)), noTurn+" 0 false 2")
		}
		expect(t, show(impl.RunCyclic(grows, turnAt(0, repeat(1, 1000)...), budget)), noTurn+" 0 false 2")
	}
	for n, want := range map[int64]string{-1: "0 2", 0: "1 0", 1: "2 0", 59: "60 0", 60: "61 0", 61: "0 2", math.MinInt64: "0 2", math.MaxInt64: "0 2"} {
		trace, code := impl.TraceCyclic(same, turnAt(0, 1, 1), n)
		expect(t, show(n, len(trace), code), show(n)+" "+want)
	}
	expect(t, show(impl.TraceCyclic(grows, turnAt(0, repeat(1, 1000)...), 61)), "[] 2")
	expect(t, show(impl.TraceCyclic(grows, turnAt(0, repeat(1, 1000)...), -1)), "[] 2")
}

func TestPromise10InvalidCyclics(t *testing.T) {
	for _, c := range badCyclics() {
		for _, x := range []impl.Turn{{}, turnAt(0, 0), turnAt(0, 1, 0), turnAt(1), turnAt(-1, 1), turnAt(0, 2), turnAt(0, repeat(1, 1000)...), turnAt(0, repeat(1, 1001)...)} {
			cyclicCalls.expectInvalid(t, c, x)
		}
	}
	for _, x := range badTurns() {
		for _, s := range []string{"1.1,0", "-,-"} {
			cyclicCalls.expectInvalid(t, cyclicOf(t, s), x)
		}
		cyclicCalls.expectInvalid(t, cyclicWith(repeat(1, 1000), repeat(0, 1000)), x)
	}
}
