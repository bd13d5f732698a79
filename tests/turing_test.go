package tests

import (
	"fmt"
	"math"
	"math/rand"
	"slices"
	"strings"
	"testing"

	"loop.example/g01079/impl"
)

func machineOf(t *testing.T, s string) impl.Machine {
	t.Helper()
	return mustRead(t, impl.ReadMachine, s)
}

func rule(write, move, next int64) impl.Rule {
	return impl.Rule{Write: write, Move: move, Next: next}
}

const busy = "1R1,1L1;1L0,---"

func busyMachine() impl.Machine {
	return impl.Machine{Symbols: 2, States: 2, Rules: []impl.Rule{rule(1, 1, 1), rule(1, -1, 1), rule(1, -1, 0), rule(0, 0, -1)}}
}

var sampleRules = []impl.Rule{
	rule(0, 0, -1), rule(0, 1, 0), rule(1, -1, 1), rule(1, 1, 2), rule(2, 1, 0), rule(-1, 1, 0), rule(0, 0, 0), rule(0, 2, 0), rule(1, 0, -1), rule(0, 1, -1),
	rule(math.MinInt64, math.MinInt64, math.MinInt64), rule(math.MaxInt64, math.MaxInt64, math.MaxInt64),
}

// sampleMachines returns valid machines, and one that is not valid for each reason.
func sampleMachines() []impl.Machine {
	var all []impl.Machine
	for _, s := range []string{busy, "---,---", "1R0,0L0", "0R1,---;1L0,---;1R2,0R0", "2R1,0L0,---;---,1R0,2L1"} {
		m, _ := impl.ReadMachine(s)
		all = append(all, m)
	}
	return append(all, badMachines()...)
}

// badMachines returns machines that are not valid, each for another reason.
func badMachines() []impl.Machine {
	all := []impl.Machine{
		{}, {Symbols: 2, States: 1}, {Symbols: 2}, {States: 2}, {Symbols: 2, States: -1}, {Symbols: -2, States: -1, Rules: noRules(2)},
		{Symbols: 1, States: 2, Rules: noRules(2)}, {Symbols: 7, States: 1, Rules: noRules(7)}, {Symbols: 2, States: 0, Rules: noRules(0)},
		{Symbols: 2, States: 1, Rules: noRules(1)}, {Symbols: 2, States: 1, Rules: noRules(3)}, {Symbols: 0, States: 0},
		{Symbols: 2, States: math.MaxInt64, Rules: noRules(2)}, {Symbols: math.MinInt64, States: math.MinInt64},
		// The product of these is 4, as it wraps around.
		{Symbols: 2, States: math.MinInt64 + 2, Rules: noRules(4)},
	}
	for _, r := range sampleRules {
		m := busyMachine()
		m.Rules[1] = r
		if r != rule(0, 0, -1) && r != rule(0, 1, 0) && r != rule(1, -1, 1) {
			all = append(all, m)
		}
	}
	return all
}

func noRules(many int) []impl.Rule { return slices.Repeat([]impl.Rule{rule(0, 0, -1)}, many) }

var sampleConfigs = []impl.Config{
	{}, {State: 1}, {State: 2}, {State: -1}, {State: math.MinInt64}, {State: math.MaxInt64}, {Left: []int64{1}}, {Right: []int64{1}},
	{State: 1, Left: []int64{0, 1}, Right: []int64{0, 0, 1}}, {Left: []int64{0}}, {Right: []int64{0}}, {Left: []int64{1, 0}}, {Right: []int64{1, 0}},
	{Left: []int64{2}}, {Right: []int64{2}}, {Left: []int64{-1}}, {Right: []int64{-1}}, {Left: []int64{math.MaxInt64}}, {Right: []int64{math.MinInt64}},
	{Left: repeat(1, 200), Right: repeat(1, 200)}, {Left: repeat(1, 201)}, {Right: repeat(1, 201)}, {State: 1, Right: repeat(1, 200)},
}

// randomMachine returns a valid machine, of whose rules about one in so many is missing.
func randomMachine(random *rand.Rand, symbols, states int64, missing int) impl.Machine {
	m := impl.Machine{Symbols: symbols, States: states}
	for range symbols * states {
		r := rule(0, 0, -1)
		if random.Intn(missing) > 0 {
			r = rule(random.Int63n(symbols), 2*random.Int63n(2)-1, random.Int63n(states))
		}
		m.Rules = append(m.Rules, r)
	}
	return m
}

// someMachine returns a small machine for a test with many of them.
func someMachine(random *rand.Rand) impl.Machine {
	return randomMachine(random, 2+random.Int63n(5), 1+random.Int63n(5), 2+random.Intn(12))
}

// someConfig returns a configuration of a machine with a short tape.
func someConfig(random *rand.Rand, m impl.Machine) impl.Config {
	return impl.Config{State: random.Int63n(m.States), Left: someSide(random, m), Right: someSide(random, m)}
}

// forSome checks many small machines with a configuration of each.
func forSome(seed int64, many int, check func(random *rand.Rand, m impl.Machine, c impl.Config)) {
	random := rand.New(rand.NewSource(seed))
	for range many {
		m := someMachine(random)
		check(random, m, someConfig(random, m))
	}
}

func someSide(random *rand.Rand, m impl.Machine) []int64 {
	var side []int64
	for range random.Intn(6) {
		side = append(side, random.Int63n(m.Symbols))
	}
	return withoutBlanks(side)
}

func withoutBlanks(side []int64) []int64 {
	for len(side) > 0 && side[len(side)-1] == 0 {
		side = side[:len(side)-1]
	}
	return side
}

var machineCalls = calls[impl.Machine, impl.Config]{impl.StepMachine, impl.RunMachine, impl.TraceMachine}

// model runs a machine on a long list of cells, in the plainest way.
type model struct {
	m     impl.Machine
	state int64
	cells []int64
	head  int
}

func newModel(m impl.Machine, c impl.Config) *model {
	const middle = 1000
	x := &model{m: m, state: c.State, cells: make([]int64, 2*middle), head: middle}
	for i, symbol := range c.Left {
		x.cells[middle-1-i] = symbol
	}
	copy(x.cells[middle:], c.Right)
	return x
}

func (x *model) config() impl.Config {
	left := slices.Clone(x.cells[:x.head])
	slices.Reverse(left)
	return impl.Config{State: x.state, Left: withoutBlanks(left), Right: withoutBlanks(slices.Clone(x.cells[x.head:]))}
}

func (x *model) place() int64 { return x.state*x.m.Symbols + x.cells[x.head] }

func (x *model) step() int64 {
	r := x.m.Rules[x.place()]
	if r.Move == 0 {
		return impl.ErrState
	}
	x.cells[x.head] = r.Write
	x.head += int(r.Move)
	x.state = r.Next
	if c := x.config(); len(c.Left) > impl.MaxCells || len(c.Right) > impl.MaxCells {
		return impl.ErrFull
	}
	return impl.OK
}

func TestPromise6Example(t *testing.T) {
	m := machineOf(t, busy)
	end, steps, halts, code := impl.RunMachine(m, impl.Config{}, 100)
	expect(t, show(impl.ConfigText(m, end), steps, halts, code), `"1(1)111" 5 true 0`)
	expect(t, show(m), show(busyMachine()))
	expect(t, show(impl.MachineText(busyMachine())), show(busy))
	trace, code := impl.TraceMachine(m, impl.Config{}, impl.MaxTrace)
	var texts []string
	for _, c := range trace {
		texts = append(texts, impl.ConfigText(m, c))
	}
	expect(t, show(texts, code), `["(0)" "1(1)" "(0)11" "(1)011" "(0)0111" "1(1)111"] 0`)
}

func TestPromise6ValidMachines(t *testing.T) {
	for i, m := range badMachines() {
		if impl.ValidMachine(m) {
			t.Errorf("the machine %d is valid: %v", i, m)
		}
	}
	for symbols := int64(2); symbols <= impl.MaxSymbols; symbols++ {
		for _, states := range []int64{1, 2, 3, 999, 1000} {
			m := impl.Machine{Symbols: symbols, States: states, Rules: noRules(int(symbols * states))}
			last := len(m.Rules) - 1
			for _, r := range []impl.Rule{rule(0, 0, -1), rule(0, -1, 0), rule(symbols-1, 1, states-1)} {
				m.Rules[last] = r
				expect(t, show(symbols, states, r, impl.ValidMachine(m)), show(symbols, states, r, true))
			}
			for _, r := range []impl.Rule{rule(symbols, 1, 0), rule(0, 1, states), rule(0, 0, 0), rule(1, 0, -1), rule(0, 1, -1), rule(0, 0, -2), rule(-1, 1, 0)} {
				m.Rules[last] = r
				expect(t, show(symbols, states, r, impl.ValidMachine(m)), show(symbols, states, r, false))
			}
		}
	}
	for _, states := range []int64{1001, 2000} {
		expect(t, show(impl.ValidMachine(impl.Machine{Symbols: 2, States: states, Rules: noRules(int(2 * states))})), "false")
	}
}

func TestPromise6SameMachines(t *testing.T) {
	all := append(sampleMachines(), impl.Machine{Symbols: 2, States: 2, Rules: busyMachine().Rules[:3]})
	for i, a := range all {
		for k, b := range all {
			b.Rules = slices.Clone(b.Rules)
			want := a.Symbols == b.Symbols && a.States == b.States && fmt.Sprint(a.Rules) == fmt.Sprint(b.Rules)
			if impl.SameMachine(a, b) != want || i == k && !want {
				t.Errorf("%v and %v: the same is not %v", a, b, want)
			}
		}
	}
	expect(t, show(impl.SameMachine(impl.Machine{}, impl.Machine{Rules: []impl.Rule{}})), "true")
	for _, change := range []impl.Rule{rule(1, 1, 0), rule(1, -1, 1), rule(0, 1, 1)} {
		m := busyMachine()
		m.Rules[0] = change
		expect(t, show(impl.SameMachine(m, busyMachine())), "false")
	}
}

func TestPromise6MachineTexts(t *testing.T) {
	random := rand.New(rand.NewSource(60))
	for range 500 {
		m := someMachine(random)
		back, ok := impl.ReadMachine(impl.MachineText(m))
		expect(t, show(back, ok), show(m, true))
	}
	for _, m := range badMachines() {
		expect(t, show(impl.MachineText(m)), `""`)
	}
	great := randomMachine(random, impl.MaxSymbols, impl.MaxStates, 20)
	great.Rules[0] = rule(5, 1, 999)
	text := impl.MachineText(great)
	if !strings.HasPrefix(text, "5R999,") || strings.Count(text, ";") != 999 {
		t.Errorf("a great machine has the text %.80s", text)
	}
	back, ok := impl.ReadMachine(text)
	if !ok || !impl.SameMachine(back, great) {
		t.Error("a great machine is not read back")
	}
}

func TestPromise6OtherMachineTexts(t *testing.T) {
	state := "0R0,---"
	bad := []string{
		"", "-", "---", "--", "----", "---,---;", ";---,---", "---,---;;---,---", "---,---,", ",---,---", "---,,---", "0R0", "0R0;0R0",
		"---,---;---", "---;---,---", "---,---;---,---,---", "---,---,---;---", "---,---,---,---;---,---;---,---",
		"0R1,---", "2R0,---", "0R-1,---", "-1R0,---", "0r0,---", "0S0,---", "00R0,---", "0R00,---", "+0R0,---", "0R+0,---", "R0,---", "0R,---",
		"0RR0,---", "0LR0,---", "0R0L,---", "0R0 ,---", " 0R0,---", "0R0,--- ", "0R0,---\n", "0R0, ---", "0R0.---", "0R0,0", "00,---", "0-0,---",
		"10R0,---", "0R1000,---", "0R9999999999999999999,---", "18446744073709551616R0,---", "\uff10R0,---", "0R0,---\x00", "1R1,1L1;1L0,-",
		"---,---,---,---,---,---,---", strings.TrimSuffix(strings.Repeat(state+";", 1001), ";"), strings.Repeat(";", 100000), strings.Repeat(",", 100000),
	}
	for _, s := range bad {
		if m, ok := impl.ReadMachine(s); ok || m.Symbols != 0 || m.States != 0 || len(m.Rules) > 0 {
			t.Errorf("%.40q is read: %v", s, m)
		}
	}
	good := []string{
		"---,---", "0R0,---", "0L0,1R0", "---,---,---,---,---,---", "---,---,5R0,---,4L0,---", "0R1,---;---,1L1",
		strings.TrimSuffix(strings.Repeat(state+";", 1000), ";"),
	}
	for _, s := range good {
		if m, ok := impl.ReadMachine(s); !ok || impl.MachineText(m) != s {
			t.Errorf("%.40q is not read", s)
		}
	}
}

func TestPromise6FreeRules(t *testing.T) {
	expect(t, show(impl.FreeRules(machineOf(t, "---,---"))), "[0 1] 0")
	expect(t, show(impl.FreeRules(machineOf(t, "1R1,1L1;1L0,0R0"))), "[] 0")
	expect(t, show(impl.FreeRules(machineOf(t, busy))), "[3] 0")
	expect(t, show(impl.FreeRules(machineOf(t, "---,1L1,---;1L0,0R0,---"))), "[0 2 5] 0")
	for _, m := range badMachines() {
		expect(t, show(impl.FreeRules(m)), "[] 1")
	}
	all, code := impl.FreeRules(impl.Machine{Symbols: 6, States: 1000, Rules: noRules(6000)})
	expect(t, show(len(all), all[5999], code), "6000 5999 0")
}

func TestPromise6SetRule(t *testing.T) {
	m := busyMachine()
	for at := range int64(4) {
		for _, r := range sampleRules {
			want := busyMachine()
			want.Rules[at] = r
			got, code := impl.SetRule(m, at, r)
			if impl.ValidMachine(want) {
				expect(t, show(got, code), show(want, impl.OK))
			} else {
				expect(t, show(got, code), "{0 0 []} 7")
			}
		}
	}
	for _, at := range []int64{-1, 4, math.MinInt64, math.MaxInt64} {
		expect(t, show(impl.SetRule(m, at, rule(0, 0, -1))), "{0 0 []} 2")
		expect(t, show(impl.SetRule(m, at, rule(9, 0, 0))), "{0 0 []} 2")
	}
	for _, bad := range badMachines() {
		expect(t, show(impl.SetRule(bad, 0, rule(0, 0, -1))), "{0 0 []} 1")
		expect(t, show(impl.SetRule(bad, -1, rule(9, 0, 0))), "{0 0 []} 1")
	}
}

func TestPromise6ValidConfigs(t *testing.T) {
	m := machineOf(t, busy)
	for i, c := range sampleConfigs {
		want := slices.Contains([]int{0, 1, 6, 7, 8, 19, 22}, i)
		if impl.ValidConfig(m, c) != want {
			t.Errorf("that %v is a configuration is not %v", c, want)
		}
	}
	for _, bad := range badMachines() {
		expect(t, show(impl.ValidConfig(bad, impl.Config{})), "false")
	}
	wide := impl.Machine{Symbols: 6, States: 1000, Rules: noRules(6000)}
	for _, c := range []impl.Config{{State: 999, Left: repeat(5, 200), Right: repeat(5, 200)}, {Left: append(repeat(0, 199), 1)}, {Right: append(repeat(0, 199), 5)}} {
		expect(t, show(impl.ValidConfig(wide, c)), "true")
	}
	for _, c := range []impl.Config{{State: 1000}, {Left: []int64{6}}, {Right: []int64{6}}, {Left: append(repeat(0, 200), 1)}, {Right: append(repeat(0, 200), 1)}, {Left: repeat(0, 200)}} {
		expect(t, show(impl.ValidConfig(wide, c)), "false")
	}
}

func TestPromise6StartConfig(t *testing.T) {
	m := machineOf(t, "---,---,---;0R0,---,---")
	for word, text := range map[string]string{"-": "(0)", "0": "(0)", "000": "(0)", "012": "(0)012", "0120": "(0)012", "002000": "(0)002"} {
		w, _ := impl.ReadWord(word)
		c, code := impl.StartConfig(m, w)
		expect(t, show(impl.ConfigText(m, c), code), show(text, impl.OK))
	}
	full := append(repeat(1, 200), repeat(0, 200)...)
	expect(t, show(impl.StartConfig(m, full)), show(impl.Config{Right: repeat(1, 200)}, impl.OK))
	expect(t, show(impl.StartConfig(m, repeat(0, 400))), "{0 [] []} 0")
	expect(t, show(impl.StartConfig(m, append(repeat(0, 200), 2))), "{0 [] []} 5")
	expect(t, show(impl.StartConfig(m, repeat(1, 400))), "{0 [] []} 5")
	expect(t, show(impl.StartConfig(m, []int64{3})), "{0 [] []} 2")
	expect(t, show(impl.StartConfig(m, append(repeat(1, 399), 9))), "{0 [] []} 2")
	for _, w := range notWords {
		expect(t, show(impl.StartConfig(m, w)), "{0 [] []} 1")
	}
	expect(t, show(impl.StartConfig(m, append(repeat(5, 400), 0))), "{0 [] []} 1")
	for _, bad := range badMachines() {
		expect(t, show(impl.StartConfig(bad, []int64{5})), "{0 [] []} 1")
	}
}

func TestPromise6ConfigTexts(t *testing.T) {
	forSome(61, 1000, func(_ *rand.Rand, m impl.Machine, c impl.Config) {
		back, ok := impl.ReadConfig(m, impl.ConfigText(m, c))
		expect(t, show(back, ok), show(c, true))
		digits := show(impl.CellsOf(m, c))
		cells, head := slices.Clone(c.Left), len(c.Left)
		slices.Reverse(cells)
		cells = append(cells, c.Right...)
		if len(c.Right) == 0 {
			cells = append(cells, 0)
		}
		expect(t, digits, show(cells, head, impl.OK))
	})
	m := impl.Machine{Symbols: 6, States: 1000, Rules: noRules(6000)}
	c := impl.Config{State: 987, Left: []int64{1, 0, 2}, Right: []int64{3, 4, 0, 5}}
	expect(t, show(impl.ConfigText(m, c)), `"201(987)3405"`)
	expect(t, show(impl.CellsOf(m, c)), "[2 0 1 3 4 0 5] 3 0")
	expect(t, show(impl.ConfigText(m, impl.Config{Left: []int64{0, 2}})), `"20(0)"`)
	expect(t, show(impl.CellsOf(m, impl.Config{Left: []int64{0, 2}})), "[2 0 0] 2 0")
	expect(t, show(impl.CellsOf(m, impl.Config{})), "[0] 0 0")
	full := impl.Config{Left: repeat(1, 200), Right: repeat(2, 200)}
	text := strings.Repeat("1", 200) + "(0)" + strings.Repeat("2", 200)
	expect(t, show(impl.ConfigText(m, full)), show(text))
	back, ok := impl.ReadConfig(m, text)
	expect(t, show(back, ok), show(full, true))
	for _, s := range []string{"1" + text, text + "2"} {
		back, ok := impl.ReadConfig(m, s)
		expect(t, show(back, ok), "{0 [] []} false")
	}
}

func TestPromise6OtherConfigs(t *testing.T) {
	m := machineOf(t, busy)
	bad := []string{
		"", "0", "()", "(", ")", "(0", "0)", ")0(", "(0)(0)", "((0))", "(0))", "(2)", "(-1)", "(-0)", "(00)", "(01)", "(+1)", "( 0)", "(0) ", " (0)", "(x)",
		"(0)2", "2(0)", "0(0)", "01(0)", "(0)0", "(0)10", "00(0)00", "(0)1-", "-(0)", "(0)-", "(0)a", "1,1(0)", "(0)1,1", "(18446744073709551616)", "(0)\n",
		"\uff11(0)", "(0)\uff11", "(\uff10)", "1(0)1(", "1(0)1)", "1 (0)", "\x00(0)",
	}
	for _, s := range bad {
		c, ok := impl.ReadConfig(m, s)
		expect(t, s+show(c, ok), s+"{0 [] []} false")
	}
	for _, s := range []string{"(0)", "(1)", "1(0)", "(1)1", "10(0)01", "1(1)111"} {
		c, ok := impl.ReadConfig(m, s)
		expect(t, show(impl.ConfigText(m, c), ok), show(s, true))
	}
	for _, c := range sampleConfigs {
		if impl.ValidConfig(m, c) {
			continue
		}
		expect(t, show(impl.ConfigText(m, c)), `""`)
		expect(t, show(impl.CellsOf(m, c)), "[] 0 1")
	}
	for _, x := range badMachines() {
		c, ok := impl.ReadConfig(x, "(0)")
		expect(t, show(c, ok), "{0 [] []} false")
		expect(t, show(impl.ConfigText(x, impl.Config{})), `""`)
		expect(t, show(impl.CellsOf(x, impl.Config{})), "[] 0 1")
	}
}

func TestPromise6StepsAreThoseOfTheModel(t *testing.T) {
	t.Parallel()
	forSome(62, 2000, func(_ *rand.Rand, m impl.Machine, c impl.Config) {
		x := newModel(m, c)
		for range 40 {
			code := x.step()
			next, got := impl.StepMachine(m, c)
			if code != impl.OK {
				expect(t, show(next, got), show(impl.Config{}, code))
				break
			}
			expect(t, show(next, got), show(x.config(), code))
			c = next
		}
	})
}

// Runs of each length up to one that is too long are compared with the model: where they end, what they use, and what is on the way.
func TestPromise6RunsAreThoseOfTheModel(t *testing.T) {
	t.Parallel()
	forSome(63, 300, func(_ *rand.Rand, m impl.Machine, c impl.Config) {
		x := newModel(m, c)
		trace, used := []impl.Config{x.config()}, map[int64]bool{}
		for budget := int64(1); budget <= impl.MaxTrace; budget++ {
			place := x.place()
			code := x.step()
			if code == impl.OK {
				used[place] = true
				trace = append(trace, x.config())
			}
			halts := m.Rules[x.place()].Move == 0
			expect(t, show(impl.RunMachine(m, c, budget)), show(x.config(), len(trace)-1, halts, impl.OK))
			expect(t, show(impl.TraceMachine(m, c, budget)), show(trace, impl.OK))
			expect(t, show(impl.UsedRules(m, c, budget)), show(keysOf(used), impl.OK))
		}
	})
}

func keysOf(set map[int64]bool) []int64 {
	var keys []int64
	for key := range set {
		keys = append(keys, key)
	}
	slices.Sort(keys)
	return keys
}

func TestPromise6RunsGoOn(t *testing.T) {
	forSome(64, 1500, func(random *rand.Rand, m impl.Machine, c impl.Config) {
		first, second := 1+random.Int63n(90), 1+random.Int63n(90)
		middle, made, _, code := impl.RunMachine(m, c, first)
		if code != impl.OK {
			t.Fatalf("%v from %v: %d", m, c, code)
		}
		end, more, halts, code := impl.RunMachine(m, middle, second)
		expect(t, show(impl.RunMachine(m, c, first+second)), show(end, made+more, halts, code))
		before, _ := impl.UsedRules(m, c, first)
		behind, _ := impl.UsedRules(m, middle, second)
		both := slices.Compact(impl.SortList(append(before, behind...)))
		expect(t, show(impl.UsedRules(m, c, first+second)), show(both, impl.OK))
	})
}

func TestPromise6Budgets(t *testing.T) {
	m := machineOf(t, busy)
	expect(t, show(impl.RunMachine(m, impl.Config{}, 4)), "{0 [] [0 1 1 1]} 4 false 0")
	expect(t, show(impl.RunMachine(m, impl.Config{}, 5)), "{1 [1] [1 1 1]} 5 true 0")
	expect(t, show(impl.RunMachine(m, impl.Config{}, 6)), "{1 [1] [1 1 1]} 5 true 0")
	expect(t, show(impl.UsedRules(m, impl.Config{}, 1)), "[0] 0")
	expect(t, show(impl.UsedRules(m, impl.Config{}, impl.MaxBudget)), "[0 1 2] 0")
	still := impl.Config{State: 1, Left: []int64{1}, Right: []int64{1}}
	expect(t, show(impl.RunMachine(m, still, 1)), show(still, 0, true, 0))
	expect(t, show(impl.UsedRules(m, still, 1)), "[] 0")
	expect(t, show(impl.StepMachine(m, still)), "{0 [] []} 6")
	expect(t, show(impl.TraceMachine(m, still, 9)), show([]impl.Config{still}, 0))

	walks := machineOf(t, "0R0,---")
	expect(t, show(impl.RunMachine(walks, impl.Config{}, impl.MaxBudget)), "{0 [] []} 20000 false 0")
	for _, budget := range []int64{0, -1, impl.MaxBudget + 1, math.MinInt64, math.MaxInt64} {
		for _, c := range []impl.Config{{}, {Right: []int64{1}}} {
			expect(t, show(impl.RunMachine(walks, c, budget)), "{0 [] []} 0 false 2")
			expect(t, show(impl.UsedRules(walks, c, budget)), "[] 2")
		}
		expect(t, show(impl.RunMachine(walks, impl.Config{State: 1}, budget)), "{0 [] []} 0 false 1")
		expect(t, show(impl.UsedRules(walks, impl.Config{State: 1}, budget)), "[] 1")
	}
	for n, length := range map[int64]int{0: 1, 1: 2, 59: 60, 60: 61} {
		trace, code := impl.TraceMachine(walks, impl.Config{}, n)
		expect(t, show(n, len(trace), code), show(n, length, impl.OK))
	}
	for _, n := range []int64{-1, 61, math.MinInt64, math.MaxInt64} {
		expect(t, show(impl.TraceMachine(walks, impl.Config{}, n)), "[] 2")
		expect(t, show(impl.TraceMachine(walks, impl.Config{State: 1}, n)), "[] 1")
	}
}

func TestPromise6FullTapes(t *testing.T) {
	right, left := machineOf(t, "1R0,1R0"), machineOf(t, "1L0,1L0")
	expect(t, show(impl.RunMachine(right, impl.Config{}, 200)), show(impl.Config{Left: repeat(1, 200)}, 200, false, 0))
	expect(t, show(impl.RunMachine(right, impl.Config{}, 201)), "{0 [] []} 0 false 5")
	expect(t, show(impl.RunMachine(right, impl.Config{Right: repeat(1, 200)}, 201)), "{0 [] []} 0 false 5")
	expect(t, show(impl.RunMachine(left, impl.Config{}, 199)), show(impl.Config{Right: append([]int64{0}, repeat(1, 199)...)}, 199, false, 0))
	expect(t, show(impl.RunMachine(left, impl.Config{}, 200)), "{0 [] []} 0 false 5")
	expect(t, show(impl.UsedRules(left, impl.Config{}, 199)), "[0] 0")
	expect(t, show(impl.UsedRules(left, impl.Config{}, 200)), "[] 5")
	near := impl.Config{Left: repeat(1, 190)}
	expect(t, show(impl.TraceMachine(right, near, 11)), "[] 5")
	trace, code := impl.TraceMachine(right, near, 10)
	expect(t, show(len(trace), code), "11 0")

	// The cells are counted up to the last one that is not blank, wherever the head has been.
	away, home := machineOf(t, "0R0,0R0"), machineOf(t, "0L0,0L0")
	marked := impl.Config{Left: []int64{1}}
	expect(t, show(impl.RunMachine(away, marked, 199)), show(impl.Config{Left: append(repeat(0, 199), 1)}, 199, false, 0))
	expect(t, show(impl.RunMachine(away, marked, 200)), "{0 [] []} 0 false 5")
	expect(t, show(impl.RunMachine(home, impl.Config{Right: []int64{0, 1}}, 198)), show(impl.Config{Right: append(repeat(0, 199), 1)}, 198, false, 0))
	expect(t, show(impl.RunMachine(home, impl.Config{Right: []int64{0, 1}}, 199)), "{0 [] []} 0 false 5")
	expect(t, show(impl.RunMachine(away, impl.Config{Right: repeat(1, 200)}, 1000)), "{0 [] []} 1000 false 0")
	expect(t, show(impl.RunMachine(home, impl.Config{Left: repeat(1, 200), Right: []int64{1}}, impl.MaxBudget)), "{0 [] []} 20000 false 0")
	full := impl.Config{Left: repeat(1, 200), Right: repeat(1, 200)}
	for _, m := range []impl.Machine{right, left, away, home} {
		expect(t, show(impl.StepMachine(m, full)), "{0 [] []} 5")
	}
	expect(t, show(impl.StepMachine(machineOf(t, "0R0,---"), full)), "{0 [] []} 6")
	expect(t, show(impl.StepMachine(home, impl.Config{Left: repeat(1, 200), Right: []int64{1}})), show(impl.Config{Left: repeat(1, 199), Right: []int64{1}}, 0))
	expect(t, show(impl.StepMachine(home, impl.Config{Right: append([]int64{1}, repeat(1, 199)...)})), "{0 [] []} 5")
}

// Near the greatest number of cells, also those count that have become blank again.
func TestPromise6NearlyFullTapes(t *testing.T) {
	t.Parallel()
	random := rand.New(rand.NewSource(69))
	for range 300 {
		m := randomMachine(random, 2+random.Int63n(2), 2+random.Int63n(3), 40)
		x := newModel(m, impl.Config{Left: nearlyFull(random, m), Right: nearlyFull(random, m)})
		machineCalls.expectUntilTrouble(t, m, x, 300)
	}
}

func nearlyFull(random *rand.Rand, m impl.Machine) []int64 {
	side := repeat(0, 190+random.Intn(11))
	for range random.Intn(30) {
		side[random.Intn(len(side))] = random.Int63n(m.Symbols)
	}
	side[len(side)-1] = 1
	if random.Intn(4) == 0 {
		return nil
	}
	return side
}

// What has been left behind and cleared does not count, however far away it is.
func TestPromise6ClearedTapes(t *testing.T) {
	carry := machineOf(t, "---,0R1;1R2,---;0L0,---")
	back, _ := impl.MirrorMachine(carry)
	one := impl.Config{Right: []int64{1}}
	expect(t, show(impl.RunMachine(carry, one, impl.MaxBudget)), "{2 [1] []} 20000 false 0")
	expect(t, show(impl.RunMachine(back, one, impl.MaxBudget)), "{2 [] [0 1]} 20000 false 0")
}

func TestPromise6RenamedStates(t *testing.T) {
	random := rand.New(rand.NewSource(65))
	for range 500 {
		m := someMachine(random)
		order := somePermutation(random, m.States)
		renamed, code := impl.RenameStates(m, order)
		if code != impl.OK || !impl.ValidMachine(renamed) || renamed.States != m.States || renamed.Symbols != m.Symbols {
			t.Fatalf("%v with %v: %v %d", m, order, renamed, code)
		}
		c := someConfig(random, m)
		rename := func(c impl.Config) impl.Config {
			c.State = order[c.State]
			return c
		}
		expectSameRuns(t, m, renamed, c, rename)
		back, _ := impl.RenameStates(renamed, inverse(order))
		expect(t, show(back), show(m))
	}
	m := machineOf(t, "0R1,---;1L2,0R0;---,1R1")
	expect(t, show(renamedText(m, []int64{2, 0, 1})), show("1L1,0R2;---,1R0;0R0,---"))
	great := randomMachine(random, 6, 1000, 9)
	turned := make([]int64, 1000)
	for i := range turned {
		turned[i] = int64(999 - i)
	}
	once, _ := impl.RenameStates(great, turned)
	twice, code := impl.RenameStates(once, turned)
	expect(t, show(impl.SameMachine(once, great), impl.SameMachine(twice, great), code), "false true 0")
}

func renamedText(m impl.Machine, order []int64) string {
	renamed, _ := impl.RenameStates(m, order)
	return impl.MachineText(renamed)
}

func somePermutation(random *rand.Rand, many int64) []int64 {
	var order []int64
	for _, k := range random.Perm(int(many)) {
		order = append(order, int64(k))
	}
	return order
}

func inverse(order []int64) []int64 {
	places := make([]int64, len(order))
	for i, k := range order {
		places[k] = int64(i)
	}
	return places
}

// expectSameRuns compares the run of m from c with that of a changed machine, in which the configurations have another form.
func expectSameRuns(t *testing.T, m, changed impl.Machine, c impl.Config, form func(impl.Config) impl.Config) {
	t.Helper()
	machineCalls.expectSame(t, m, changed, c, form)
}

func TestPromise6SwappedSymbols(t *testing.T) {
	random := rand.New(rand.NewSource(66))
	for range 500 {
		m := someMachine(random)
		order := []int64{0}
		for _, k := range somePermutation(random, m.Symbols-1) {
			order = append(order, k+1)
		}
		swapped, code := impl.SwapSymbols(m, order)
		if code != impl.OK || !impl.ValidMachine(swapped) || swapped.States != m.States || swapped.Symbols != m.Symbols {
			t.Fatalf("%v with %v: %v %d", m, order, swapped, code)
		}
		swap := func(c impl.Config) impl.Config {
			return impl.Config{State: c.State, Left: through(order, c.Left), Right: through(order, c.Right)}
		}
		expectSameRuns(t, m, swapped, someConfig(random, m), swap)
		back, _ := impl.SwapSymbols(swapped, inverse(order))
		expect(t, show(back), show(m))
	}
	m := machineOf(t, "1R1,0L0,---,2L1;---,3R0,1L1,0R0")
	swapped, _ := impl.SwapSymbols(m, []int64{0, 2, 3, 1})
	expect(t, show(impl.MachineText(swapped)), show("2R1,3L1,0L0,---;---,0R0,1R0,2L1"))
}

func through(order, list []int64) []int64 {
	var changed []int64
	for _, k := range list {
		changed = append(changed, order[k])
	}
	return changed
}

func TestPromise6OtherOrders(t *testing.T) {
	m := machineOf(t, "1R1,0L0,---;---,2R2,1L1;0R0,---,---")
	nothing := "{0 0 []} 2"
	for _, order := range [][]int64{
		nil, {0}, {0, 1}, {0, 1, 2, 3}, {0, 1, 1}, {0, 0, 1}, {2, 2, 2}, {0, 1, 3}, {1, 2, 3}, {-1, 0, 1}, {0, 1, math.MaxInt64}, {0, 1, math.MinInt64},
		{0, 1, 2, 0}, {0, 1, 2, 2}, repeat(0, 1000), {0, 2, 0}, {0, 2, -1},
	} {
		expect(t, show(impl.RenameStates(m, order)), nothing)
		expect(t, show(impl.SwapSymbols(m, order)), nothing)
	}
	for _, order := range [][]int64{{1, 0, 2}, {2, 1, 0}, {1, 2, 0}} {
		expect(t, show(impl.SwapSymbols(m, order)), nothing)
	}
	for _, bad := range badMachines() {
		expect(t, show(impl.RenameStates(bad, nil)), "{0 0 []} 1")
		expect(t, show(impl.SwapSymbols(bad, []int64{1, 0})), "{0 0 []} 1")
	}
	for _, order := range [][]int64{{0, 1, 2}, {0, 2, 1}} {
		_, states := impl.RenameStates(m, order)
		_, symbols := impl.SwapSymbols(m, order)
		expect(t, show(states, symbols), "0 0")
	}
}

func TestPromise6Mirrors(t *testing.T) {
	random := rand.New(rand.NewSource(67))
	for range 500 {
		m := someMachine(random)
		mirror, code := impl.MirrorMachine(m)
		if code != impl.OK || !impl.ValidMachine(mirror) {
			t.Fatalf("%v: %v %d", m, mirror, code)
		}
		form := func(c impl.Config) impl.Config {
			turned, code := impl.MirrorConfig(m, c)
			if code != impl.OK {
				t.Fatalf("%v is not mirrored: %d", c, code)
			}
			cells, head, _ := impl.CellsOf(m, c)
			slices.Reverse(cells)
			at := int64(len(cells)) - 1 - head
			left := slices.Clone(cells[:at])
			slices.Reverse(left)
			expect(t, show(turned), show(impl.Config{State: c.State, Left: withoutBlanks(left), Right: withoutBlanks(cells[at:])}))
			return turned
		}
		expectSameRuns(t, m, mirror, someConfig(random, m), form)
		back, _ := impl.MirrorMachine(mirror)
		expect(t, show(back), show(m))
	}
	m := machineOf(t, busy)
	for from, to := range map[string]string{
		"(0)": "(0)", "(1)1": "(1)1", "1(0)": "(0)01", "(0)01": "1(0)", "1(1)": "(1)01", "(1)11": "1(1)1", "1(1)1": "(1)11",
		"10(0)101": "10(0)101", "(0)001": "10(0)", "10(0)": "(0)001", "1(0)0011": "110(0)01",
	} {
		c, _ := impl.ReadConfig(m, from)
		turned, code := impl.MirrorConfig(m, c)
		expect(t, show(from, impl.ConfigText(m, turned), code), show(from, to, impl.OK))
	}
}

func TestPromise6FullMirrors(t *testing.T) {
	m := machineOf(t, busy)
	expect(t, show(impl.MirrorConfig(m, impl.Config{Left: repeat(1, 199)})), show(impl.Config{Right: append([]int64{0}, repeat(1, 199)...)}, 0))
	expect(t, show(impl.MirrorConfig(m, impl.Config{Left: repeat(1, 200)})), "{0 [] []} 5")
	expect(t, show(impl.MirrorConfig(m, impl.Config{Left: repeat(1, 200), Right: []int64{1}})), "{0 [] []} 5")
	expect(t, show(impl.MirrorConfig(m, impl.Config{State: 1, Right: repeat(1, 200)})), show(impl.Config{State: 1, Left: repeat(1, 199), Right: []int64{1}}, 0))
	for _, c := range sampleConfigs {
		if !impl.ValidConfig(m, c) {
			expect(t, show(impl.MirrorConfig(m, c)), "{0 [] []} 1")
		}
	}
	for _, bad := range badMachines() {
		expect(t, show(impl.MirrorMachine(bad)), "{0 0 []} 1")
		expect(t, show(impl.MirrorConfig(bad, impl.Config{})), "{0 [] []} 1")
	}
}

func TestPromise6PrunedMachines(t *testing.T) {
	for from, to := range map[string]string{
		busy: busy + " [0 1] 0", "---,---": "---,--- [0] 0", "0R2,---;1R0,---;---,1L2": "0R1,---;---,1L1 [0 2] 0",
		"---,---;0R0,0R1;1R0,---": "---,--- [0] 0", "0R0,1L0;0R0,1L0": "0R0,1L0 [0] 0",
		"0R3,---;1R0,0R1;0R1,---;---,1L0": "0R1,---;---,1L0 [0 3] 0",
		"0R3,---;1R0,0R1;0R1,---;---,1L2": "0R3,---;1R0,0R1;0R1,---;---,1L2 [0 1 2 3] 0",
		// The state 4 is reached before the state 2, but keeps its place behind it.
		"---,1R4;---,1R2;---,1L0;---,1R1;0L2,---": "---,1R2;---,1L0;0L1,--- [0 2 4] 0",
	} {
		pruned, states, code := impl.PruneMachine(machineOf(t, from))
		expect(t, impl.MachineText(pruned)+" "+show(states, code), to)
	}
	for _, bad := range badMachines() {
		expect(t, show(impl.PruneMachine(bad)), "{0 0 []} [] 1")
	}
	random := rand.New(rand.NewSource(68))
	for range 500 {
		m := randomMachine(random, 2, 1+random.Int63n(9), 2)
		pruned, states, code := impl.PruneMachine(m)
		expect(t, show(impl.ValidMachine(pruned), states, code), show(true, reachable(m), impl.OK))
		number := inverseOf(states)
		c := someConfig(random, m)
		c.State = states[random.Intn(len(states))]
		expectSameRuns(t, m, pruned, c, func(c impl.Config) impl.Config {
			c.State = number[c.State]
			return c
		})
		again, all, _ := impl.PruneMachine(pruned)
		expect(t, show(again, len(all)), show(pruned, len(states)))
	}
	chain := impl.Machine{Symbols: 2, States: 1000, Rules: noRules(2000)}
	for state := range int64(999) {
		chain.Rules[2*state] = rule(1, 1, state+1)
	}
	pruned, states, code := impl.PruneMachine(chain)
	expect(t, show(impl.SameMachine(pruned, chain), len(states), code), "true 1000 0")
}

// reachable returns the states that are reached, by looking at all rules again and again.
func reachable(m impl.Machine) []int64 {
	reached := map[int64]bool{0: true}
	for range m.States {
		for i, r := range m.Rules {
			if r.Next >= 0 && reached[int64(i)/m.Symbols] {
				reached[r.Next] = true
			}
		}
	}
	return keysOf(reached)
}

func inverseOf(list []int64) map[int64]int64 {
	places := map[int64]int64{}
	for i, k := range list {
		places[k] = int64(i)
	}
	return places
}

func TestPromise6InvalidRuns(t *testing.T) {
	m := machineOf(t, busy)
	for _, c := range sampleConfigs {
		if impl.ValidConfig(m, c) {
			continue
		}
		expect(t, show(impl.StepMachine(m, c)), "{0 [] []} 1")
		expect(t, show(impl.RunMachine(m, c, 1)), "{0 [] []} 0 false 1")
		expect(t, show(impl.TraceMachine(m, c, 1)), "[] 1")
		expect(t, show(impl.UsedRules(m, c, 1)), "[] 1")
	}
	for _, bad := range badMachines() {
		expect(t, show(impl.StepMachine(bad, impl.Config{})), "{0 [] []} 1")
		expect(t, show(impl.RunMachine(bad, impl.Config{}, 0)), "{0 [] []} 0 false 1")
		expect(t, show(impl.TraceMachine(bad, impl.Config{}, -1)), "[] 1")
		expect(t, show(impl.UsedRules(bad, impl.Config{}, 0)), "[] 1")
	}
}
