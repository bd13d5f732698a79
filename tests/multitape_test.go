package tests

import (
	"fmt"
	"math"
	"math/rand"
	"slices"
	"strings"
	"testing"

	"loop.example/g01079/impl"
)

// What the machine and the configuration look like beside an error.
const (
	noMulti       = "{0 0 0 []}"
	noMultiConfig = "{0 []}"
)

func multiOf(t *testing.T, s string) impl.Multi {
	t.Helper()
	return mustRead(t, impl.ReadMulti, s)
}

// multiLines returns the machine with a header and some rules.
func multiLines(t *testing.T, lines ...string) impl.Multi {
	t.Helper()
	return multiOf(t, strings.Join(lines, "\n"))
}

// tapeOf returns the tape with a text: what stands on the left of the head as on the tape, a bar, and the rest.
func tapeOf(s string) impl.Tape {
	before, behind, _ := strings.Cut(s, "|")
	left := wordOf(before)
	slices.Reverse(left)
	return impl.Tape{Left: left, Right: wordOf(behind)}
}

// multiConfig returns the configuration with a state and the texts of the tapes.
func multiConfig(state int64, tapes string) impl.MultiConfig {
	c := impl.MultiConfig{State: state}
	for _, s := range strings.Fields(tapes) {
		c.Tapes = append(c.Tapes, tapeOf(s))
	}
	return c
}

// tapesText returns the state and the texts of the tapes.
func tapesText(c impl.MultiConfig) string {
	text := fmt.Sprint(c.State)
	for _, tape := range c.Tapes {
		left := slices.Clone(tape.Left)
		slices.Reverse(left)
		text += " " + digitsOf(left) + "|" + digitsOf(tape.Right)
	}
	return text
}

func multiRule(state int64, read, write, move []int64, next int64) impl.MultiRule {
	return impl.MultiRule{State: state, Read: read, Write: write, Move: move, Next: next}
}

// copyRule returns the rule of the machine that copies a word with the symbol 1 only.
func copyRule() impl.MultiRule {
	return multiRule(0, []int64{1, 0}, []int64{1, 1}, []int64{1, 1}, 0)
}

func copyMachine() impl.Multi {
	return impl.Multi{Tapes: 2, Symbols: 2, States: 1, Rules: []impl.MultiRule{copyRule()}}
}

// manyRules returns a machine with three tapes and three symbols that has so many rules, which make no moves.
func manyRules(many int, states int64) impl.Multi {
	m := impl.Multi{Tapes: 3, Symbols: 3, States: states}
	for i := range int64(many) {
		read := []int64{i / 9 % 3, i / 3 % 3, i % 3}
		m.Rules = append(m.Rules, multiRule(i/27, read, slices.Clone(read), repeat(0, 3), i/27))
	}
	return m
}

// badMultis returns machines that are not valid, each for another reason.
func badMultis() []impl.Multi {
	all := []impl.Multi{
		{}, {Tapes: 2, Symbols: 2}, {Tapes: 2, States: 1}, {Symbols: 2, States: 1}, {Tapes: 1, Symbols: 2, States: 1}, {Tapes: 4, Symbols: 2, States: 1},
		{Tapes: 2, Symbols: 1, States: 1}, {Tapes: 2, Symbols: 4, States: 1}, {Tapes: 2, Symbols: 2, States: 17}, {Tapes: 2, Symbols: 2, States: -1},
		{Tapes: -2, Symbols: 2, States: 1}, {Tapes: 2, Symbols: -2, States: 1}, {Tapes: math.MaxInt64, Symbols: 2, States: 1},
		{Tapes: math.MinInt64, Symbols: math.MinInt64, States: math.MinInt64}, {Tapes: 2, Symbols: math.MaxInt64, States: 1}, {Tapes: 2, Symbols: 2, States: math.MaxInt64},
		manyRules(61, 3), manyRules(28, 1),
	}
	for _, change := range badChanges {
		m := copyMachine()
		change(&m.Rules[0])
		all = append(all, m)
	}
	late, first := copyRule(), copyRule()
	late.State, first.Read = 1, []int64{0, 1}
	for _, rules := range [][]impl.MultiRule{{copyRule(), copyRule()}, {copyRule(), first}, {late, copyRule()}, {first, copyRule(), first}} {
		all = append(all, impl.Multi{Tapes: 2, Symbols: 2, States: 2, Rules: rules})
	}
	return all
}

var badChanges = []func(r *impl.MultiRule){
	func(r *impl.MultiRule) { r.State = 1 },
	func(r *impl.MultiRule) { r.State = -1 },
	func(r *impl.MultiRule) { r.State = math.MaxInt64 },
	func(r *impl.MultiRule) { r.Next = 1 },
	func(r *impl.MultiRule) { r.Next = -1 },
	func(r *impl.MultiRule) { r.Next = math.MinInt64 },
	func(r *impl.MultiRule) { r.Read = nil },
	func(r *impl.MultiRule) { r.Read = []int64{1} },
	func(r *impl.MultiRule) { r.Read = []int64{1, 0, 0} },
	func(r *impl.MultiRule) { r.Read = []int64{0, 2} },
	func(r *impl.MultiRule) { r.Read = []int64{-1, 0} },
	func(r *impl.MultiRule) { r.Write = nil },
	func(r *impl.MultiRule) { r.Write = []int64{1} },
	func(r *impl.MultiRule) { r.Write = []int64{1, 0, 0} },
	func(r *impl.MultiRule) { r.Write = []int64{2, 0} },
	func(r *impl.MultiRule) { r.Write = []int64{0, math.MaxInt64} },
	func(r *impl.MultiRule) { r.Write = []int64{0, -1} },
	func(r *impl.MultiRule) { r.Move = nil },
	func(r *impl.MultiRule) { r.Move = []int64{1} },
	func(r *impl.MultiRule) { r.Move = []int64{1, 1, 0} },
	func(r *impl.MultiRule) { r.Move = []int64{2, 0} },
	func(r *impl.MultiRule) { r.Move = []int64{0, -2} },
	func(r *impl.MultiRule) { r.Move = []int64{math.MinInt64, math.MaxInt64} },
}

// sampleMultis returns valid machines, and one that is not valid for each reason.
func sampleMultis() []impl.Multi {
	all := []impl.Multi{copyMachine(), manyRules(0, 1), manyRules(0, 16), manyRules(60, 3), {Tapes: 2, Symbols: 2, States: 1}}
	for _, make := range []func(int64) (impl.Multi, int64){impl.CopyMulti, impl.PalindromeMulti} {
		m, _ := make(3)
		all = append(all, m)
	}
	for _, s := range []string{
		"2 2 2\n0 00 10 SL 1\n0 11 00 LR 0\n1 00 01 SS 0\n1 01 01 RL 1", "3 2 1\n0 000 111 RSL 0", "2 2 1\n0 00 00 SS 0", "2 2 1\n0 00 11 LR 0",
	} {
		m, _ := impl.ReadMulti(s)
		all = append(all, m)
	}
	return append(all, badMultis()...)
}

// badTapes are tapes that are valid for no machine.
func badTapes() []impl.Tape {
	return []impl.Tape{
		{Left: []int64{0}}, {Right: []int64{0}}, {Left: []int64{1, 0}}, {Right: []int64{1, 0}}, {Left: []int64{3}}, {Right: []int64{3}}, {Left: []int64{-1}},
		{Right: []int64{-1}}, {Left: []int64{math.MaxInt64}}, {Right: []int64{math.MinInt64}}, {Left: repeat(1, 201)}, {Right: repeat(1, 201)},
		{Left: []int64{1}, Right: []int64{1, 0}}, {Left: append(repeat(0, 200), 1)}, {Right: repeat(0, 201)},
	}
}

func sampleTapes() []impl.Tape {
	return append(badTapes(), impl.Tape{}, tapeOf("|1"), tapeOf("1|"), tapeOf("12|021"), impl.Tape{Left: repeat(1, 200), Right: repeat(2, 200)},
		impl.Tape{Left: []int64{9, 0}, Right: []int64{0, 9, 0}}, impl.Tape{Left: []int64{10}}, impl.Tape{Right: []int64{10}}, impl.Tape{Right: repeat(0, 200)})
}

func sampleMultiConfigs() []impl.MultiConfig {
	all := []impl.MultiConfig{{}, multiConfig(1, "| |"), multiConfig(0, "|"), multiConfig(0, "| | |"), multiConfig(0, "| | | |")}
	for _, state := range []int64{-1, 2, 16, math.MinInt64, math.MaxInt64} {
		all = append(all, multiConfig(state, "| |"))
	}
	for _, s := range []string{"| |", "|11 |", "1| 1|", "01|1 10|011", "|12 2|", "1|0 |2", "|1 |1 |2", "1| | 2|2"} {
		all = append(all, multiConfig(0, s))
	}
	for _, tape := range badTapes() {
		all = append(all, impl.MultiConfig{Tapes: []impl.Tape{{}, tape}})
	}
	full := impl.Tape{Left: repeat(1, 200), Right: repeat(1, 200)}
	return append(all, impl.MultiConfig{Tapes: []impl.Tape{full, {}}}, impl.MultiConfig{Tapes: []impl.Tape{{}, full}})
}

// randomMulti returns a valid machine; about one in so many of its rules is missing.
func randomMulti(random *rand.Rand, missing int) impl.Multi {
	m := impl.Multi{Tapes: 2 + random.Int63n(2), Symbols: 2 + random.Int63n(2), States: 1 + random.Int63n(4)}
	for state := range m.States {
		for _, read := range allReads(m) {
			if random.Intn(missing) == 0 || len(m.Rules) == impl.MaxMultiRules {
				continue
			}
			m.Rules = append(m.Rules, multiRule(state, read, someList(random, m, 0, m.Symbols), someList(random, m, -1, 3), random.Int63n(m.States)))
		}
	}
	return m
}

// allReads returns all lists of symbols for the tapes, as the digits of the numbers in ascending order.
func allReads(m impl.Multi) [][]int64 {
	all := [][]int64{nil}
	for range m.Tapes {
		var longer [][]int64
		for _, read := range all {
			for symbol := range m.Symbols {
				longer = append(longer, append(slices.Clone(read), symbol))
			}
		}
		all = longer
	}
	return all
}

// someList returns a number for each tape, from the least one on and so many.
func someList(random *rand.Rand, m impl.Multi, least, many int64) []int64 {
	var list []int64
	for range m.Tapes {
		list = append(list, least+random.Int63n(many))
	}
	return list
}

func someMultiConfig(random *rand.Rand, m impl.Multi) impl.MultiConfig {
	c := impl.MultiConfig{State: random.Int63n(m.States)}
	plain := impl.Machine{Symbols: m.Symbols}
	for range m.Tapes {
		c.Tapes = append(c.Tapes, impl.Tape{Left: someSide(random, plain), Right: someSide(random, plain)})
	}
	return c
}

// forSomeMultis checks many machines with a configuration of each.
func forSomeMultis(seed int64, many int, check func(random *rand.Rand, m impl.Multi, c impl.MultiConfig)) {
	random := rand.New(rand.NewSource(seed))
	for range many {
		m := randomMulti(random, 2+random.Intn(20))
		check(random, m, someMultiConfig(random, m))
	}
}

var multiCalls = calls[impl.Multi, impl.MultiConfig]{impl.StepMulti, impl.RunMulti, impl.TraceMulti}

// multiModel runs a machine on long lists of cells, in the plainest way.
type multiModel struct {
	m     impl.Multi
	state int64
	tapes []*model
}

func newMultiModel(m impl.Multi, c impl.MultiConfig) *multiModel {
	x := &multiModel{m: m, state: c.State}
	for _, tape := range c.Tapes {
		x.tapes = append(x.tapes, newModel(impl.Machine{}, impl.Config{Left: tape.Left, Right: tape.Right}))
	}
	return x
}

func (x *multiModel) config() impl.MultiConfig {
	c := impl.MultiConfig{State: x.state}
	for _, tape := range x.tapes {
		one := tape.config()
		c.Tapes = append(c.Tapes, impl.Tape{Left: one.Left, Right: one.Right})
	}
	return c
}

// place returns the index of the rule, and -1 if there is none.
func (x *multiModel) place() int {
	return slices.IndexFunc(x.m.Rules, func(r impl.MultiRule) bool {
		for i, tape := range x.tapes {
			if r.Read[i] != tape.cells[tape.head] {
				return false
			}
		}
		return r.State == x.state
	})
}

func (x *multiModel) step() int64 {
	at := x.place()
	if at < 0 {
		return impl.ErrState
	}
	r := x.m.Rules[at]
	for i, tape := range x.tapes {
		tape.cells[tape.head] = r.Write[i]
		tape.head += int(r.Move[i])
	}
	x.state = r.Next
	for _, tape := range x.config().Tapes {
		if len(tape.Left) > impl.MaxMultiCells || len(tape.Right) > impl.MaxMultiCells {
			return impl.ErrFull
		}
	}
	return impl.OK
}

func TestPromise7Example(t *testing.T) {
	m, code := impl.CopyMulti(2)
	expect(t, show(m, code, impl.MultiText(m)), show(copyMachine(), impl.OK, "2 2 1\n0 10 11 RR 0"))
	c, code := impl.StartMulti(m, [][]int64{{1, 1}, {}})
	expect(t, show(tapesText(c), code), show("0 |11 |", impl.OK))
	end, steps, halts, code := impl.RunMulti(m, c, 2)
	expect(t, show(tapesText(end), steps, halts, code), show("0 11| 11|", 2, true, impl.OK))
}

func TestPromise7ValidMachines(t *testing.T) {
	for i, m := range badMultis() {
		if impl.ValidMulti(m) {
			t.Errorf("the machine %d is valid: %v", i, m)
		}
	}
	for tapes := int64(0); tapes <= 4; tapes++ {
		for symbols := int64(0); symbols <= 4; symbols++ {
			for states := int64(0); states <= 17; states++ {
				m := impl.Multi{Tapes: tapes, Symbols: symbols, States: states}
				want := (tapes == 2 || tapes == 3) && (symbols == 2 || symbols == 3) && states >= 1 && states <= 16
				expect(t, show(m, impl.ValidMulti(m)), show(m, want))
			}
		}
	}
	for many := range 62 {
		expect(t, show(many, impl.ValidMulti(manyRules(many, 3))), show(many, many <= 60))
	}
	forSomeMultis(70, 300, func(random *rand.Rand, m impl.Multi, _ impl.MultiConfig) {
		expect(t, show(impl.ValidMulti(m)), "true")
		if len(m.Rules) < 2 {
			return
		}
		i := random.Intn(len(m.Rules) - 1)
		m.Rules[i], m.Rules[i+1] = m.Rules[i+1], m.Rules[i]
		expect(t, show(impl.ValidMulti(m)), "false")
		m.Rules[i] = m.Rules[i+1]
		expect(t, show(impl.ValidMulti(m)), "false")
	})
	wide := multiRule(15, []int64{2, 2, 2}, []int64{2, 0, 1}, []int64{-1, 0, 1}, 15)
	expect(t, show(impl.ValidMulti(impl.Multi{Tapes: 3, Symbols: 3, States: 16, Rules: []impl.MultiRule{wide}})), "true")
	expect(t, show(impl.ValidMulti(impl.Multi{Tapes: 3, Symbols: 3, States: 15, Rules: []impl.MultiRule{wide}})), "false")
	expect(t, show(impl.ValidMulti(impl.Multi{Tapes: 3, Symbols: 2, States: 16, Rules: []impl.MultiRule{wide}})), "false")
	expect(t, show(impl.ValidMulti(impl.Multi{Tapes: 2, Symbols: 3, States: 16, Rules: []impl.MultiRule{wide}})), "false")
}

func TestPromise7ValidConfigs(t *testing.T) {
	two := impl.Multi{Tapes: 2, Symbols: 3, States: 2}
	three := impl.Multi{Tapes: 3, Symbols: 3, States: 2}
	for _, s := range []string{"| |", "|1 2|", "1|01 20|", "000| |", "|000 |"} {
		c := multiConfig(0, s)
		want := !strings.Contains(s, "000")
		expect(t, show(s, impl.ValidMultiConfig(two, c)), show(s, want))
		expect(t, show(s, impl.ValidMultiConfig(three, c)), show(s, false))
		c.Tapes = append(c.Tapes, impl.Tape{})
		expect(t, show(s, impl.ValidMultiConfig(two, c)), show(s, false))
		expect(t, show(s, impl.ValidMultiConfig(three, c)), show(s, want))
	}
	for state, want := range map[int64]bool{0: true, 1: true, 2: false, -1: false, math.MaxInt64: false, math.MinInt64: false} {
		expect(t, show(state, impl.ValidMultiConfig(two, multiConfig(state, "|2 |"))), show(state, want))
	}
	for _, tape := range badTapes() {
		for i := range 3 {
			c := multiConfig(0, "|1 2| |")
			c.Tapes[i] = tape
			expect(t, show(tape, impl.ValidMultiConfig(three, c)), show(tape, false))
		}
	}
	full := impl.Tape{Left: append(repeat(0, 199), 2), Right: append(repeat(0, 199), 1)}
	expect(t, show(impl.ValidMultiConfig(two, impl.MultiConfig{Tapes: []impl.Tape{full, full}})), "true")
	expect(t, show(impl.ValidMultiConfig(copyMachine(), impl.MultiConfig{Tapes: []impl.Tape{{}, full}})), "false")
	expect(t, show(impl.ValidMultiConfig(copyMachine(), impl.MultiConfig{Tapes: []impl.Tape{{}, {Right: full.Right}}})), "true")
	for _, bad := range badMultis() {
		expect(t, show(impl.ValidMultiConfig(bad, multiConfig(0, "| |"))), "false")
	}
}

func TestPromise7SameConfigs(t *testing.T) {
	all := append(sampleMultiConfigs(), multiConfig(0, "|11 | |"), multiConfig(0, "11| |"), multiConfig(0, "|1 |1"), multiConfig(0, "| |11"), multiConfig(1, "|11 |"))
	for i, a := range all {
		for k, b := range all {
			want := fmt.Sprint(a) == fmt.Sprint(b)
			if got := impl.SameMultiConfig(a, copiedConfig(b)); got != want || i == k && !want {
				t.Errorf("%v and %v: the same is %v", a, b, got)
			}
		}
	}
	expect(t, show(impl.SameMultiConfig(impl.MultiConfig{}, impl.MultiConfig{Tapes: []impl.Tape{}})), "true")
	empty := impl.Tape{Left: []int64{}, Right: []int64{}}
	expect(t, show(impl.SameMultiConfig(multiConfig(0, "|"), impl.MultiConfig{Tapes: []impl.Tape{empty}})), "true")
}

// copiedConfig returns an equal configuration in memory of its own.
func copiedConfig(c impl.MultiConfig) impl.MultiConfig {
	copied := impl.MultiConfig{State: c.State}
	for _, tape := range c.Tapes {
		copied.Tapes = append(copied.Tapes, impl.Tape{Left: slices.Clone(tape.Left), Right: slices.Clone(tape.Right)})
	}
	return copied
}

func TestPromise7Texts(t *testing.T) {
	forSomeMultis(71, 500, func(_ *rand.Rand, m impl.Multi, _ impl.MultiConfig) {
		back, ok := impl.ReadMulti(impl.MultiText(m))
		expect(t, show(back, ok), show(m, true))
	})
	for _, m := range badMultis() {
		expect(t, show(impl.MultiText(m)), `""`)
	}
	m := impl.Multi{Tapes: 3, Symbols: 3, States: 12, Rules: []impl.MultiRule{
		multiRule(0, []int64{0, 1, 2}, []int64{2, 1, 0}, []int64{-1, 0, 1}, 11), multiRule(10, []int64{0, 0, 0}, []int64{0, 0, 1}, []int64{0, 0, 0}, 0),
	}}
	expect(t, show(impl.MultiText(m)), show("3 3 12\n0 012 210 LSR 11\n10 000 001 SSS 0"))
	expect(t, show(impl.MultiText(manyRules(0, 16))), show("3 3 16"))
	great := manyRules(60, 3)
	back, ok := impl.ReadMulti(impl.MultiText(great))
	expect(t, show(back, ok, strings.Count(impl.MultiText(great), "\n")), show(great, true, 60))
}

func TestPromise7OtherTexts(t *testing.T) {
	bad := []string{
		"", " ", "\n", "2", "2 2", "2 2 ", "2 2 1 ", " 2 2 1", "2  2 1", "2 2 1\n", "\n2 2 1", "2 2 1 1", "2 2 01", "02 2 1", "+2 2 1", "2 2 -1", "2 2 0", "1 2 1", "4 2 1",
		"2 1 1", "2 4 1", "2 2 17", "2,2,1", "2\t2\t1", "2 2 1\r", "a b c", "2 2 x", "2 2 18446744073709551617", "\xff", "2 2 1\x00", "2 2 \uff11",
	}
	for _, rules := range []string{
		"0 10 11 RR", "0 10 11 RR ", "0 10 11 RR 0 ", " 0 10 11 RR 0", "0 10 11 RR 0\n", "\n0 10 11 RR 0", "0 10 11 RR 0\n\n0 11 11 RR 0", "0 10 11 RR 0 0", "0  10 11 RR 0",
		"0 10 11 rr 0", "0 10 11 RX 0", "0 10 11 R 0", "0 10 11 RRR 0", "0 10 11 R\xff 0", "0 10 11  0", "0 1 11 RR 0", "0 100 11 RR 0", "0 12 11 RR 0", "0 10 1 RR 0",
		"0 10 111 RR 0", "0 10 21 RR 0", "0 1a 11 RR 0", "0 10 1- RR 0", "1 10 11 RR 0", "0 10 11 RR 1", "00 10 11 RR 0", "0 10 11 RR 00", "-0 10 11 RR 0", "-1 10 11 RR 0",
		"0 10 11 RR -1", "0 10 11 RR 0\n0 10 11 RR 0", "0 10 11 RR 0\n0 01 11 RR 0", "0 10 11 RR 0;", "0 10 11 RR 0\r\n0 11 11 RR 0", "0\t10 11 RR 0", "0 1,0 11 RR 0",
		"0 10 11 11 0", "0 10 11 \uff32R 0", "0 \uff11\uff10 11 RR 0", "10 11 RR 0", "0 RR 10 11 0", "2 2 1", "0 10 11 RR 99999999999999999999",
	} {
		bad = append(bad, "2 2 1\n"+rules)
	}
	for _, s := range bad {
		m, ok := impl.ReadMulti(s)
		expect(t, show(s, m, ok), show(s, impl.Multi{}, false))
	}
	for _, s := range []string{strings.Repeat("\n", 100000), strings.Repeat(" ", 100000), "2 2 1\n" + strings.Repeat("1", 100000), "2 2 1\n0 10 11 " + strings.Repeat("R", 100000) + " 0"} {
		m, ok := impl.ReadMulti(s)
		expect(t, show(m, ok), noMulti+" false")
	}
	long := "3 3 3"
	for i := range 61 {
		long += fmt.Sprintf("\n%d %d%d%d 000 SSS 0", i/27, i/9%3, i/3%3, i%3)
		m, ok := impl.ReadMulti(long)
		expect(t, show(i, len(m.Rules), ok), show(i, (i+1)*btoi(i < 60), i < 60))
	}
}

func btoi(b bool) int {
	if b {
		return 1
	}
	return 0
}

func TestPromise7Starts(t *testing.T) {
	m := impl.Multi{Tapes: 2, Symbols: 3, States: 3}
	for words, want := range map[string]string{"- -": "0 | |", "12 021": "0 |12 |021", "120 100": "0 |12 |1", "000 0010": "0 | |001", "0 -": "0 | |", "2 0": "0 |2 |"} {
		var list [][]int64
		for _, word := range strings.Fields(words) {
			w, _ := impl.ReadWord(word)
			list = append(list, w)
		}
		c, code := impl.StartMulti(m, list)
		expect(t, show(words, tapesText(c), code), show(words, want, impl.OK))
	}
	full := append(repeat(1, 199), 2)
	expect(t, show(impl.StartMulti(m, [][]int64{full, repeat(0, 200)})), show(impl.MultiConfig{Tapes: []impl.Tape{{Right: full}, {}}}, impl.OK))
	none := noMultiConfig + " 2"
	for _, words := range [][][]int64{
		nil, {{}}, {{1}}, {{1}, {1}, {1}}, make([][]int64, 3), {{3}, {}}, {{}, {3}}, {{-1}, {}}, {{}, {0, math.MaxInt64}}, {{math.MinInt64}, {}},
		{repeat(1, 201), {}}, {{}, append(repeat(1, 200), 0)}, {{}, repeat(0, 201)}, {{}, repeat(0, 1000)}, make([][]int64, 1000), {{9}, {9}},
	} {
		expect(t, show(impl.StartMulti(m, words)), none)
	}
	three := impl.Multi{Tapes: 3, Symbols: 2, States: 1}
	expect(t, show(impl.StartMulti(three, [][]int64{{1}, {1, 1}})), none)
	expect(t, show(impl.StartMulti(three, [][]int64{{1}, {1, 1}, {2}})), none)
	c, code := impl.StartMulti(three, [][]int64{{1}, {1, 1}, {0, 1}})
	expect(t, show(tapesText(c), code), show("0 |1 |11 |01", impl.OK))
	for _, bad := range badMultis() {
		expect(t, show(impl.StartMulti(bad, [][]int64{{}, {}})), noMultiConfig+" 1")
		expect(t, show(impl.StartMulti(bad, [][]int64{{9}})), noMultiConfig+" 1")
	}
}

// The first tape is treated by one rule; the other one keeps what it has.
func TestPromise7SingleSteps(t *testing.T) {
	for _, line := range []string{
		// A head that does not move: blanks come and go at the end of the cells from the head on, and only there.
		"0S1 | |1", "0S2 21|01 21|21", "0S0 | |", "0S0 1| 1|", "0S1 1| 1|1", "0S1 |01 |11", "0S0 |01 |01", "1S0 |1 |", "1S0 |12 |02", "1S0 |1001 |0001", "1S0 21|1 21|",
		"1S0 201|1 201|", "1S2 1|1 1|2", "1S1 |1 |1", "2S1 102|201 102|101",
		"0R1 | 1|", "0R0 | |", "0R0 1| 10|", "0R0 |01 |1", "0R0 2|01 20|1", "1R0 |1 |", "1R0 |101 |01", "1R0 2|1 20|", "1R2 |1 2|", "1R2 1|12 12|2", "1R1 |1001 1|001",
		"0L1 | |01", "0L0 | |", "0L0 1| |1", "0L1 1| |11", "0L0 10| 1|", "0L2 10| 1|02", "1L0 |1 |", "1L0 1|1 |1", "1L0 10|1 1|", "1L0 |12 |002", "1L1 |1 |01", "1L2 12|11 1|221",
		"0L1 200| 20|01", "1L0 200|1 20|",
	} {
		fields := strings.Fields(line)
		rule := fields[0]
		for _, other := range []string{"|", "1|", "1|2", "20|", "|002"} {
			under := wordOf(other[strings.Index(other, "|")+1:] + "0")[0]
			first := fmt.Sprintf("2 3 2\n0 %c%d %c%d %cS 1", rule[0], under, rule[2], under, rule[1])
			second := fmt.Sprintf("2 3 2\n0 %d%c %d%c S%c 1", under, rule[0], under, rule[2], rule[1])
			c, code := impl.StepMulti(multiOf(t, first), multiConfig(0, fields[1]+" "+other))
			expect(t, show(line, tapesText(c), code), show(line, "1 "+fields[2]+" "+other, impl.OK))
			c, code = impl.StepMulti(multiOf(t, second), multiConfig(0, other+" "+fields[1]))
			expect(t, show(line, tapesText(c), code), show(line, "1 "+other+" "+fields[2], impl.OK))
		}
	}
}

func TestPromise7StepsAndRules(t *testing.T) {
	m := multiLines(t, "3 3 3", "0 000 012 LSR 1", "0 120 000 SSS 0", "1 000 111 RRR 2", "1 010 202 SLS 1", "2 222 000 SSS 2")
	for _, line := range []string{
		"0 | | |; 0; 1 | |1 2|", "1 | |1 2|; 3; 1 |2 | 2|2", "1 |2 | 2|2; -1; ", "0 |1 |2 |; 1; 0 | | |", "0 |1 |1 |; -1; ", "2 | | |; -1; ",
		"2 |2 1|21 |2; 4; 2 | 1|01 |", "1 | | |; 2; 2 1| 1| 1|", "0 |12 |20 |01; -1; ", "0 |1 |2 1|; 1; 0 | | 1|",
	} {
		parts := strings.Split(line, "; ")
		c := multiConfig(int64(parts[0][0]-'0'), parts[0][1:])
		at, found := impl.MultiRuleAt(m, c)
		next, code := impl.StepMulti(m, c)
		switch parts[1] {
		case "-1":
			want := show(line, 0, impl.ErrNotFound, impl.MultiConfig{}, impl.ErrState)
			if impl.ValidMultiConfig(m, c) {
				expect(t, show(line, at, found, next, code), want)
			} else {
				expect(t, show(line, at, found, next, code), show(line, 0, impl.ErrInvalid, impl.MultiConfig{}, impl.ErrInvalid))
			}
		default:
			expect(t, show(line, fmt.Sprint(at), found, tapesText(next), code), show(line, parts[1], impl.OK, parts[2], impl.OK))
		}
	}
}

func TestPromise7Runs(t *testing.T) {
	t.Parallel()
	forSomeMultis(72, 600, func(random *rand.Rand, m impl.Multi, c impl.MultiConfig) {
		x := newMultiModel(m, c)
		trace := []impl.MultiConfig{c}
		for made := int64(0); made < 45; made++ {
			at := x.place()
			now := x.config()
			halts := at < 0
			if made > 0 {
				end, steps, over, code := impl.RunMulti(m, c, made)
				expect(t, show(end, steps, over, code), show(now, made, halts, impl.OK))
			}
			if halts {
				expect(t, show(impl.MultiRuleAt(m, now)), "0 3")
				expect(t, show(impl.StepMulti(m, now)), noMultiConfig+" 6")
				expect(t, show(impl.RunMulti(m, c, made+1)), show(now, made, true, impl.OK))
				expect(t, show(impl.RunMulti(m, c, impl.MaxBudget)), show(now, made, true, impl.OK))
				expect(t, show(impl.RunMulti(m, now, 1)), show(now, 0, true, impl.OK))
				break
			}
			expect(t, show(impl.MultiRuleAt(m, now)), show(at, impl.OK))
			x.step()
			expect(t, show(impl.StepMulti(m, now)), show(x.config(), impl.OK))
			trace = append(trace, x.config())
		}
		for _, n := range []int64{0, 1, 2, random.Int63n(41), 39, 40} {
			expect(t, show(impl.TraceMulti(m, c, n)), show(trace[:min(int64(len(trace)), n+1)], impl.OK))
		}
	})
}

// A run goes on from where another one ends.
func TestPromise7RunsGoOn(t *testing.T) {
	forSomeMultis(73, 500, func(random *rand.Rand, m impl.Multi, c impl.MultiConfig) {
		whole, all, halts, code := impl.RunMulti(m, c, 150)
		if code != impl.OK {
			t.Fatalf("%v from %v: the code %d", m, c, code)
		}
		first := 1 + random.Int63n(149)
		middle, some, _, _ := impl.RunMulti(m, c, first)
		end, others, over, code := impl.RunMulti(m, middle, 150-first)
		expect(t, show(end, some+others, over, code), show(whole, all, halts, impl.OK))
		expect(t, show(impl.SameMultiConfig(end, whole), impl.ValidMultiConfig(m, end)), "true true")
	})
}

func TestPromise7Budgets(t *testing.T) {
	stays := multiOf(t, "2 2 1\n0 00 00 SS 0")
	blank, other := multiConfig(0, "| |"), multiConfig(0, "|1 |")
	expect(t, show(impl.RunMulti(stays, blank, impl.MaxBudget)), show(blank, impl.MaxBudget, false, 0))
	expect(t, show(impl.RunMulti(stays, other, impl.MaxBudget)), show(other, 0, true, 0))
	m, _ := impl.CopyMulti(2)
	c := multiConfig(0, "|111 |")
	for budget, want := range map[int64]string{1: "{0 [{[1] [1 1]} {[1] []}]} 1 false 0", 2: "{0 [{[1 1] [1]} {[1 1] []}]} 2 false 0", 3: "{0 [{[1 1 1] []} {[1 1 1] []}]} 3 true 0"} {
		expect(t, show(impl.RunMulti(m, c, budget)), want)
	}
	for _, budget := range []int64{0, -1, impl.MaxBudget + 1, math.MinInt64, math.MaxInt64} {
		expect(t, show(impl.RunMulti(m, c, budget)), noMultiConfig+" 0 false 2")
		expect(t, show(impl.RunMulti(m, multiConfig(1, "| |"), budget)), noMultiConfig+" 0 false 1")
	}
	for n, want := range map[int64]string{-1: "0 2", 0: "1 0", 2: "3 0", 3: "4 0", 4: "4 0", 40: "4 0", 41: "0 2", math.MinInt64: "0 2", math.MaxInt64: "0 2"} {
		trace, code := impl.TraceMulti(m, c, n)
		expect(t, show(n, len(trace), code), show(n)+" "+want)
		expect(t, show(impl.TraceMulti(m, multiConfig(1, "| |"), n)), "[] 1")
	}
	trace, code := impl.TraceMulti(stays, blank, impl.MaxMultiTrace)
	expect(t, show(len(trace), code), "41 0")
}

func TestPromise7WithoutRules(t *testing.T) {
	for _, m := range []impl.Multi{manyRules(0, 1), manyRules(0, 16), multiOf(t, "3 3 2\n1 000 111 RRR 0")} {
		c := multiConfig(0, "1|2 |0012 2|")
		expect(t, show(impl.MultiRuleAt(m, c)), "0 3")
		expect(t, show(impl.StepMulti(m, c)), noMultiConfig+" 6")
		expect(t, show(impl.RunMulti(m, c, 1)), show(c, 0, true, 0))
		expect(t, show(impl.TraceMulti(m, c, 40)), show([]impl.MultiConfig{c}, 0))
		reads, code := impl.HaltingReads(m, 0)
		expect(t, show(reads, code), show(allReads(m), impl.OK))
	}
}

func TestPromise7FullTapes(t *testing.T) {
	full, none := repeat(1, 200), []int64(nil)
	for _, line := range []string{"0L0 5 0", "0R0 0 5", "0S0 0 0", "0S1 0 0", "1L0 5 0", "1R0 0 5", "1S1 0 0"} {
		var read, write, overLeft, overRight int
		var move byte
		fmt.Sscanf(line, "%1d%c%1d %d %d", &read, &move, &write, &overRight, &overLeft)
		for i := range 3 {
			m := multiOf(t, fullRule(i, read, write, move))
			right := slices.Clone(full)
			right[0] = int64(read)
			c := multiConfig(0, "| | |")
			c.Tapes[i] = impl.Tape{Right: right}
			_, code := impl.StepMulti(m, c)
			expect(t, show(line, i, code), show(line, i, overRight))
			expectRunCode(t, m, c, int64(overRight))
			c.Tapes[i] = impl.Tape{Left: full, Right: right[:read]}
			_, code = impl.StepMulti(m, c)
			expect(t, show(line, i, code), show(line, i, overLeft))
			expectRunCode(t, m, c, int64(overLeft))
			for _, tape := range []impl.Tape{{Left: full[:199], Right: right[:199]}, {Left: none, Right: right[:read]}} {
				c.Tapes[i] = tape
				next, code := impl.StepMulti(m, c)
				expect(t, show(line, i, code, impl.ValidMultiConfig(m, next)), show(line, i, impl.OK, true))
			}
		}
	}
}

// fullRule returns a machine with one rule, in which only one of three heads writes and moves.
func fullRule(tape, read, write int, move byte) string {
	reads, writes, moves := []byte("000"), []byte("000"), []byte("SSS")
	reads[tape], writes[tape], moves[tape] = byte('0'+read), byte('0'+write), move
	return fmt.Sprintf("3 3 2\n0 %s %s %s 1", reads, writes, moves)
}

// expectRunCode checks the runs and traces of one step.
func expectRunCode(t *testing.T, m impl.Multi, c impl.MultiConfig, want int64) {
	t.Helper()
	next, _ := impl.StepMulti(m, c)
	if want != impl.OK {
		expect(t, show(impl.StepMulti(m, c)), show(impl.MultiConfig{}, want))
		expect(t, show(impl.RunMulti(m, c, 1)), show(impl.MultiConfig{}, 0, false, want))
		expect(t, show(impl.TraceMulti(m, c, 1)), show([]impl.MultiConfig{}, want))
	} else {
		expect(t, show(impl.RunMulti(m, c, 1)), show(next, 1, true, impl.OK))
		expect(t, show(impl.TraceMulti(m, c, 1)), show([]impl.MultiConfig{c, next}, impl.OK))
	}
	expect(t, show(impl.TraceMulti(m, c, 0)), show([]impl.MultiConfig{c}, impl.OK))
}

func TestPromise7FullRuns(t *testing.T) {
	right, left := multiOf(t, "2 2 1\n0 00 01 SR 0"), multiOf(t, "2 2 1\n0 00 10 LS 0")
	blank := multiConfig(0, "| |")
	expect(t, show(impl.RunMulti(right, blank, 200)), show(impl.MultiConfig{Tapes: []impl.Tape{{}, {Left: repeat(1, 200)}}}, 200, false, 0))
	expect(t, show(impl.RunMulti(right, blank, 201)), noMultiConfig+" 0 false 5")
	expect(t, show(impl.RunMulti(left, blank, 199)), show(impl.MultiConfig{Tapes: []impl.Tape{{Right: append([]int64{0}, repeat(1, 199)...)}, {}}}, 199, false, 0))
	expect(t, show(impl.RunMulti(left, blank, 200)), noMultiConfig+" 0 false 5")
	near := impl.MultiConfig{Tapes: []impl.Tape{{}, {Left: repeat(1, 190)}}}
	expect(t, show(impl.TraceMulti(right, near, 11)), "[] 5")
	trace, code := impl.TraceMulti(right, near, 10)
	expect(t, show(len(trace), code), "11 0")
	// Blanks that have been left behind do not count, unless something stands beyond them.
	away := multiOf(t, "2 2 1\n0 00 00 RL 0")
	expect(t, show(impl.RunMulti(away, blank, impl.MaxBudget)), show(blank, impl.MaxBudget, false, 0))
	marked := multiConfig(0, "1| |")
	expect(t, show(impl.RunMulti(away, marked, 199)), show(impl.MultiConfig{Tapes: []impl.Tape{{Left: append(repeat(0, 199), 1)}, {}}}, 199, false, 0))
	expect(t, show(impl.RunMulti(away, marked, 200)), noMultiConfig+" 0 false 5")
	opposite := multiConfig(0, "| |01")
	expect(t, show(impl.RunMulti(away, opposite, 198)), show(impl.MultiConfig{Tapes: []impl.Tape{{}, {Right: append(repeat(0, 199), 1)}}}, 198, false, 0))
	expect(t, show(impl.RunMulti(away, opposite, 199)), noMultiConfig+" 0 false 5")
}

// Near the greatest number of cells, also those count that have become blank again.
func TestPromise7NearlyFullTapes(t *testing.T) {
	random := rand.New(rand.NewSource(74))
	fullRuns := 0
	for range 300 {
		m := randomMulti(random, 60)
		c := impl.MultiConfig{}
		plain := impl.Machine{Symbols: m.Symbols}
		for range m.Tapes {
			c.Tapes = append(c.Tapes, impl.Tape{Left: nearlyFull(random, plain), Right: nearlyFull(random, plain)})
		}
		if multiCalls.expectUntilTrouble(t, m, newMultiModel(m, c), 150) {
			fullRuns++
		}
	}
	if fullRuns < 50 {
		t.Errorf("only %d runs come to the end of their tapes", fullRuns)
	}
}

func TestPromise7TapeWords(t *testing.T) {
	for tape, want := range map[string]string{
		"|": "-", "0|0": "-", "000|": "-", "|000": "-", "1|": "1", "|1": "1", "12|34": "1234", "0120|0340": "120034", "|0010": "1", "0100|": "1", "00|0100": "1", "1|0": "1",
		"0|1": "1", "10|01": "1001", "9|9": "99", "0123456789|9876543210": "123456789987654321",
	} {
		w, _ := impl.ReadWord(want)
		got, code := impl.TapeWord(tapeOf(tape))
		expect(t, show(tape, got, code), show(tape, w, impl.OK))
	}
	whole, code := impl.TapeWord(impl.Tape{Left: repeat(9, 200), Right: repeat(8, 200)})
	expect(t, show(whole, code, impl.IsWord(whole)), show(append(repeat(9, 200), repeat(8, 200)...), impl.OK, true))
	expect(t, show(impl.TapeWord(impl.Tape{Left: repeat(0, 200), Right: repeat(0, 200)})), "[] 0")
	for _, tape := range tapesWithoutWord() {
		expect(t, show(impl.TapeWord(tape)), "[] 1")
	}
}

func tapesWithoutWord() []impl.Tape {
	var all []impl.Tape
	for _, side := range [][]int64{{10}, {-1}, {0, 10, 0}, {math.MinInt64}, {1, math.MaxInt64}, repeat(0, 201), repeat(1, 201), append(repeat(1, 200), 0)} {
		all = append(all, impl.Tape{Left: side}, impl.Tape{Right: side}, impl.Tape{Left: []int64{1}, Right: side}, impl.Tape{Left: side, Right: side})
	}
	return all
}

func TestPromise7Space(t *testing.T) {
	for tapes, want := range map[string]int64{"": 0, "|": 0, "1|": 1, "|1": 1, "| | |": 0, "12|0 |": 3, "0|0 00|000": 7, "|1 12| 9|123": 7} {
		for _, state := range []int64{0, 1, -1, math.MaxInt64, math.MinInt64} {
			expect(t, show(tapes, state)+" "+show(impl.MultiSpace(multiConfig(state, tapes))), show(tapes, state, want, impl.OK))
		}
	}
	full := impl.Tape{Left: repeat(9, 200), Right: repeat(0, 200)}
	expect(t, show(impl.MultiSpace(impl.MultiConfig{Tapes: []impl.Tape{full, full, full}})), "1200 0")
	expect(t, show(impl.MultiSpace(impl.MultiConfig{Tapes: []impl.Tape{full, full, full, {}}})), "0 1")
	expect(t, show(impl.MultiSpace(multiConfig(0, "| | | |"))), "0 1")
	expect(t, show(impl.MultiSpace(impl.MultiConfig{Tapes: make([]impl.Tape, 1000)})), "0 1")
	for _, tape := range tapesWithoutWord() {
		for i := range 3 {
			c := multiConfig(0, "|1 2| |")
			c.Tapes[i] = tape
			expect(t, show(impl.MultiSpace(c)), "0 1")
		}
	}
}

func TestPromise7HaltingReads(t *testing.T) {
	forSomeMultis(75, 300, func(_ *rand.Rand, m impl.Multi, _ impl.MultiConfig) {
		for state := range m.States {
			want := slices.DeleteFunc(allReads(m), func(read []int64) bool {
				return slices.ContainsFunc(m.Rules, func(r impl.MultiRule) bool { return r.State == state && slices.Equal(r.Read, read) })
			})
			expect(t, show(impl.HaltingReads(m, state)), show(want, impl.OK))
		}
		for _, state := range []int64{-1, m.States, math.MinInt64, math.MaxInt64} {
			expect(t, show(impl.HaltingReads(m, state)), "[] 2")
		}
	})
	expect(t, show(impl.HaltingReads(copyMachine(), 0)), "[[0 0] [0 1] [1 1]] 0")
	expect(t, show(impl.HaltingReads(manyRules(27, 1), 0)), "[] 0")
	last, code := impl.HaltingReads(manyRules(60, 3), 2)
	expect(t, show(last[0], len(last), code), "[0 2 0] 21 0")
	for _, bad := range badMultis() {
		expect(t, show(impl.HaltingReads(bad, 0)), "[] 1")
		expect(t, show(impl.HaltingReads(bad, -1)), "[] 1")
	}
}

func TestPromise7Sequences(t *testing.T) {
	random := rand.New(rand.NewSource(76))
	joined := 0
	for range 4000 {
		a, b := randomMulti(random, 3), randomMulti(random, 3)
		got, code := impl.SequenceMulti(a, b)
		if a.Tapes != b.Tapes || a.Symbols != b.Symbols {
			expect(t, show(got, code), noMulti+" 2")
			continue
		}
		// Where a halts there is a rule to b: a has then one for all symbols in each of its states.
		rules := int(a.States)*len(allReads(a)) + len(b.Rules)
		if rules > impl.MaxMultiRules {
			expect(t, show(got, code), noMulti+" 5")
			continue
		}
		joined++
		expect(t, show(code, impl.ValidMulti(got), got.States, len(got.Rules)), show(impl.OK, true, a.States+b.States, rules))
		expectSequence(t, a, b, got, someMultiConfig(random, a))
	}
	if joined < 300 {
		t.Errorf("only %d pairs are joined", joined)
	}
}

// expectSequence compares the run of two machines one after the other with that of the joined one.
func expectSequence(t *testing.T, a, b, both impl.Multi, c impl.MultiConfig) {
	t.Helper()
	end, steps, halts, _ := impl.RunMulti(a, c, 100)
	if !halts {
		expect(t, show(impl.RunMulti(both, c, 100)), show(end, steps, false, impl.OK))
		return
	}
	end.State = a.States
	if steps > 0 {
		last, made, over, code := impl.RunMulti(both, c, steps+1)
		expect(t, show(last, made, code), show(end, steps+1, impl.OK))
		end.State = 0
		expect(t, show(over), show(haltsAt(b, end)))
	}
	end.State = 0
	second, others, over, _ := impl.RunMulti(b, end, 100)
	second.State += a.States
	expect(t, show(impl.RunMulti(both, c, steps+1+100)), show(second, steps+1+others, over, impl.OK))
}

func haltsAt(m impl.Multi, c impl.MultiConfig) bool {
	_, code := impl.MultiRuleAt(m, c)
	return code == impl.ErrNotFound
}

func TestPromise7SequenceTexts(t *testing.T) {
	nothing := multiOf(t, "2 2 1")
	both, code := impl.SequenceMulti(nothing, nothing)
	expect(t, show(impl.MultiText(both), code), show("2 2 2\n0 00 00 SS 1\n0 01 01 SS 1\n0 10 10 SS 1\n0 11 11 SS 1", impl.OK))
	late := multiOf(t, "2 2 2\n1 01 11 LR 0")
	both, code = impl.SequenceMulti(late, copyMachine())
	expect(t, show(impl.MultiText(both), code), show("2 2 3\n0 00 00 SS 2\n0 01 01 SS 2\n0 10 10 SS 2\n0 11 11 SS 2\n"+
		"1 00 00 SS 2\n1 01 11 LR 0\n1 10 10 SS 2\n1 11 11 SS 2\n2 10 11 RR 2", impl.OK))
	whole := multiOf(t, "2 2 1\n0 00 00 SS 0\n0 01 00 SS 0\n0 10 00 SS 0\n0 11 00 SS 0")
	both, code = impl.SequenceMulti(whole, late)
	expect(t, show(impl.MultiText(both), code), show("2 2 3\n0 00 00 SS 0\n0 01 00 SS 0\n0 10 00 SS 0\n0 11 00 SS 0\n2 01 11 LR 1", impl.OK))
}

func TestPromise7SequenceLimits(t *testing.T) {
	// Each state of the first machine comes to have 4 rules.
	small := func(states int64) impl.Multi { return impl.Multi{Tapes: 2, Symbols: 2, States: states} }
	for states := int64(1); states <= 15; states++ {
		for others := int64(1); others <= 16; others++ {
			both, code := impl.SequenceMulti(small(states), small(others))
			if states+others <= 16 {
				expect(t, show(both.States, len(both.Rules), code), show(states+others, 4*states, impl.OK))
			} else {
				expect(t, show(both, code), noMulti+" 5")
			}
		}
	}
	expect(t, show(impl.SequenceMulti(small(16), small(1))), noMulti+" 5")
	first, second := manyRules(0, 2), manyRules(6, 1)
	both, code := impl.SequenceMulti(first, second)
	expect(t, show(both.States, len(both.Rules), code), "3 60 0")
	expect(t, show(impl.SequenceMulti(first, manyRules(7, 1))), noMulti+" 5")
	expect(t, show(impl.SequenceMulti(manyRules(5, 3), second)), noMulti+" 5")
	both, code = impl.SequenceMulti(manyRules(27, 1), impl.Multi{Tapes: 3, Symbols: 3, States: 15, Rules: manyRules(33, 2).Rules})
	expect(t, show(both.States, len(both.Rules), code), "16 60 0")
	expect(t, show(impl.SequenceMulti(manyRules(27, 1), impl.Multi{Tapes: 3, Symbols: 3, States: 16, Rules: manyRules(33, 2).Rules})), noMulti+" 5")
	expect(t, show(impl.SequenceMulti(manyRules(27, 1), manyRules(34, 2))), noMulti+" 5")
}

func TestPromise7OtherSequences(t *testing.T) {
	kinds := []impl.Multi{{Tapes: 2, Symbols: 2, States: 16}, {Tapes: 2, Symbols: 3, States: 16}, {Tapes: 3, Symbols: 2, States: 16}, {Tapes: 3, Symbols: 3, States: 16}}
	for i, a := range kinds {
		for k, b := range kinds {
			want := int64(impl.ErrRange)
			if i == k {
				want = impl.ErrFull
			}
			expect(t, show(impl.SequenceMulti(a, b)), show(impl.Multi{}, want))
		}
	}
	for _, bad := range badMultis() {
		for _, good := range kinds {
			expect(t, show(impl.SequenceMulti(bad, good)), noMulti+" 1")
			expect(t, show(impl.SequenceMulti(good, bad)), noMulti+" 1")
		}
		expect(t, show(impl.SequenceMulti(bad, bad)), noMulti+" 1")
	}
}

// A word is copied, then the copy is given back by a machine with its tapes exchanged: nothing changes any more.
func TestPromise7SequenceOfThree(t *testing.T) {
	once, _ := impl.CopyMulti(3)
	back := multiOf(t, "2 3 1\n0 00 00 LL 0")
	both, code := impl.SequenceMulti(once, back)
	if code != impl.OK {
		t.Fatal(code)
	}
	c := multiConfig(0, "|1221 |")
	end, steps, halts, code := impl.RunMulti(both, c, 100)
	expect(t, show(tapesText(end), steps, halts, code), show("1 122|1 122|1", 6, true, impl.OK))
	turned, _ := impl.PermuteTapes(once, []int64{1, 0})
	three, code := impl.SequenceMulti(both, turned)
	end, steps, halts, _ = impl.RunMulti(three, c, 100)
	expect(t, show(tapesText(end), steps, halts, code), show("2 122|1 122|1", 7, true, impl.OK))
}

func TestPromise7PermutedTapes(t *testing.T) {
	forSomeMultis(77, 800, func(random *rand.Rand, m impl.Multi, c impl.MultiConfig) {
		order := somePermutation(random, m.Tapes)
		turned, code := impl.PermuteTapes(m, order)
		expect(t, show(code, impl.ValidMulti(turned), turned.Tapes, turned.Symbols, turned.States, len(turned.Rules)), show(impl.OK, true, m.Tapes, m.Symbols, m.States, len(m.Rules)))
		turn := func(c impl.MultiConfig) impl.MultiConfig {
			changed := impl.MultiConfig{State: c.State}
			for _, k := range order {
				changed.Tapes = append(changed.Tapes, c.Tapes[k])
			}
			return changed
		}
		trace, _ := impl.TraceMulti(m, c, 40)
		var want []impl.MultiConfig
		for _, each := range trace {
			want = append(want, turn(each))
		}
		expect(t, show(impl.TraceMulti(turned, turn(c), 40)), show(want, impl.OK))
		back, _ := impl.PermuteTapes(turned, inverse(order))
		expect(t, show(back), show(m))
		same, _ := impl.PermuteTapes(m, []int64{0, 1, 2}[:m.Tapes])
		expect(t, show(same), show(m))
	})
	m := multiLines(t, "3 3 2", "0 012 120 LSR 1", "0 100 000 RLS 0", "1 000 012 SLR 0")
	turned, _ := impl.PermuteTapes(m, []int64{2, 0, 1})
	expect(t, show(impl.MultiText(turned)), show("3 3 2\n0 010 000 SRL 0\n0 201 012 RLS 1\n1 000 201 RSL 0"))
}

func TestPromise7OtherPermutations(t *testing.T) {
	two, three := impl.Multi{Tapes: 2, Symbols: 2, States: 1}, impl.Multi{Tapes: 3, Symbols: 2, States: 1}
	for _, order := range [][]int64{
		nil, {0}, {1}, {0, 0}, {1, 1}, {0, 2}, {1, 2}, {-1, 0}, {0, math.MaxInt64}, {math.MinInt64, 1}, {0, 0, 1}, {0, 1, 1}, {0, 1, 3}, {2, 2, 2}, {-1, 0, 1}, {0, 1, 2, 3},
		{0, 1, 2, 0}, {0, 1, 0, 1}, repeat(0, 1000),
	} {
		expect(t, show(impl.PermuteTapes(two, order)), noMulti+" 2")
		expect(t, show(impl.PermuteTapes(three, order)), noMulti+" 2")
	}
	for _, order := range [][]int64{{0, 1}, {1, 0}} {
		expect(t, show(impl.PermuteTapes(two, order)), show(two, impl.OK))
		expect(t, show(impl.PermuteTapes(three, order)), noMulti+" 2")
	}
	for _, order := range [][]int64{{0, 1, 2}, {2, 1, 0}, {1, 2, 0}} {
		expect(t, show(impl.PermuteTapes(three, order)), show(three, impl.OK))
		expect(t, show(impl.PermuteTapes(two, order)), noMulti+" 2")
	}
	for _, bad := range badMultis() {
		expect(t, show(impl.PermuteTapes(bad, []int64{0, 1})), noMulti+" 1")
		expect(t, show(impl.PermuteTapes(bad, []int64{0, 0})), noMulti+" 1")
	}
}

// wordsUpTo returns all words of the letters 1 to the greatest one, up to a length.
func wordsUpTo(greatest int64, length int) [][]int64 {
	all := [][]int64{nil}
	for at := 0; at < len(all); at++ {
		if len(all[at]) == length {
			continue
		}
		for letter := int64(1); letter <= greatest; letter++ {
			all = append(all, append(slices.Clone(all[at]), letter))
		}
	}
	return all
}

func TestPromise7Copies(t *testing.T) {
	three, _ := impl.CopyMulti(3)
	expect(t, show(impl.MultiText(three)), show("2 3 1\n0 10 11 RR 0\n0 20 22 RR 0"))
	for _, symbols := range []int64{2, 3} {
		m, _ := impl.CopyMulti(symbols)
		words := append(wordsUpTo(symbols-1, 7), repeat(1, 199), repeat(1, 200), repeat(symbols-1, 200))
		for _, w := range words {
			c, _ := impl.StartMulti(m, [][]int64{w, nil})
			end, steps, halts, code := impl.RunMulti(m, c, 1000)
			opposite := slices.Clone(w)
			slices.Reverse(opposite)
			expect(t, show(end, steps, halts, code), show(impl.MultiConfig{Tapes: []impl.Tape{{Left: opposite}, {Left: opposite}}}, len(w), true, impl.OK))
			for _, tape := range end.Tapes {
				expect(t, show(impl.TapeWord(tape)), show(w, impl.OK))
			}
		}
	}
	// It ends at the first blank of the word, and where something stands on the other tape.
	c, _ := impl.StartMulti(three, [][]int64{{1, 2, 0, 1}, {0, 0, 1}})
	end, steps, halts, _ := impl.RunMulti(three, c, 10)
	expect(t, show(tapesText(end), steps, halts), show("0 12|01 12|1", 2, true))
	c, _ = impl.StartMulti(three, [][]int64{{1, 2, 2}, {0, 1}})
	end, steps, halts, _ = impl.RunMulti(three, c, 10)
	expect(t, show(tapesText(end), steps, halts), show("0 1|22 1|1", 1, true))
	for _, symbols := range []int64{0, 1, 4, -1, -2, math.MinInt64, math.MaxInt64} {
		expect(t, show(impl.CopyMulti(symbols)), noMulti+" 2")
		expect(t, show(impl.PalindromeMulti(symbols)), noMulti+" 2")
	}
}

func TestPromise7Palindromes(t *testing.T) {
	two, code := impl.PalindromeMulti(2)
	expect(t, show(impl.MultiText(two), code), show("2 2 4\n0 00 00 LS 1\n0 10 11 RR 0\n1 00 00 RL 2\n1 10 10 LS 1\n2 00 00 SS 3\n2 11 11 RL 2", impl.OK))
	three, code := impl.PalindromeMulti(3)
	expect(t, show(impl.MultiText(three), code), show("2 3 4\n0 00 00 LS 1\n0 10 11 RR 0\n0 20 22 RR 0\n1 00 00 RL 2\n1 10 10 LS 1\n1 20 20 LS 1\n2 00 00 SS 3\n2 11 11 RL 2\n2 22 22 RL 2", impl.OK))
	for _, m := range []impl.Multi{two, three} {
		for _, w := range wordsUpTo(m.Symbols-1, 8) {
			opposite := slices.Clone(w)
			slices.Reverse(opposite)
			c, _ := impl.StartMulti(m, [][]int64{w, nil})
			end, steps, halts, code := impl.RunMulti(m, c, 1000)
			expect(t, show(w, end.State == 3, halts, code), show(w, slices.Equal(w, opposite), true, impl.OK))
			if end.State == 3 {
				expect(t, show(w, steps), show(w, 3*len(w)+3))
			}
			for _, tape := range end.Tapes {
				expect(t, show(impl.TapeWord(tape)), show(w, impl.OK))
			}
		}
		// The head of the first tape goes one cell to the left of the word, so that one letter less has room.
		c, _ := impl.StartMulti(m, [][]int64{repeat(1, 199), nil})
		end, steps, halts, code := impl.RunMulti(m, c, 1000)
		expect(t, show(end.State, steps, halts, code), "3 600 true 0")
		c, _ = impl.StartMulti(m, [][]int64{repeat(1, 200), nil})
		expect(t, show(impl.RunMulti(m, c, 1000)), noMultiConfig+" 0 false 5")
	}
}

func TestPromise7InvalidRuns(t *testing.T) {
	m := copyMachine()
	for _, c := range sampleMultiConfigs() {
		if !impl.ValidMultiConfig(m, c) {
			expectInvalidRuns(t, m, c)
		}
	}
	for _, bad := range badMultis() {
		expectInvalidRuns(t, bad, multiConfig(0, "| |"))
		expectInvalidRuns(t, bad, impl.MultiConfig{})
	}
}

func expectInvalidRuns(t *testing.T, m impl.Multi, c impl.MultiConfig) {
	t.Helper()
	expect(t, show(impl.MultiRuleAt(m, c)), "0 1")
	expect(t, show(impl.StepMulti(m, c)), noMultiConfig+" 1")
	for _, n := range []int64{0, 1, -1, math.MaxInt64} {
		expect(t, show(impl.RunMulti(m, c, n)), noMultiConfig+" 0 false 1")
		expect(t, show(impl.TraceMulti(m, c, n)), "[] 1")
	}
}
