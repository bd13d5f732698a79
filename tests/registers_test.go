package tests

import (
	"fmt"
	"math"
	"math/rand"
	"slices"
	"strings"
	"testing"

	"loop.example/g01079/impl"
)

// noStore is what a store looks like beside an error.
const noStore = "{0 []}"

// adder is the program of the example: it adds the register 0 to the register 1, and makes it 0.
const adder = "-0>1:2;+1>0"

func programOf(t *testing.T, s string) []impl.Instr {
	t.Helper()
	return mustRead(t, impl.ReadProgram, s)
}

func inc(register, then int64) impl.Instr {
	return impl.Instr{Kind: impl.InstrInc, Register: register, Then: then}
}

func dec(register, then, otherwise int64) impl.Instr {
	return impl.Instr{Kind: impl.InstrDec, Register: register, Then: then, Else: otherwise}
}

// chainOf returns a program with so many instructions that add 1 to the register 0, one after the other.
func chainOf(many int) []impl.Instr {
	var p []impl.Instr
	for i := range int64(many) {
		p = append(p, inc(0, i+1))
	}
	return p
}

// storeAt returns the store at an index whose contents begin with some numbers.
func storeAt(at int64, contents ...int64) impl.Store {
	return impl.Store{At: at, Contents: append(slices.Clone(contents), repeat(0, impl.MaxRegisters-len(contents))...)}
}

// badInstrs are instructions that no program with two instructions has.
var badInstrs = []impl.Instr{
	{Kind: 2}, {Kind: -1}, {Kind: math.MaxInt64}, {Kind: math.MinInt64}, {Kind: 2, Else: 1}, inc(24, 0), inc(-1, 0), inc(math.MaxInt64, 0), inc(math.MinInt64, 0),
	inc(0, 3), inc(0, -1), inc(0, math.MaxInt64), inc(0, math.MinInt64), {Else: 1}, {Else: 2}, {Else: 3}, {Else: -1}, {Else: math.MaxInt64}, {Else: math.MinInt64},
	dec(24, 0, 0), dec(-1, 0, 0), dec(math.MaxInt64, 0, 0), dec(0, 3, 0), dec(0, -1, 0), dec(0, math.MinInt64, 0), dec(0, 0, 3), dec(0, 0, -1), dec(0, 0, math.MaxInt64),
	dec(0, 0, math.MinInt64),
}

// badPrograms returns programs that are not valid, each for another reason.
func badPrograms() [][]impl.Instr {
	all := [][]impl.Instr{chainOf(401), slices.Repeat([]impl.Instr{{}}, 401), chainOf(1000), {inc(0, 2)}, {dec(0, 2, 0)}, {dec(0, 0, 2)}}
	for _, bad := range badInstrs {
		all = append(all, []impl.Instr{bad, {}}, []impl.Instr{{}, bad})
	}
	return all
}

func samplePrograms() [][]impl.Instr {
	all := [][]impl.Instr{nil, {}, chainOf(1), chainOf(200), chainOf(399), chainOf(400), chainOf(401), slices.Repeat([]impl.Instr{{}}, 401)}
	for _, s := range []string{adder, "+0>0", "-0>0:1", "-23>1:0", "-1>2:3;+5>0;-2>3:1", "+1>2;+2>0;+3>3", "+23>1;-0>2:2"} {
		p, _ := impl.ReadProgram(s)
		all = append(all, p)
	}
	for _, bad := range badInstrs[:16] {
		all = append(all, []impl.Instr{{}, bad})
	}
	return all
}

// fewPrograms returns enough of them where a function has many parameters.
func fewPrograms() [][]impl.Instr {
	return [][]impl.Instr{nil, {}, {inc(23, 1)}, {dec(0, 1, 0), inc(1, 0)}, {inc(0, 0), dec(24, 0, 0)}, {{Else: 1}}, chainOf(199), chainOf(398), chainOf(400), chainOf(401)}
}

// badContents are what the registers of no store contain.
func badContents() [][]int64 {
	all := [][]int64{nil, {0}, repeat(0, 23), repeat(0, 25), repeat(1, 1000)}
	for _, content := range []int64{-1, impl.MaxCount + 1, math.MinInt64, math.MaxInt64} {
		all = append(all, append(repeat(0, 23), content), append([]int64{content}, repeat(0, 23)...))
	}
	return all
}

func sampleStores() []impl.Store {
	all := []impl.Store{{}, storeAt(0), storeAt(1), storeAt(2, 3, 2), storeAt(3), storeAt(400), storeAt(-1), storeAt(401), storeAt(math.MinInt64), storeAt(math.MaxInt64),
		storeAt(0, 3, 2), storeAt(1, repeat(impl.MaxCount, 24)...), storeAt(0, impl.MaxCount), storeAt(0, 0, impl.MaxCount)}
	for _, contents := range badContents() {
		all = append(all, impl.Store{Contents: contents})
	}
	return all
}

// randomProgram returns a valid program with at most so many instructions that uses the first ones of the registers.
func randomProgram(random *rand.Rand, most int, registers int64) []impl.Instr {
	var p []impl.Instr
	length := int64(random.Intn(most + 1))
	for range length {
		i := impl.Instr{Kind: random.Int63n(2), Register: random.Int63n(registers), Then: random.Int63n(length + 1)}
		if i.Kind == impl.InstrDec {
			i.Else = random.Int63n(length + 1)
		}
		p = append(p, i)
	}
	return p
}

func randomStore(random *rand.Rand, p []impl.Instr, registers int) impl.Store {
	x := storeAt(random.Int63n(int64(len(p)) + 1))
	for register := range registers {
		x.Contents[register] = random.Int63n(5)
	}
	return x
}

// forSomePrograms checks many small programs with a store of each.
func forSomePrograms(seed int64, many int, check func(random *rand.Rand, p []impl.Instr, x impl.Store)) {
	random := rand.New(rand.NewSource(seed))
	for range many {
		p := randomProgram(random, 7, 3)
		check(random, p, randomStore(random, p, 3))
	}
}

func copiedStore(x impl.Store) impl.Store {
	return impl.Store{At: x.At, Contents: slices.Clone(x.Contents)}
}

var programCalls = calls[[]impl.Instr, impl.Store]{impl.StepProgram, impl.RunProgram, impl.TraceProgram}

// storeModel runs a program in the plainest way, with contents up to most.
type storeModel struct {
	p    []impl.Instr
	x    impl.Store
	most int64
}

func newStoreModel(p []impl.Instr, x impl.Store) *storeModel {
	return &storeModel{p, copiedStore(x), 1000000}
}

func (m *storeModel) config() impl.Store { return copiedStore(m.x) }

func (m *storeModel) halts() bool { return m.x.At == int64(len(m.p)) }

func (m *storeModel) step() int64 {
	if m.halts() {
		return impl.ErrState
	}
	i := m.p[m.x.At]
	if i.Kind == impl.InstrInc {
		m.x.Contents[i.Register]++
		m.x.At = i.Then
		if m.x.Contents[i.Register] > m.most {
			return impl.ErrFull
		}
		return impl.OK
	}
	if m.x.Contents[i.Register] == 0 {
		m.x.At = i.Else
		return impl.OK
	}
	m.x.Contents[i.Register]--
	m.x.At = i.Then
	return impl.OK
}

func TestPromise8Example(t *testing.T) {
	p := programOf(t, adder)
	expect(t, show(p, impl.ProgramText(p)), show([]impl.Instr{{Kind: 1, Register: 0, Then: 1, Else: 2}, {Kind: 0, Register: 1, Then: 0}}, adder))
	x, code := impl.StartStore(p, []int64{3, 2})
	expect(t, show(x, code), show(storeAt(0, 3, 2), impl.OK))
	expect(t, show(impl.RunProgram(p, x, 100)), show(storeAt(2, 0, 5), 7, true, impl.OK))
	expect(t, show(impl.TraceProgram(p, x, 3)), show([]impl.Store{storeAt(0, 3, 2), storeAt(1, 2, 2), storeAt(0, 2, 3), storeAt(1, 1, 3)}, impl.OK))
	moved, code := impl.MoveRegister(0, []int64{1})
	expect(t, show(impl.ProgramText(moved), code), show(adder, impl.OK))
}

func TestPromise8Constants(t *testing.T) {
	expect(t, show(impl.MaxProgram, impl.MaxRegisters, impl.MaxCount, impl.InstrInc, impl.InstrDec), "400 24 1000000 0 1")
}

func TestPromise8ValidPrograms(t *testing.T) {
	for i, p := range badPrograms() {
		if impl.ValidProgram(p) {
			t.Errorf("the program %d is valid: %v", i, p)
		}
	}
	for _, p := range [][]impl.Instr{
		nil, {}, {{}}, {inc(23, 1)}, {dec(23, 1, 0)}, {dec(0, 0, 1)}, {dec(0, 1, 1)}, {inc(0, 2), {}}, {{}, dec(23, 2, 2)}, chainOf(400),
		slices.Repeat([]impl.Instr{dec(23, 400, 400)}, 400), slices.Repeat([]impl.Instr{inc(23, 400)}, 400),
	} {
		if !impl.ValidProgram(p) {
			t.Errorf("%v is not valid", p)
		}
	}
	for at := int64(-2); at <= 6; at++ {
		for length := range int64(5) {
			p := make([]impl.Instr, length)
			for place := range p {
				for _, i := range []impl.Instr{inc(5, at), dec(5, at, 0), dec(5, 0, at)} {
					p[place] = i
					expect(t, show(p, impl.ValidProgram(p)), show(p, at >= 0 && at <= length))
				}
				p[place] = impl.Instr{Else: at}
				expect(t, show(p, impl.ValidProgram(p)), show(p, at == 0))
				p[place] = impl.Instr{}
			}
		}
	}
	forSomePrograms(80, 300, func(random *rand.Rand, p []impl.Instr, _ impl.Store) {
		expect(t, show(impl.ValidProgram(p)), "true")
		if len(p) == 0 {
			return
		}
		p[random.Intn(len(p))].Kind = 2
		expect(t, show(impl.ValidProgram(p)), "false")
	})
}

func TestPromise8ProgramTexts(t *testing.T) {
	forSomePrograms(81, 500, func(_ *rand.Rand, p []impl.Instr, _ impl.Store) {
		back, ok := impl.ReadProgram(impl.ProgramText(p))
		expect(t, show(back, ok), show(p, true))
	})
	for _, p := range badPrograms() {
		expect(t, show(impl.ProgramText(p)), `""`)
	}
	for _, p := range [][]impl.Instr{nil, {}} {
		expect(t, show(impl.ProgramText(p)), `"."`)
	}
	p := []impl.Instr{inc(10, 3), dec(23, 2, 1), dec(0, 0, 3)}
	expect(t, show(impl.ProgramText(p)), `"+10>3;-23>2:1;-0>0:3"`)
	great := slices.Repeat([]impl.Instr{dec(23, 399, 400)}, 400)
	text := impl.ProgramText(great)
	expect(t, show(text), show(strings.TrimSuffix(strings.Repeat("-23>399:400;", 400), ";")))
	back, ok := impl.ReadProgram(text)
	expect(t, show(back, ok), show(great, true))
	long, ok := impl.ReadProgram(text + ";-23>399:400")
	expect(t, show(long, ok), "[] false")
}

func TestPromise8OtherProgramTexts(t *testing.T) {
	bad := []string{
		"", " ", "..", ". ", " .", ".;", ";.", ".;.", ".;+0>1", "+0>1;.", "-", "+", ";", ";;", "+0>1;", ";+0>1", "+0>1;;+0>1", "+0>1,+0>1", "+0>1 ;+0>1", "+0>1; +0>1", "+0>1\n", " +0>1", "+0>1 ",
		"0>1", "*0>1", "0>1:1", "*0>1:1", "00>1:1", "\xff0>1:1", "\u22120>1:1", ",0>1:1", "++0>1", "--0>1:1", "+-0>1", "-+0>1:0", "+>1", "+0>", "+0", "+01", "+0<1", "+0>>1", ">", "+>", "->:", "-0>:", "-0>1:", "-0>:1", "-0>1", "-0>1:1:1", "-0>1::1", "-0:1>1", "+0>1:0", "+0>1:", "+0>0:1",
		"+24>1", "+-1>1", "-24>1:1", "--1>1:1", "+0>2", "+0>-1", "-0>2:1", "-0>1:2", "-0>-1:1", "-0>1:-1", "+0>-0", "-0>-0:1", "-0>1:-0", "+00>1", "+0>01", "+0>00", "-00>1:1", "-0>01:1", "-0>1:01", "+0>+1", "-0>1:+1", "+ 0>1",
		"+0> 1", "+0 >1", "-0>1: 1", "-0>1 :1", "+0>1.0", "+0>1e0", "+0x0>1", "+0>0x1", "+1_0>1", "+a>1", "+0>a", "-0>1:a", "INC 0 1", "+99999999999999999999>1", "+0>99999999999999999999", "-0>1:18446744073709551617", "+4294967296>1",
		"\uff0b0>1", "+\uff10>1", "+0>\uff11", "+0\uff1e1", "\x00", "+0>1\x00", "\xff0>1", "+0>1;+0>3", "+0>3;+0>1", "-0>0:1;-0>0:3", "+0>1;+0>1;+0>1;+24>1", "+0>1;+0>1:0",
	}
	for _, s := range bad {
		p, ok := impl.ReadProgram(s)
		expect(t, show(s, p, ok), show(s, []impl.Instr{}, false))
	}
	for _, s := range []string{strings.Repeat(";", 100000), strings.Repeat("+", 100000), strings.Repeat(".", 100000), "+" + strings.Repeat("0", 100000) + ">1", "+0>" + strings.Repeat("1", 100000)} {
		p, ok := impl.ReadProgram(s)
		expect(t, show(len(p), ok), "0 false")
	}
	for _, s := range []string{".", "+0>0", "+0>1", "+23>1", "-0>0:1", "-23>1:1", "-0>0:0", "+0>2;+0>2", "-0>1:2;-0>2:0", adder} {
		p, ok := impl.ReadProgram(s)
		expect(t, show(impl.ProgramText(p), ok), show(s, true))
	}
	for many := 398; many <= 402; many++ {
		p, ok := impl.ReadProgram(strings.TrimSuffix(strings.Repeat("+1>0;", many), ";"))
		expect(t, show(many, len(p), ok), show(many, many*btoi(many <= 400), many <= 400))
	}
}

func TestPromise8ValidStores(t *testing.T) {
	p := programOf(t, adder)
	for _, contents := range badContents() {
		for _, at := range []int64{0, 2} {
			expect(t, show(impl.ValidStore(p, impl.Store{At: at, Contents: contents})), "false")
			expect(t, show(impl.ValidStore(nil, impl.Store{Contents: contents})), "false")
		}
	}
	for register := range impl.MaxRegisters {
		for _, content := range []int64{-1, 0, 1, 999999, 1000000, 1000001, math.MaxInt64, math.MinInt64} {
			x := storeAt(0)
			x.Contents[register] = content
			expect(t, show(register, content, impl.ValidStore(p, x)), show(register, content, content >= 0 && content <= 1000000))
		}
	}
	for _, length := range []int64{0, 1, 2, 3, 399, 400} {
		for _, at := range []int64{-1, 0, 1, length - 1, length, length + 1, math.MinInt64, math.MaxInt64} {
			got := impl.ValidStore(chainOf(int(length)), storeAt(at, repeat(impl.MaxCount, 24)...))
			expect(t, show(length, at, got), show(length, at, at >= 0 && at <= length))
		}
	}
	for _, bad := range badPrograms() {
		expect(t, show(impl.ValidStore(bad, storeAt(0))), "false")
	}
}

func TestPromise8Starts(t *testing.T) {
	for _, p := range [][]impl.Instr{nil, chainOf(1), chainOf(400)} {
		for _, contents := range [][]int64{nil, {}, {0}, {7}, {0, impl.MaxCount}, repeat(impl.MaxCount, 23), repeat(impl.MaxCount, 24), repeat(0, 24)} {
			expect(t, show(impl.StartStore(p, contents)), show(storeAt(0, contents...), impl.OK))
		}
		for _, contents := range badContents()[3:] {
			expect(t, show(impl.StartStore(p, contents)), noStore+" 2")
		}
		for _, contents := range [][]int64{{-1}, {0, impl.MaxCount + 1}, {math.MaxInt64}, {math.MinInt64, 0}} {
			expect(t, show(impl.StartStore(p, contents)), noStore+" 2")
		}
	}
	for _, bad := range badPrograms() {
		expect(t, show(impl.StartStore(bad, nil)), noStore+" 1")
		expect(t, show(impl.StartStore(bad, []int64{-1})), noStore+" 1")
		expect(t, show(impl.StartStore(bad, repeat(0, 25))), noStore+" 1")
	}
}

// contentsText returns the text of contents that begin with some numbers.
func contentsText(contents ...int64) string {
	return strings.ReplaceAll(strings.Trim(fmt.Sprint(storeAt(0, contents...).Contents), "[]"), " ", ",")
}

func TestPromise8StoreTexts(t *testing.T) {
	forSomePrograms(82, 500, func(random *rand.Rand, p []impl.Instr, x impl.Store) {
		x.Contents[random.Intn(24)] = random.Int63n(impl.MaxCount + 1)
		text := impl.StoreText(p, x)
		expect(t, show(text), show(fmt.Sprint(x.At)+":"+contentsText(x.Contents...)))
		back, ok := impl.ReadStore(p, text)
		expect(t, show(back, ok), show(x, true))
	})
	full := storeAt(400, repeat(impl.MaxCount, 24)...)
	text := "400:" + strings.TrimSuffix(strings.Repeat("1000000,", 24), ",")
	expect(t, show(impl.StoreText(chainOf(400), full)), show(text))
	back, ok := impl.ReadStore(chainOf(400), text)
	expect(t, show(back, ok), show(full, true))
	expect(t, show(impl.StoreText(nil, storeAt(0, 1))), show("0:1,0,0,0,0,0,0,0,0,0,0,0,0,0,0,0,0,0,0,0,0,0,0,0"))
	expect(t, show(impl.StoreText(nil, storeAt(1))), `""`)
	p := programOf(t, adder)
	for _, contents := range badContents() {
		expect(t, show(impl.StoreText(p, impl.Store{Contents: contents})), `""`)
	}
	for _, at := range []int64{-1, 3, math.MinInt64, math.MaxInt64} {
		expect(t, show(impl.StoreText(p, storeAt(at))), `""`)
	}
	for _, bad := range badPrograms() {
		expect(t, show(impl.StoreText(bad, storeAt(0))), `""`)
		back, ok := impl.ReadStore(bad, "0:"+contentsText())
		expect(t, show(back, ok), noStore+" false")
	}
}

func TestPromise8OtherStoreTexts(t *testing.T) {
	p, list := programOf(t, adder), contentsText(3, 2)
	bad := []string{
		"", ":", "0", "0:", ":" + list, list, "0" + list, "0," + list, "0;" + list, "0::" + list, "0:" + list + ":", "0:" + list + ",", "0:," + list, "0:" + list + ",0", "0:" + list + ":0", "0:" + list + "\n", " 0:" + list, "0 :" + list,
		"0: " + list, "0:" + list + " ", "00:" + list, "-0:" + list, "+0:" + list, "-1:" + list, "3:" + list, "a:" + list, "18446744073709551616:" + list, "0:" + strings.TrimSuffix(list, ",0"), "0:0" + list, "0:-" + list, "0:+" + list,
		"0:-", "0:.", "0:0", "0:" + strings.ReplaceAll(list, ",", ", "), "0:" + strings.ReplaceAll(list, ",", ";"), "0:" + strings.Replace(list, "3", "1000001", 1), "0:" + strings.Replace(list, "3", "-1", 1), "0:" + strings.Replace(list, "2", "", 1),
		"0:" + strings.Replace(list, "2", "-0", 1), "0:" + strings.Replace(list, "2", "02", 1), "0:" + strings.Replace(list, "2", "x", 1), "0:" + strings.Replace(list, "2", "18446744073709551618", 1), "\uff10:" + list, "0\uff1a" + list, "0:" + list + "\x00",
	}
	for _, s := range bad {
		x, ok := impl.ReadStore(p, s)
		expect(t, show(s, x, ok), show(s, impl.Store{}, false))
	}
	for _, s := range []string{"0:" + strings.Repeat("0,", 100000), strings.Repeat(":", 100000), strings.Repeat("0", 100000) + ":" + list} {
		x, ok := impl.ReadStore(p, s)
		expect(t, show(x.At, len(x.Contents), ok), "0 0 false")
	}
	for _, at := range []int64{0, 1, 2} {
		s := fmt.Sprint(at) + ":" + list
		x, ok := impl.ReadStore(p, s)
		expect(t, show(x, ok), show(storeAt(at, 3, 2), true))
	}
	x, ok := impl.ReadStore(nil, "1:"+list)
	expect(t, show(x, ok), noStore+" false")
}

func TestPromise8SingleSteps(t *testing.T) {
	p := programOf(t, "+1>2;-1>3:0;-0>0:4;+23>4")
	most, last := int64(impl.MaxCount), repeat(0, 23)
	for _, c := range []struct{ from, to impl.Store }{
		{storeAt(0), storeAt(2, 0, 1)}, {storeAt(0, 5, 6), storeAt(2, 5, 7)}, {storeAt(0, 0, most-1), storeAt(2, 0, most)}, {storeAt(0, most), storeAt(2, most, 1)},
		{storeAt(1), storeAt(0)}, {storeAt(1, 4), storeAt(0, 4)}, {storeAt(1, 4, 1), storeAt(3, 4)}, {storeAt(1, 4, most), storeAt(3, 4, most-1)}, {storeAt(1, 0, 1), storeAt(3)},
		{storeAt(2), storeAt(4)}, {storeAt(2, 0, 7), storeAt(4, 0, 7)}, {storeAt(2, 2, 7), storeAt(0, 1, 7)}, {storeAt(3), storeAt(4, append(last, 1)...)},
		{storeAt(3, repeat(most-1, 24)...), storeAt(4, append(repeat(most-1, 23), most)...)},
	} {
		expect(t, show(impl.StepProgram(p, c.from)), show(c.to, impl.OK))
	}
	expect(t, show(impl.StepProgram(p, storeAt(4, 1, 2))), noStore+" 6")
	expect(t, show(impl.StepProgram(p, storeAt(0, 0, most))), noStore+" 5")
	expect(t, show(impl.StepProgram(p, storeAt(3, append(last, most)...))), noStore+" 5")
	expect(t, show(impl.StepProgram(p, storeAt(4, repeat(most, 24)...))), noStore+" 6")
}

// Runs of each length up to one that is too long are compared with the model: where they end, and what is on the way.
func TestPromise8RunsAreThoseOfTheModel(t *testing.T) {
	t.Parallel()
	forSomePrograms(83, 600, func(_ *rand.Rand, p []impl.Instr, x impl.Store) {
		programCalls.expectRuns(t, p, newStoreModel(p, x))
	})
}

func TestPromise8RunsGoOn(t *testing.T) {
	forSomePrograms(84, 1000, func(random *rand.Rand, p []impl.Instr, x impl.Store) {
		first, second := 1+random.Int63n(90), 1+random.Int63n(90)
		middle, made, _, code := impl.RunProgram(p, x, first)
		end, more, halts, again := impl.RunProgram(p, middle, second)
		expect(t, show(code, again, impl.ValidStore(p, middle)), "0 0 true")
		expect(t, show(impl.RunProgram(p, x, first+second)), show(end, made+more, halts, impl.OK))
	})
}

func TestPromise8Budgets(t *testing.T) {
	p := programOf(t, adder)
	x := storeAt(0, 3, 2)
	for budget, want := range map[int64]string{1: "1 false", 6: "6 false", 7: "7 true", 8: "7 true", impl.MaxBudget: "7 true"} {
		_, steps, halts, code := impl.RunProgram(p, x, budget)
		expect(t, show(budget, steps, halts, code), show(budget)+" "+want+" 0")
	}
	end := storeAt(2, 4, 1)
	expect(t, show(impl.RunProgram(p, end, 1)), show(end, 0, true, impl.OK))
	expect(t, show(impl.TraceProgram(p, end, impl.MaxTrace)), show([]impl.Store{end}, impl.OK))
	endless := programOf(t, "-0>0:0")
	expect(t, show(impl.RunProgram(endless, storeAt(0, 5), impl.MaxBudget)), show(storeAt(0), impl.MaxBudget, false, impl.OK))
	grows := programOf(t, "+5>0")
	expect(t, show(impl.RunProgram(grows, storeAt(0), impl.MaxBudget)), show(storeAt(0, 0, 0, 0, 0, 0, impl.MaxBudget), impl.MaxBudget, false, impl.OK))
	for _, budget := range []int64{0, -1, impl.MaxBudget + 1, math.MinInt64, math.MaxInt64} {
		for _, x := range []impl.Store{storeAt(0), end, storeAt(0, repeat(impl.MaxCount, 24)...)} {
			expect(t, show(impl.RunProgram(p, x, budget)), noStore+" 0 false 2")
		}
		expect(t, show(impl.RunProgram(grows, storeAt(0, repeat(impl.MaxCount, 24)...), budget)), noStore+" 0 false 2")
		expect(t, show(impl.RunProgram(p, storeAt(3), budget)), noStore+" 0 false 1")
	}
	for n, want := range map[int64]string{-1: "0 2", 0: "1 0", 1: "2 0", 59: "60 0", 60: "61 0", 61: "0 2", math.MinInt64: "0 2", math.MaxInt64: "0 2"} {
		trace, code := impl.TraceProgram(endless, storeAt(0), n)
		expect(t, show(n, len(trace), code), show(n)+" "+want)
		expect(t, show(impl.TraceProgram(p, storeAt(-1), n)), "[] 1")
	}
	expect(t, show(impl.TraceProgram(grows, storeAt(0, repeat(impl.MaxCount, 24)...), 61)), "[] 2")
}

func TestPromise8FullRegisters(t *testing.T) {
	p := programOf(t, "+0>1;+1>0")
	x := storeAt(0, 0, impl.MaxCount-10)
	near, _, _, code := impl.RunProgram(p, x, 20)
	expect(t, show(near, code), show(storeAt(0, 10, impl.MaxCount), impl.OK))
	expect(t, show(impl.RunProgram(p, x, 21)), show(storeAt(1, 11, impl.MaxCount), 21, false, impl.OK))
	expect(t, show(impl.RunProgram(p, x, 22)), noStore+" 0 false 5")
	expect(t, show(impl.RunProgram(p, x, impl.MaxBudget)), noStore+" 0 false 5")
	trace, code := impl.TraceProgram(p, x, 21)
	expect(t, show(len(trace), trace[21], code), show(22, storeAt(1, 11, impl.MaxCount), impl.OK))
	expect(t, show(impl.TraceProgram(p, x, 22)), "[] 5")
	full := storeAt(1, 0, impl.MaxCount)
	expect(t, show(impl.StepProgram(p, full)), noStore+" 5")
	expect(t, show(impl.TraceProgram(p, full, 0)), show([]impl.Store{full}, impl.OK))
	expect(t, show(impl.TraceProgram(p, full, 1)), "[] 5")
	// A program that halts before a register is too full, or that adds to no full one, has no error.
	expect(t, show(impl.RunProgram(p, storeAt(2, impl.MaxCount, impl.MaxCount), 5)), show(storeAt(2, impl.MaxCount, impl.MaxCount), 0, true, impl.OK))
	expect(t, show(impl.RunProgram(chainOf(10), storeAt(0, impl.MaxCount-10, impl.MaxCount), 11)), show(storeAt(10, impl.MaxCount, impl.MaxCount), 10, true, impl.OK))
	expect(t, show(impl.RunProgram(chainOf(11), storeAt(0, impl.MaxCount-10), 11)), noStore+" 0 false 5")
	expect(t, show(impl.RunProgram(programOf(t, "-0>1:2;+0>2"), storeAt(0, impl.MaxCount), 9)), show(storeAt(2, impl.MaxCount), 2, true, impl.OK))
}

// Near the greatest content, runs come to where the model has no place for more.
func TestPromise8NearlyFullRegisters(t *testing.T) {
	fullRuns := 0
	forSomePrograms(92, 1000, func(random *rand.Rand, p []impl.Instr, x impl.Store) {
		for register := range x.Contents {
			x.Contents[register] = impl.MaxCount - random.Int63n(4)
		}
		if programCalls.expectUntilTrouble(t, p, newStoreModel(p, x), 60) {
			fullRuns++
		}
	})
	if fullRuns < 100 {
		t.Errorf("only %d runs come to a full register", fullRuns)
	}
}

func TestPromise8InvalidRuns(t *testing.T) {
	p := programOf(t, adder)
	var stores []impl.Store
	for _, contents := range badContents() {
		stores = append(stores, impl.Store{Contents: contents}, impl.Store{At: 2, Contents: contents})
	}
	for _, at := range []int64{-1, 3, math.MinInt64, math.MaxInt64} {
		stores = append(stores, storeAt(at), storeAt(at, repeat(impl.MaxCount, 24)...))
	}
	for _, x := range stores {
		programCalls.expectInvalid(t, p, x)
	}
	for _, bad := range badPrograms() {
		programCalls.expectInvalid(t, bad, storeAt(0))
		programCalls.expectInvalid(t, bad, storeAt(int64(len(bad))))
		programCalls.expectInvalid(t, bad, storeAt(0, repeat(impl.MaxCount, 24)...))
	}
}

func TestPromise8WithoutInstructions(t *testing.T) {
	all := repeat(0, 24)
	for k := range all {
		all[k] = int64(23 - k)
	}
	for _, p := range [][]impl.Instr{nil, {}} {
		x := storeAt(0, 4, impl.MaxCount)
		expect(t, show(impl.ValidProgram(p), impl.ValidStore(p, x), impl.ProgramText(p), impl.StoreText(p, x)), show(true, true, ".", "0:"+contentsText(4, impl.MaxCount)))
		expect(t, show(impl.StepProgram(p, x)), noStore+" 6")
		expect(t, show(impl.RunProgram(p, x, 1)), show(x, 0, true, impl.OK))
		expect(t, show(impl.TraceProgram(p, x, 60)), show([]impl.Store{x}, impl.OK))
		expect(t, show(impl.RegistersOf(p)), "[] 0")
		expect(t, show(impl.MapRegisters(p, all)), "[] 0")
		expect(t, show(impl.MapRegisters(p, nil)), "[] 2")
		expect(t, show(impl.PruneProgram(p)), "[] [] 0")
		expect(t, show(impl.JoinPrograms(p, p)), "[] 0")
	}
	p, ok := impl.ReadProgram(".")
	expect(t, show(p, ok), "[] true")
	one, two := programOf(t, adder), programOf(t, "-2>2:1;+3>0")
	for _, none := range [][]impl.Instr{nil, {}} {
		expectProgram(t, adder, pair(impl.JoinPrograms(none, one)))
		expectProgram(t, adder, pair(impl.JoinPrograms(one, none)))
		expectProgram(t, "-7>1:2;+7>0", pair(impl.LoopProgram(7, none)))
		expectProgram(t, "-7>1:2;+7>2", pair(impl.BranchProgram(7, none, none)))
		expectProgram(t, "-7>1:2;+7>4;-2>4:3;+3>2", pair(impl.BranchProgram(7, two, none)))
		expectProgram(t, "-7>1:4;+7>2;-2>4:3;+3>2", pair(impl.BranchProgram(7, none, two)))
	}
}

// built is what a function that builds programs returns.
type built struct {
	p    []impl.Instr
	code int64
}

func pair(p []impl.Instr, code int64) built { return built{p, code} }

// expectProgram checks the text of a program that has been built.
func expectProgram(t *testing.T, text string, b built) {
	t.Helper()
	expect(t, show(impl.ProgramText(b.p), b.code), show(text, impl.OK))
}

func expectCode(t *testing.T, code int64, b built) {
	t.Helper()
	expect(t, show(len(b.p), b.code), show(0, code))
}

func TestPromise8Registers(t *testing.T) {
	for s, want := range map[string]string{
		".": "[] 0", adder: "[0 1] 0", "+23>0": "[23] 0", "+3>1;-3>0:0;+3>3": "[3] 0", "-9>0:0;+10>0;-2>1:1;+10>0;+9>0": "[2 9 10] 0", "+1>3;+0>3;-23>3:3": "[0 1 23] 0",
	} {
		expect(t, show(impl.RegistersOf(programOf(t, s))), want)
	}
	forSomePrograms(85, 300, func(_ *rand.Rand, p []impl.Instr, _ impl.Store) {
		used := map[int64]bool{}
		for _, i := range p {
			used[i.Register] = true
		}
		expect(t, show(impl.RegistersOf(p)), show(keysOf(used), impl.OK))
	})
	for _, bad := range badPrograms() {
		expect(t, show(impl.RegistersOf(bad)), "[] 1")
	}
	var all []impl.Instr
	for k := range int64(400) {
		all = append(all, inc(23-k%24, 0))
	}
	registers, code := impl.RegistersOf(all)
	expect(t, show(len(registers), registers[0], registers[23], code), "24 0 23 0")
}

func TestPromise8MappedRegisters(t *testing.T) {
	random := rand.New(rand.NewSource(86))
	for range 300 {
		p := randomProgram(random, 8, 24)
		x := randomStore(random, p, 24)
		order := somePermutation(random, 24)
		mapped, code := impl.MapRegisters(p, order)
		expect(t, show(impl.ValidProgram(mapped), len(mapped), code), show(true, len(p), impl.OK))
		map1 := func(x impl.Store) impl.Store {
			changed := storeAt(x.At)
			for k, content := range x.Contents {
				changed.Contents[order[k]] = content
			}
			return changed
		}
		expectSamePrograms(t, p, mapped, x, map1)
		back, _ := impl.MapRegisters(mapped, inverse(order))
		expect(t, show(back), show(p))
	}
	order := repeat(0, 24)
	for k := range order {
		order[k] = int64(k+5) % 24
	}
	expectProgram(t, "-5>1:2;+6>0;+4>3;-2>4:0", pair(impl.MapRegisters(programOf(t, "-0>1:2;+1>0;+23>3;-21>4:0"), order)))
}

// expectSamePrograms compares the run of p from x with that of a changed program, for which the stores have another form.
func expectSamePrograms(t *testing.T, p, changed []impl.Instr, x impl.Store, form func(impl.Store) impl.Store) {
	t.Helper()
	programCalls.expectSame(t, p, changed, x, form)
}

// allRegisters returns a list of all registers in which some of them are replaced.
func allRegisters(replaced map[int]int64) []int64 {
	var order []int64
	for k := range 24 {
		by, is := replaced[k]
		if !is {
			by = int64(k)
		}
		order = append(order, by)
	}
	return order
}

func TestPromise8OtherRegisters(t *testing.T) {
	p := programOf(t, adder)
	same := allRegisters(nil)
	expectProgram(t, adder, pair(impl.MapRegisters(p, same)))
	expectProgram(t, "-23>1:2;+0>0", pair(impl.MapRegisters(p, allRegisters(map[int]int64{0: 23, 1: 0, 23: 1}))))
	bad := [][]int64{
		nil, {}, {0}, {1, 0}, same[:23], append(slices.Clone(same), 24), append(slices.Clone(same), 0), append(slices.Clone(same), 23), repeat(0, 24), repeat(0, 1000),
		allRegisters(map[int]int64{0: 1}), allRegisters(map[int]int64{22: 23}), allRegisters(map[int]int64{23: 0}), allRegisters(map[int]int64{0: 24}), allRegisters(map[int]int64{23: 24}),
		allRegisters(map[int]int64{0: -1}), allRegisters(map[int]int64{5: math.MaxInt64}), allRegisters(map[int]int64{5: math.MinInt64}),
	}
	for _, order := range bad {
		expectCode(t, impl.ErrRange, pair(impl.MapRegisters(p, order)))
		expectCode(t, impl.ErrRange, pair(impl.MapRegisters(nil, order)))
	}
	for _, p := range badPrograms() {
		expectCode(t, impl.ErrInvalid, pair(impl.MapRegisters(p, same)))
		expectCode(t, impl.ErrInvalid, pair(impl.MapRegisters(p, nil)))
	}
}

func TestPromise8PrunedPrograms(t *testing.T) {
	for from, to := range map[string]string{
		".": ". [] 0", adder: adder + " [0 1] 0", "+1>2;+2>0;+3>3": "+1>1;+3>2 [0 2] 0", "+0>0;+1>1": "+0>0 [0] 0", "+0>2;+1>2": "+0>1 [0] 0",
		// The Else of an InstrInc does not lead to the index 0, and that of an InstrDec leads somewhere.
		"-0>2:4;+1>0;+2>4;+3>0": "-0>1:2;+2>2 [0 2] 0", "-0>4:2;+1>0;+2>4;+3>0": "-0>2:1;+2>2 [0 2] 0", "-0>3:1;+1>4;+2>4;+3>4": "-0>2:1;+1>3;+3>3 [0 1 3] 0",
		"-5>5:5;-0>1:1;-0>2:2;-0>3:3;-0>4:4": "-5>1:1 [0] 0",
		// The index 4 is reached before the index 2, but keeps its place behind it.
		"+0>4;+1>1;-2>6:2;+3>3;-4>2:5;+5>0": "+0>2;-2>4:1;-4>1:3;+5>0 [0 2 4 5] 0", "+0>3;+1>0;+2>1;+3>2": "+0>3;+1>0;+2>1;+3>2 [0 1 2 3] 0",
	} {
		pruned, old, code := impl.PruneProgram(programOf(t, from))
		expect(t, impl.ProgramText(pruned)+" "+show(old, code), to)
	}
	forSomePrograms(87, 1000, func(random *rand.Rand, p []impl.Instr, x impl.Store) {
		pruned, old, code := impl.PruneProgram(p)
		expect(t, show(impl.ValidProgram(pruned), old, code), show(true, reachableIndices(p), impl.OK))
		number := inverseOf(append(slices.Clone(old), int64(len(p))))
		if len(old) > 0 {
			x.At = old[random.Intn(len(old))]
		}
		expectSamePrograms(t, p, pruned, x, func(x impl.Store) impl.Store { return storeAt(number[x.At], x.Contents...) })
		again, all, _ := impl.PruneProgram(pruned)
		expect(t, show(again, len(all)), show(pruned, len(old)))
	})
	for _, bad := range badPrograms() {
		expect(t, show(impl.PruneProgram(bad)), "[] [] 1")
	}
	long, old, code := impl.PruneProgram(chainOf(400))
	expect(t, show(long, len(old), code), show(chainOf(400), 400, impl.OK))
	short, old, code := impl.PruneProgram(slices.Repeat([]impl.Instr{dec(3, 399, 400)}, 400))
	expect(t, show(impl.ProgramText(short), old, code), show("-3>1:2;-3>1:2", []int64{0, 399}, impl.OK))
}

// reachableIndices returns the indices that are reached, by looking at all instructions again and again.
func reachableIndices(p []impl.Instr) []int64 {
	reached := map[int64]bool{0: true}
	for range p {
		for at, i := range p {
			if !reached[int64(at)] {
				continue
			}
			reached[i.Then] = true
			if i.Kind == impl.InstrDec {
				reached[i.Else] = true
			}
		}
	}
	delete(reached, int64(len(p)))
	return keysOf(reached)
}
