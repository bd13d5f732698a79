package tests

import (
	"math"
	"math/rand"
	"slices"
	"testing"

	"loop.example/g01079/impl"
)

// worker does by itself what programs should do, with the steps that they need for it.
type worker struct {
	contents []int64
	left     int64
}

// add makes a step that changes a register, unless no steps are left.
func (w *worker) add(register, by int64) bool {
	if w.left == 0 {
		return false
	}
	w.left--
	w.contents[register] += by
	return true
}

// deed is what a program does. It reports whether it has come to its end.
type deed func(w *worker) bool

func deedOf(p []impl.Instr) deed {
	return func(w *worker) bool {
		m := storeModel{p, impl.Store{Contents: w.contents}, impl.MaxCount}
		for ; !m.halts(); w.left-- {
			if w.left == 0 {
				return false
			}
			m.step()
		}
		return true
	}
}

func joinDeed(a, b deed) deed {
	return func(w *worker) bool { return a(w) && b(w) }
}

func loopDeed(register int64, body deed) deed {
	return func(w *worker) bool {
		for w.contents[register] > 0 {
			if !w.add(register, -1) || !w.add(register, 1) || !body(w) {
				return false
			}
		}
		return w.add(register, 0)
	}
}

func branchDeed(register int64, zero, other deed) deed {
	return func(w *worker) bool {
		if w.contents[register] == 0 {
			return w.add(register, 0) && zero(w)
		}
		return w.add(register, -1) && w.add(register, 1) && other(w)
	}
}

func moveDeed(from int64, targets ...int64) deed {
	return func(w *worker) bool {
		for w.contents[from] > 0 {
			if !w.add(from, -1) {
				return false
			}
			for _, register := range targets {
				if !w.add(register, 1) {
					return false
				}
			}
		}
		return w.add(from, 0)
	}
}

// expectDeed compares the runs of a program with what it should do, with every small budget and a great one.
func expectDeed(t *testing.T, p []impl.Instr, do deed, contents ...int64) {
	t.Helper()
	x, code := impl.StartStore(p, contents)
	if code != impl.OK {
		t.Fatalf("%v has no store: %d", p, code)
	}
	for budget := range int64(62) {
		if budget == 0 {
			budget = 3000
		}
		w := &worker{slices.Clone(x.Contents), budget}
		done := do(w)
		end, steps, halts, code := impl.RunProgram(p, x, budget)
		expect(t, show(budget, end.Contents, steps, halts, code), show(budget, w.contents, budget-w.left, done, impl.OK))
		expect(t, show(end.At == int64(len(p))), show(done))
		if t.Failed() {
			t.Fatalf("the program is %s", impl.ProgramText(p))
		}
	}
}

// must returns a program that has been built without an error.
func must(t *testing.T, b built) []impl.Instr {
	t.Helper()
	if b.code != impl.OK || !impl.ValidProgram(b.p) {
		t.Fatalf("%v is built with the code %d", b.p, b.code)
	}
	return b.p
}

func someContents(random *rand.Rand) []int64 {
	return []int64{random.Int63n(4), random.Int63n(4), random.Int63n(4), random.Int63n(4)}
}

func TestPromise8JoinedPrograms(t *testing.T) {
	for _, c := range [][3]string{
		{adder, adder, "-0>1:2;+1>0;-0>3:4;+1>2"}, {"+0>1", "+1>1", "+0>1;+1>2"}, {"-0>1:0", "-1>0:1", "-0>1:0;-1>1:2"}, {"+0>0", "+0>0", "+0>0;+0>1"},
		{"-3>2:1;+4>2", "-5>2:0;+6>1", "-3>2:1;+4>2;-5>4:2;+6>3"}, {".", "+1>0", "+1>0"}, {"+1>1", ".", "+1>1"}, {".", ".", "."},
	} {
		expectProgram(t, c[2], pair(impl.JoinPrograms(programOf(t, c[0]), programOf(t, c[1]))))
	}
	random := rand.New(rand.NewSource(88))
	for range 600 {
		a, b := randomProgram(random, 5, 4), randomProgram(random, 5, 4)
		joined := must(t, pair(impl.JoinPrograms(a, b)))
		expectDeed(t, joined, joinDeed(deedOf(a), deedOf(b)), someContents(random)...)
		first := int64(len(a))
		want := slices.Concat(a, placedAt(b, first, first+int64(len(b))))
		expect(t, show(joined), show(want))
	}
}

// placedAt returns the instructions of a program whose indices become greater, but for the one at which it halts.
func placedAt(p []impl.Instr, first, exit int64) []impl.Instr {
	places := []int64{}
	for at := range p {
		places = append(places, int64(at)+first)
	}
	places = append(places, exit)
	var placed []impl.Instr
	for _, i := range p {
		if i.Kind == impl.InstrInc {
			placed = append(placed, inc(i.Register, places[i.Then]))
		} else {
			placed = append(placed, dec(i.Register, places[i.Then], places[i.Else]))
		}
	}
	return placed
}

func TestPromise8Loops(t *testing.T) {
	for _, c := range [][2]string{
		{".", "-3>1:2;+3>0"}, {"+1>1", "-3>1:3;+3>2;+1>0"}, {"+1>0", "-3>1:3;+3>2;+1>2"}, {"-3>1:1", "-3>1:3;+3>2;-3>0:0"}, {"-3>0:1", "-3>1:3;+3>2;-3>2:0"},
		{adder, "-3>1:4;+3>2;-0>3:0;+1>2"}, {"-3>1:0;-3>2:2", "-3>1:4;+3>2;-3>3:2;-3>0:0"}, {"+0>2;-1>0:3;+2>1", "-3>1:5;+3>2;+0>4;-1>2:0;+2>3"},
	} {
		expectProgram(t, c[1], pair(impl.LoopProgram(3, programOf(t, c[0]))))
	}
	random := rand.New(rand.NewSource(89))
	for range 600 {
		register, body := random.Int63n(4), randomProgram(random, 5, 4)
		loop := must(t, pair(impl.LoopProgram(register, body)))
		expectDeed(t, loop, loopDeed(register, deedOf(body)), someContents(random)...)
		begin := int64(2)
		if len(body) == 0 {
			begin = 0
		}
		want := []impl.Instr{dec(register, 1, int64(len(body))+2), inc(register, begin)}
		expect(t, show(loop), show(append(want, placedAt(body, 2, 0)...)))
	}
	expectDeed(t, must(t, pair(impl.LoopProgram(23, nil))), loopDeed(23, deedOf(nil)), append(repeat(0, 23), 1)...)
}

func TestPromise8Branches(t *testing.T) {
	for _, c := range [][3]string{
		{".", ".", "-3>1:2;+3>2"}, {"+0>1", ".", "-3>1:2;+3>3;+0>3"}, {".", "+0>1", "-3>1:3;+3>2;+0>3"}, {"+0>1", "+1>1", "-3>1:3;+3>2;+1>4;+0>4"}, {"+0>0", "+1>0", "-3>1:3;+3>2;+1>2;+0>3"},
		{"-3>1:0", "-3>0:1", "-3>1:3;+3>2;-3>2:4;-3>4:3"}, {adder, "-5>3:0;-6>2:1;+7>1", "-3>1:5;+3>2;-5>7:2;-6>4:3;+7>3;-0>6:7;+1>5"}, {"-3>1:0", "-3>1:0", "-3>1:3;+3>2;-3>4:2;-3>4:3"},
	} {
		expectProgram(t, c[2], pair(impl.BranchProgram(3, programOf(t, c[0]), programOf(t, c[1]))))
	}
	random := rand.New(rand.NewSource(90))
	for range 600 {
		register, zero, other := random.Int63n(4), randomProgram(random, 4, 4), randomProgram(random, 4, 4)
		branch := must(t, pair(impl.BranchProgram(register, zero, other)))
		expectDeed(t, branch, branchDeed(register, deedOf(zero), deedOf(other)), someContents(random)...)
		second := int64(len(other)) + 2
		length := second + int64(len(zero))
		begin := int64(2)
		if len(other) == 0 {
			begin = length
		}
		want := []impl.Instr{dec(register, 1, second), inc(register, begin)}
		expect(t, show(branch), show(slices.Concat(want, placedAt(other, 2, length), placedAt(zero, second, length))))
	}
}

// A full register is tested without passing the greatest content.
func TestPromise8TestsOfFullRegisters(t *testing.T) {
	branch := must(t, pair(impl.BranchProgram(0, programOf(t, "+1>1"), programOf(t, "+2>1"))))
	expect(t, show(impl.RunProgram(branch, storeAt(0, impl.MaxCount), 9)), show(storeAt(4, impl.MaxCount, 0, 1), 3, true, impl.OK))
	loop := must(t, pair(impl.LoopProgram(0, programOf(t, "-0>1:1"))))
	expect(t, show(impl.RunProgram(loop, storeAt(0, impl.MaxCount), 6000)), show(storeAt(0, impl.MaxCount-2000), 6000, false, impl.OK))
}

// someBuilt returns a program that is built of others, and what it should do.
func someBuilt(t *testing.T, random *rand.Rand, depth int) ([]impl.Instr, deed) {
	t.Helper()
	if depth == 0 {
		return someLeaf(t, random)
	}
	a, doA := someBuilt(t, random, depth-1)
	register := random.Int63n(4)
	if random.Intn(3) == 0 {
		return must(t, pair(impl.LoopProgram(register, a))), loopDeed(register, doA)
	}
	b, doB := someBuilt(t, random, depth-1)
	if random.Intn(2) == 0 {
		return must(t, pair(impl.JoinPrograms(a, b))), joinDeed(doA, doB)
	}
	return must(t, pair(impl.BranchProgram(register, a, b))), branchDeed(register, doA, doB)
}

func someLeaf(t *testing.T, random *rand.Rand) ([]impl.Instr, deed) {
	t.Helper()
	order := somePermutation(random, 4)
	switch random.Intn(6) {
	case 0:
		return nil, deedOf(nil)
	case 1:
		return must(t, pair(impl.ClearRegister(order[0]))), moveDeed(order[0])
	case 2:
		return must(t, pair(impl.MoveRegister(order[0], order[1:2]))), moveDeed(order[0], order[1])
	case 3:
		return must(t, pair(impl.CopyRegister(order[0], order[1], order[2]))), joinDeed(moveDeed(order[0], order[1], order[2]), moveDeed(order[2], order[0]))
	default:
		p := randomProgram(random, 2, 4)
		return p, deedOf(p)
	}
}

func TestPromise8NestedPrograms(t *testing.T) {
	random := rand.New(rand.NewSource(91))
	ended := 0
	for range 800 {
		p, do := someBuilt(t, random, 1+random.Intn(3))
		contents := someContents(random)
		expectDeed(t, p, do, contents...)
		if do(&worker{storeAt(0, contents...).Contents, 3000}) {
			ended++
		}
	}
	if ended < 200 {
		t.Errorf("only %d programs come to their end", ended)
	}
}

func TestPromise8ClearedRegisters(t *testing.T) {
	for register := range int64(24) {
		p := must(t, pair(impl.ClearRegister(register)))
		expect(t, show(p), show([]impl.Instr{dec(register, 0, 1)}))
		contents := repeat(7, 24)
		want := slices.Clone(contents)
		want[register] = 0
		expect(t, show(impl.RunProgram(p, storeAt(0, contents...), 100)), show(storeAt(1, want...), 8, true, impl.OK))
		expect(t, show(impl.RunProgram(p, storeAt(0), 100)), show(storeAt(1), 1, true, impl.OK))
	}
	for _, register := range []int64{-1, 24, 25, math.MinInt64, math.MaxInt64} {
		expectCode(t, impl.ErrRange, pair(impl.ClearRegister(register)))
	}
}

func TestPromise8MovedRegisters(t *testing.T) {
	for _, c := range []struct {
		from    int64
		targets []int64
		text    string
	}{
		{0, nil, "-0>0:1"}, {23, []int64{}, "-23>0:1"}, {0, []int64{1}, adder}, {5, []int64{23}, "-5>1:2;+23>0"}, {0, []int64{1, 2}, "-0>1:3;+1>2;+2>0"},
		{3, []int64{2, 0, 23, 1}, "-3>1:5;+2>2;+0>3;+23>4;+1>0"},
	} {
		p := must(t, pair(impl.MoveRegister(c.from, c.targets)))
		expect(t, show(impl.ProgramText(p)), show(c.text))
		expectDeed(t, p, moveDeed(c.from, c.targets...), 4, 1, 2, 3, 0, 6)
	}
	clear, _ := impl.ClearRegister(9)
	expectProgram(t, impl.ProgramText(clear), pair(impl.MoveRegister(9, nil)))
	all := allRegisters(nil)
	longest := must(t, pair(impl.MoveRegister(0, all[1:])))
	expect(t, show(len(longest), longest[0], longest[22], longest[23]), show(24, dec(0, 1, 24), inc(22, 23), inc(23, 0)))
	expectDeed(t, longest, moveDeed(0, all[1:]...), 3, 4)
	expect(t, show(impl.RunProgram(longest, storeAt(0, impl.MaxCount), 24)), show(storeAt(0, append([]int64{impl.MaxCount - 1}, repeat(1, 23)...)...), 24, false, impl.OK))
}

func TestPromise8CopiedRegisters(t *testing.T) {
	expectProgram(t, "-0>1:3;+1>2;+2>0;-2>4:5;+0>3", pair(impl.CopyRegister(0, 1, 2)))
	expectProgram(t, "-23>1:3;+0>2;+9>0;-9>4:5;+23>3", pair(impl.CopyRegister(23, 0, 9)))
	p := must(t, pair(impl.CopyRegister(2, 0, 1)))
	expectDeed(t, p, joinDeed(moveDeed(2, 0, 1), moveDeed(1, 2)), 1, 2, 3)
	for content := range int64(6) {
		expect(t, show(impl.RunProgram(p, storeAt(0, 7, 0, content), 100)), show(storeAt(5, 7+content, 0, content), 5*content+2, true, impl.OK))
	}
	// What is in the third register is moved back as well.
	expect(t, show(impl.RunProgram(p, storeAt(0, 1, 2, 3), 100)), show(storeAt(5, 4, 0, 5), 21, true, impl.OK))
}

func TestPromise8RegistersWithErrors(t *testing.T) {
	all := allRegisters(nil)
	outside := []int64{-1, 24, math.MinInt64, math.MaxInt64}
	for _, bad := range outside {
		for _, targets := range [][]int64{nil, {1}, {1, 1}, {bad}, all, repeat(1, 25)} {
			expectCode(t, impl.ErrRange, pair(impl.MoveRegister(bad, targets)))
		}
		for _, targets := range [][]int64{{bad}, {0, bad}, {1, 1, bad}, {bad, bad}, append(slices.Clone(all[1:]), bad)} {
			expectCode(t, impl.ErrRange, pair(impl.MoveRegister(0, targets)))
		}
		for _, other := range []int64{0, 1, 5, bad} {
			expectCode(t, impl.ErrRange, pair(impl.CopyRegister(bad, other, 1)))
			expectCode(t, impl.ErrRange, pair(impl.CopyRegister(1, bad, other)))
			expectCode(t, impl.ErrRange, pair(impl.CopyRegister(other, 1, bad)))
		}
	}
	for _, targets := range [][]int64{append(slices.Clone(all), 0), repeat(0, 25), repeat(1, 25), repeat(1, 1000)} {
		expectCode(t, impl.ErrRange, pair(impl.MoveRegister(0, targets)))
	}
	for _, targets := range [][]int64{{0}, {1, 0}, {0, 0}, {1, 1}, {1, 2, 3, 1}, {23, 22, 23}, all, repeat(1, 24), repeat(0, 24)} {
		expectCode(t, impl.ErrExists, pair(impl.MoveRegister(0, targets)))
	}
	for _, c := range [][3]int64{{0, 0, 0}, {0, 0, 1}, {0, 1, 0}, {1, 0, 0}, {23, 23, 5}, {5, 23, 23}, {23, 5, 23}} {
		expectCode(t, impl.ErrExists, pair(impl.CopyRegister(c[0], c[1], c[2])))
	}
}

// Results have exactly as many instructions as a program may have, or one more.
func TestPromise8LongPrograms(t *testing.T) {
	for _, c := range []struct{ a, b int }{{0, 400}, {400, 0}, {1, 399}, {399, 1}, {200, 200}, {137, 263}} {
		joined := must(t, pair(impl.JoinPrograms(chainOf(c.a), chainOf(c.b))))
		expect(t, show(joined), show(chainOf(400)))
		if c.a > 0 {
			expectCode(t, impl.ErrFull, pair(impl.JoinPrograms(chainOf(c.a), chainOf(c.b+1))))
		}
		if c.b > 0 {
			expectCode(t, impl.ErrFull, pair(impl.JoinPrograms(chainOf(c.a+1), chainOf(c.b))))
		}
	}
	expectCode(t, impl.ErrFull, pair(impl.JoinPrograms(chainOf(400), chainOf(400))))
	loop := must(t, pair(impl.LoopProgram(1, chainOf(398))))
	expect(t, show(len(loop), loop[0], loop[399]), show(400, dec(1, 1, 400), inc(0, 0)))
	expect(t, show(impl.RunProgram(loop, storeAt(0, 0, 1), 400)), show(storeAt(0, 398, 1), 400, false, impl.OK))
	for _, c := range []struct{ zero, other int }{{0, 398}, {398, 0}, {1, 397}, {199, 199}} {
		branch := must(t, pair(impl.BranchProgram(1, chainOf(c.zero), chainOf(c.other))))
		expect(t, show(len(branch)), "400")
		expect(t, show(impl.RunProgram(branch, storeAt(0), 500)), show(storeAt(400, int64(c.zero)), c.zero+1, true, impl.OK))
		expect(t, show(impl.RunProgram(branch, storeAt(0, 0, 1), 500)), show(storeAt(400, int64(c.other), 1), c.other+2, true, impl.OK))
		expectCode(t, impl.ErrFull, pair(impl.BranchProgram(1, chainOf(c.zero+1), chainOf(c.other))))
		expectCode(t, impl.ErrFull, pair(impl.BranchProgram(1, chainOf(c.zero), chainOf(c.other+1))))
	}
	for _, many := range []int{399, 400} {
		expectCode(t, impl.ErrFull, pair(impl.LoopProgram(1, chainOf(many))))
		expectCode(t, impl.ErrFull, pair(impl.BranchProgram(1, chainOf(many), nil)))
		expectCode(t, impl.ErrFull, pair(impl.BranchProgram(1, nil, chainOf(many))))
	}
	expectCode(t, impl.ErrFull, pair(impl.BranchProgram(1, chainOf(400), chainOf(400))))
}

func TestPromise8BuildingWithErrors(t *testing.T) {
	good, full := programOf(t, adder), chainOf(400)
	for _, bad := range badPrograms() {
		for _, other := range [][]impl.Instr{nil, good, full, bad} {
			expectCode(t, impl.ErrInvalid, pair(impl.JoinPrograms(bad, other)))
			expectCode(t, impl.ErrInvalid, pair(impl.JoinPrograms(other, bad)))
			for _, register := range []int64{0, 24, -1} {
				expectCode(t, impl.ErrInvalid, pair(impl.BranchProgram(register, bad, other)))
				expectCode(t, impl.ErrInvalid, pair(impl.BranchProgram(register, other, bad)))
			}
		}
		for _, register := range []int64{0, 23, 24, -1, math.MaxInt64, math.MinInt64} {
			expectCode(t, impl.ErrInvalid, pair(impl.LoopProgram(register, bad)))
		}
	}
	for _, register := range []int64{24, -1, math.MaxInt64, math.MinInt64} {
		for _, p := range [][]impl.Instr{nil, good, full} {
			expectCode(t, impl.ErrRange, pair(impl.LoopProgram(register, p)))
			expectCode(t, impl.ErrRange, pair(impl.BranchProgram(register, p, nil)))
			expectCode(t, impl.ErrRange, pair(impl.BranchProgram(register, nil, p)))
			expectCode(t, impl.ErrRange, pair(impl.BranchProgram(register, p, p)))
		}
	}
	for _, register := range []int64{0, 23} {
		expectProgram(t, impl.ProgramText([]impl.Instr{dec(register, 1, 2), inc(register, 0)}), pair(impl.LoopProgram(register, nil)))
		expectProgram(t, impl.ProgramText([]impl.Instr{dec(register, 1, 2), inc(register, 2)}), pair(impl.BranchProgram(register, nil, nil)))
	}
}
