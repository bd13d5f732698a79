package tests

import (
	"fmt"
	"math"
	"reflect"
	"slices"
	"strings"
	"testing"

	"loop.example/g01079/impl"
)

// The functions that have landed. Those whose last result is a code or tells whether there is a result are checked for
// zero values beside an error by the types of their results alone.
var landed = map[string]any{
	"CodeName": impl.CodeName, "IsName": impl.IsName, "Decimal": impl.Decimal, "ReadDecimal": impl.ReadDecimal,
	"SplitWords": impl.SplitWords, "ListText": impl.ListText, "ReadList": impl.ReadList, "Crc16": impl.Crc16,
	"CompareLists": impl.CompareLists, "SortList": impl.SortList, "IsPrime": impl.IsPrime, "PrimeAt": impl.PrimeAt,
	"PowerOf": impl.PowerOf, "ExponentOf": impl.ExponentOf,

	"IsNatural": impl.IsNatural, "NaturalOf": impl.NaturalOf, "SmallOf": impl.SmallOf, "NaturalText": impl.NaturalText,
	"ReadNatural": impl.ReadNatural, "CompareNaturals": impl.CompareNaturals, "AddNaturals": impl.AddNaturals,
	"SubtractNaturals": impl.SubtractNaturals, "MultiplyNaturals": impl.MultiplyNaturals,
	"DivideNaturals": impl.DivideNaturals, "PowerNatural": impl.PowerNatural, "GcdNaturals": impl.GcdNaturals,
	"RootNatural": impl.RootNatural, "ValuationOf": impl.ValuationOf, "DigitsOf": impl.DigitsOf, "FromDigits": impl.FromDigits,

	"IsWord": impl.IsWord, "WordText": impl.WordText, "ReadWord": impl.ReadWord, "ReverseWord": impl.ReverseWord,
	"OccurrencesOf": impl.OccurrencesOf, "ReplaceAt": impl.ReplaceAt, "ReplaceFirst": impl.ReplaceFirst,
	"PowerWord": impl.PowerWord, "PeriodOf": impl.PeriodOf, "BordersOf": impl.BordersOf, "RootOf": impl.RootOf,
	"CompareShortlex": impl.CompareShortlex, "RankWord": impl.RankWord, "WordAt": impl.WordAt,
	"IsPrefixCode": impl.IsPrefixCode, "EncodeWith": impl.EncodeWith, "DecodeWith": impl.DecodeWith,

	"PairOf": impl.PairOf, "UnpairOf": impl.UnpairOf, "TupleNumber": impl.TupleNumber, "TupleOf": impl.TupleOf,
	"SequenceNumber": impl.SequenceNumber, "SequenceOf": impl.SequenceOf, "PrimeNumber": impl.PrimeNumber,
	"PrimeList": impl.PrimeList, "WordNumber": impl.WordNumber, "WordOf": impl.WordOf, "SetNumber": impl.SetNumber,
	"SetOf": impl.SetOf, "SignedNumber": impl.SignedNumber, "SignedOf": impl.SignedOf,
	"WeaveNaturals": impl.WeaveNaturals, "UnweaveNatural": impl.UnweaveNatural,

	"ValidMachine": impl.ValidMachine, "SameMachine": impl.SameMachine, "MachineText": impl.MachineText,
	"ReadMachine": impl.ReadMachine, "FreeRules": impl.FreeRules, "SetRule": impl.SetRule, "ValidConfig": impl.ValidConfig,
	"StartConfig": impl.StartConfig, "ConfigText": impl.ConfigText, "ReadConfig": impl.ReadConfig, "CellsOf": impl.CellsOf,
	"StepMachine": impl.StepMachine, "RunMachine": impl.RunMachine, "TraceMachine": impl.TraceMachine,
	"UsedRules": impl.UsedRules, "RenameStates": impl.RenameStates, "SwapSymbols": impl.SwapSymbols,
	"MirrorMachine": impl.MirrorMachine, "MirrorConfig": impl.MirrorConfig, "PruneMachine": impl.PruneMachine,

	"ValidMulti": impl.ValidMulti, "ValidMultiConfig": impl.ValidMultiConfig, "SameMultiConfig": impl.SameMultiConfig,
	"MultiText": impl.MultiText, "ReadMulti": impl.ReadMulti, "StartMulti": impl.StartMulti, "MultiRuleAt": impl.MultiRuleAt,
	"StepMulti": impl.StepMulti, "RunMulti": impl.RunMulti, "TraceMulti": impl.TraceMulti, "TapeWord": impl.TapeWord,
	"MultiSpace": impl.MultiSpace, "HaltingReads": impl.HaltingReads, "SequenceMulti": impl.SequenceMulti,
	"PermuteTapes": impl.PermuteTapes, "CopyMulti": impl.CopyMulti, "PalindromeMulti": impl.PalindromeMulti,

	"ValidProgram": impl.ValidProgram, "ProgramText": impl.ProgramText, "ReadProgram": impl.ReadProgram,
	"ValidStore": impl.ValidStore, "StartStore": impl.StartStore, "StoreText": impl.StoreText, "ReadStore": impl.ReadStore,
	"StepProgram": impl.StepProgram, "RunProgram": impl.RunProgram, "TraceProgram": impl.TraceProgram,
	"RegistersOf": impl.RegistersOf, "MapRegisters": impl.MapRegisters, "PruneProgram": impl.PruneProgram,
	"JoinPrograms": impl.JoinPrograms, "LoopProgram": impl.LoopProgram, "BranchProgram": impl.BranchProgram,
	"ClearRegister": impl.ClearRegister, "MoveRegister": impl.MoveRegister, "CopyRegister": impl.CopyRegister,

	"IsTwoCounter": impl.IsTwoCounter, "StepCounters": impl.StepCounters, "RunCounters": impl.RunCounters,
	"TraceCounters": impl.TraceCounters, "CountersText": impl.CountersText, "ReadCounters": impl.ReadCounters,
	"ValidFractions": impl.ValidFractions, "FractionsText": impl.FractionsText, "ReadFractions": impl.ReadFractions,
	"ReduceFractions": impl.ReduceFractions, "FractionPrimes": impl.FractionPrimes, "StepFractions": impl.StepFractions,
	"RunFractions": impl.RunFractions, "PowersSeen": impl.PowersSeen, "ExponentsAt": impl.ExponentsAt, "KnownFractions": impl.KnownFractions,

	"ValidTag": impl.ValidTag, "TagText": impl.TagText, "ReadTag": impl.ReadTag, "StepTag": impl.StepTag, "RunTag": impl.RunTag,
	"TraceTag": impl.TraceTag, "TagLengths": impl.TagLengths, "TagCycle": impl.TagCycle, "CollatzTag": impl.CollatzTag,
	"CollatzNumbers": impl.CollatzNumbers, "ValidCyclic": impl.ValidCyclic, "CyclicText": impl.CyclicText,
	"ReadCyclic": impl.ReadCyclic, "ValidTurn": impl.ValidTurn, "StepCyclic": impl.StepCyclic, "RunCyclic": impl.RunCyclic,
	"TraceCyclic": impl.TraceCyclic,

	"ValidRewrites": impl.ValidRewrites, "RewritesText": impl.RewritesText, "ReadRewrites": impl.ReadRewrites,
	"ApplyRewrite": impl.ApplyRewrite, "SuccessorsOf": impl.SuccessorsOf, "IsNormalWord": impl.IsNormalWord,
	"CheckDerivation": impl.CheckDerivation, "ReachWords": impl.ReachWords, "DerivationOf": impl.DerivationOf,
	"NormalFormsOf": impl.NormalFormsOf, "ReverseRewrites": impl.ReverseRewrites, "OverlapsOf": impl.OverlapsOf,
	"AreJoinable": impl.AreJoinable, "ValidMarkov": impl.ValidMarkov, "MarkovText": impl.MarkovText, "ReadMarkov": impl.ReadMarkov,
	"StepMarkov": impl.StepMarkov, "RunMarkov": impl.RunMarkov,

	"ValidFunc": impl.ValidFunc, "ArityOf": impl.ArityOf, "FuncEnd": impl.FuncEnd, "IsPrimitive": impl.IsPrimitive,
	"FuncText": impl.FuncText, "ReadFunc": impl.ReadFunc, "EvalFunc": impl.EvalFunc, "TableOf": impl.TableOf,
	"ComposeFunc": impl.ComposeFunc, "RepeatFunc": impl.RepeatFunc, "LeastFunc": impl.LeastFunc, "ConstantFunc": impl.ConstantFunc,
	"ReorderFunc": impl.ReorderFunc, "StandardFunc": impl.StandardFunc, "SearchesOf": impl.SearchesOf,

	"ValidLam": impl.ValidLam, "IsClosedLam": impl.IsClosedLam, "FreeIndices": impl.FreeIndices, "LamText": impl.LamText,
	"ReadLam": impl.ReadLam, "ShiftLam": impl.ShiftLam, "SubstituteLam": impl.SubstituteLam, "BetaStep": impl.BetaStep,
	"IsNormalLam": impl.IsNormalLam, "NormalizeLam": impl.NormalizeLam, "ApplyLam": impl.ApplyLam, "NumeralLam": impl.NumeralLam,
	"NumeralValue": impl.NumeralValue, "ValidComb": impl.ValidComb, "CombText": impl.CombText, "ReadComb": impl.ReadComb,
	"CombStep": impl.CombStep, "RunComb": impl.RunComb,
}

var sampleNumbers = []int64{
	math.MinInt64, -impl.MaxValue - 1, -impl.MaxValue, -1, 0, 1, 2, 3, 7, 8, 9, 10, 11, 12, 23, 24, 64, 65, 399, 400, 401, 799, 800, 801,
	65535, 65536, impl.LimbBase - 1, impl.LimbBase, impl.LimbBase + 1, 999999999989, impl.MaxValue, impl.MaxValue + 1, math.MaxInt64,
}

var sampleTexts = []string{
	"", "-", "--", "0", "-0", "00", "7", "-7", "+7", "07", "7 ", " 7", "7,", ",7", "7,,7", "7,-7,0", "a", "a1", "1a", "A", "ab c  d", "   ",
	"\t", "\x00", "\xff", "\u00e9", "\uff11", "1e3", "0x1", "1_0", "9223372036854775807", "9223372036854775808", "-9223372036854775808",
	strings.Repeat("9", 18), strings.Repeat("9", 19), strings.Repeat("9", 240), strings.Repeat("9", 241), "0190", strings.Repeat("0", 400), strings.Repeat("0", 401), strings.Repeat("z", 11),
	strings.TrimSuffix(strings.Repeat("7,", 64), ","), strings.TrimSuffix(strings.Repeat("7,", 65), ","),
	";", "---", "---,---", "---,---;", "0R0,0L0", "0R1,0L0", "1R1,1L1;1L0,---", "1R1,1L1;1L0", "(0)", "(1)", "(-1)", "1(1)111", "01(1)0", "()", ")(",
	"2 2 1", "2 2 1\n", "3 3 16", "2 2 1\n0 10 11 RR 0", "2 2 1\n0 10 11 RR 0\n0 11 11 SS 0", "2 2 1\n0 10 11 RR", "2 2 1\n0 10 11 RX 0", "2 2 1\n0 1x 11 RR 0", "\n",
	".", adder, "+0>1", "+0>2", "+0>1;", "-23>0:1", "-0>1", "+24>1", "0:" + contentsText(), "1:" + contentsText(3, 2), "0:" + contentsText(impl.MaxCount+1), "0:0",
	"0:0:0", "2:0:1000000000000", "2:0:1000000000001", "0:0:0:0", "0:-1:0", "0:01:0", "3/2", "3/2 ", "4/2 6/4", "3/0", "3/1000000", "999999/999999", "3", "/", "3/2 x", "1/1  1/1",
	"10>01", "01>2 12>0", "->1", "1>-", "1>- ->2.", "10>01 ", "1>0..", "1>0>1", ">", "->-.", "0>10",
	collatz, "1:-:-", "1:0:0", "4:0.1,-:0.1", "0:0:-", "5:0:-", "1:0:1", "1:1:-", "1:0,0:1.0", "1:0", "1:0.:-", "1.1,0", "-,-", "1.2", "0.1.", "0,,1",
	"Z0", "Z5", "S", "P4.3", "P1.1", "C(S;Z0)", "C(P2.1;S,Z1)", "C(P2.1;S)", "R(Z0;P2.0)", "R(Z0;P1.0)", "M(S)", "M(Z0)", "C(S;", "pred", "add", "multiply", "minus", "sign", "not", "differ", "halve", "power",
	strings.Repeat("C(S;", 29) + "Z1" + strings.Repeat(")", 29), strings.Repeat("C(S;", 30) + "Z1" + strings.Repeat(")", 30), strings.Repeat("M(", 10000),
	"^0", "^^1", "(0 0)", "(0  0)", "(0 0", "^", "399", "400", "^^(1 (1 0))", "(^(0 0) ^0)", strings.Repeat("^", 399) + "0", strings.Repeat("^", 400) + "0", strings.Repeat("(0 ", 10000), "K", "I", "x0", "x399", "x400", "x", "(S K)", "(((S K) K) x0)", "(S ^0)", strings.Repeat("(I ", 199) + "I" + strings.Repeat(")", 199), strings.Repeat("(I ", 200) + "I" + strings.Repeat(")", 200), "x" + strings.Repeat("9", 400),
}

var sampleLists = [][]int64{
	nil, {}, {0}, {1}, {2}, {7}, {-1}, {impl.LimbBase - 1}, {impl.LimbBase}, {0, 1}, {1, 0}, {0, 0}, {5, 7}, {7, 5, 7}, {3, 1, 2, 1},
	{0, 0, 1}, {1, 0, 1}, {0, 0, 0, 1}, {impl.MaxValue}, {impl.MaxValue + 1}, {-impl.MaxValue}, {math.MinInt64, math.MaxInt64},
	{9}, {10}, {0, 3}, {1, 1, 0, 1, 0}, {12}, {797}, {796, 797}, {798}, {799}, {800},
	repeat(999999, 20), repeat(999999, 40), repeat(999999, 41), repeat(1, 64), repeat(1, 65), repeat(1, 800), repeat(1, 801), repeat(0, 801),
	repeat(0, 24), repeat(0, 25), allRegisters(nil), allRegisters(map[int]int64{0: 23, 23: 0}), allRegisters(nil)[1:], {impl.MaxCount}, {impl.MaxCount + 1}, repeat(0, 400), repeat(9, 400), repeat(9, 401), append(repeat(0, 20), 1), append(repeat(0, 39), 500000),
	repeat(0, 1000), repeat(0, 1001), {0, 2, 1}, {199, 0},
}

// Where a function has many parameters, these are enough.
var (
	fewNumbers = []int64{math.MinInt64, -1, 0, 1, 2, 400, 401, math.MaxInt64}
	fewLists   = [][]int64{nil, {}, {0}, {1}, {0, 0}, {0, 1, 0}, {10}, {-1}, repeat(0, 399), repeat(0, 400), repeat(0, 401)}
)

var sampleTables = [][][]int64{
	nil, {}, {nil}, {{}}, {{0}}, {{1}}, {{10}}, {{-1}}, {{1, 0}}, {{0, 1}}, {nil, nil}, {{1}, {2}, {}}, {{1}, nil, {7, 7}}, {{0}, {1, 0}, {1, 1}}, {{1}, {0}},
	{{0}, {0}}, {{0}, {0, 1}}, {{0, 1}, {0}}, {{3}, {10}}, {{3}, {1, 0}, {-1}}, {repeat(9, 400), {1}}, {repeat(9, 401)}, {repeat(999999, 40)},
	{repeat(999999, 40), {1}}, {repeat(999999, 20), repeat(999999, 20)}, {repeat(999999, 41)}, make([][]int64, 8), make([][]int64, 9),
	slices.Repeat([][]int64{{5}}, 8), slices.Repeat([][]int64{{5}}, 9), {nil, {1}, {0, 1, 0}}, {repeat(1, 200), repeat(0, 200)}, {repeat(1, 201), nil}, manyWords(40), manyWords(41), append(manyWords(41), []int64{10}),
}

// samplesOf returns values of the type of a parameter; each call makes the slices anew, with unused capacity.
func samplesOf(p reflect.Type, few bool) []reflect.Value {
	numbers, lists := sampleNumbers, sampleLists
	// These are made only where they are needed.
	programs, fractions, tags, rewrites, funcs, terms := samplePrograms, sampleFractions, sampleTags, sampleRewrites, sampleFuncs, sampleLams
	if few {
		numbers, lists = fewNumbers, fewLists
		programs, fractions, tags, rewrites, funcs, terms = fewPrograms, fewFractions, fewTags, fewRewrites, fewFuncs, fewLams
	}
	var values []reflect.Value
	switch p {
	case reflect.TypeFor[bool]():
		values = valuesOf([]bool{false, true})
	case reflect.TypeFor[int64]():
		values = valuesOf(numbers)
	case reflect.TypeFor[string]():
		values = valuesOf(sampleTexts)
	case reflect.TypeFor[[]int64]():
		values = valuesOf(lists)
	case reflect.TypeFor[[][]int64]():
		values = valuesOf(sampleTables)
	case reflect.TypeFor[impl.Rule]():
		values = valuesOf(sampleRules)
	case reflect.TypeFor[impl.Machine]():
		values = valuesOf(sampleMachines())
	case reflect.TypeFor[impl.Config]():
		values = valuesOf(sampleConfigs)
	case reflect.TypeFor[impl.Multi]():
		values = valuesOf(sampleMultis())
	case reflect.TypeFor[impl.MultiConfig]():
		values = valuesOf(sampleMultiConfigs())
	case reflect.TypeFor[impl.Tape]():
		values = valuesOf(sampleTapes())
	case reflect.TypeFor[[]impl.Instr]():
		values = valuesOf(programs())
	case reflect.TypeFor[impl.Store]():
		values = valuesOf(sampleStores())
	case reflect.TypeFor[impl.Counters]():
		values = valuesOf(sampleCounters)
	case reflect.TypeFor[[]impl.Fraction]():
		values = valuesOf(fractions())
	case reflect.TypeFor[impl.Tag]():
		values = valuesOf(tags())
	case reflect.TypeFor[impl.Cyclic]():
		values = valuesOf(sampleCyclics())
	case reflect.TypeFor[impl.Turn]():
		values = valuesOf(sampleTurns())
	case reflect.TypeFor[[]impl.Rewrite]():
		values = valuesOf(rewrites())
	case reflect.TypeFor[[]impl.MarkovRule]():
		values = valuesOf(sampleMarkovs())
	case reflect.TypeFor[[]impl.Func]():
		values = valuesOf(funcs())
	case reflect.TypeFor[[][]impl.Func]():
		values = valuesOf(sampleFuncTables())
	case reflect.TypeFor[[]impl.Lam]():
		values = valuesOf(terms())
	case reflect.TypeFor[[][]impl.Lam]():
		values = valuesOf(sampleLamTables())
	case reflect.TypeFor[[]impl.Comb]():
		values = valuesOf(sampleCombs())
	}
	for i, v := range values {
		values[i] = withSpare(v)
	}
	return values
}

func valuesOf[V any](samples []V) []reflect.Value {
	var values []reflect.Value
	for _, v := range samples {
		values = append(values, reflect.ValueOf(v))
	}
	return values
}

// withSpare returns a copy of a value in new memory, in which slices have elements in their unused capacity.
func withSpare(v reflect.Value) reflect.Value {
	copied := reflect.New(v.Type()).Elem()
	copied.Set(v)
	switch {
	case v.Kind() == reflect.Struct:
		for i := range v.NumField() {
			copied.Field(i).Set(withSpare(v.Field(i)))
		}
	case v.Kind() == reflect.Slice && !v.IsNil():
		whole := reflect.MakeSlice(v.Type(), v.Len()+3, v.Len()+3)
		for i, element := range elementsOf(v) {
			whole.Index(i).Set(withSpare(element))
		}
		for i := v.Len(); i < whole.Len(); i++ {
			fill(whole.Index(i))
		}
		copied.Set(whole.Slice(0, v.Len()))
	}
	return copied
}

// fill makes a value one that should not be seen.
func fill(v reflect.Value) {
	switch v.Kind() {
	case reflect.Int64:
		v.SetInt(77)
	case reflect.Struct:
		for i := range v.NumField() {
			fill(v.Field(i))
		}
	case reflect.Slice:
		v.Set(reflect.MakeSlice(v.Type(), 1, 1))
		fill(v.Index(0))
	}
}

// argumentsFor returns all combinations of samples for the parameters of a function.
func argumentsFor(f reflect.Type) [][]reflect.Value {
	all := [][]reflect.Value{nil}
	for i := range f.NumIn() {
		var longer [][]reflect.Value
		for _, before := range all {
			for _, v := range samplesOf(f.In(i), f.NumIn() > 2) {
				longer = append(longer, append(slices.Clone(before), v))
			}
		}
		all = longer
	}
	return all
}

// hasSlices reports whether values of a type contain slices.
func hasSlices(p reflect.Type) bool {
	if p.Kind() == reflect.Struct {
		for i := range p.NumField() {
			if hasSlices(p.Field(i).Type) {
				return true
			}
		}
	}
	return p.Kind() == reflect.Slice
}

// wholeText writes values with the unused capacity of slices.
func wholeText(values []reflect.Value) string {
	var text strings.Builder
	for _, v := range values {
		switch {
		case !hasSlices(v.Type()):
			fmt.Fprintf(&text, "%v; ", v)
		case v.Kind() == reflect.Struct:
			fmt.Fprintf(&text, "{%s}; ", wholeText(fieldsOf(v)))
		case hasSlices(v.Type().Elem()):
			fmt.Fprintf(&text, "%d of [%s]; ", v.Len(), wholeText(elementsOf(v.Slice(0, v.Cap()))))
		default:
			fmt.Fprintf(&text, "%d of %v; ", v.Len(), v.Slice(0, v.Cap()))
		}
	}
	return text.String()
}

func fieldsOf(v reflect.Value) []reflect.Value {
	var fields []reflect.Value
	for i := range v.NumField() {
		fields = append(fields, v.Field(i))
	}
	return fields
}

func elementsOf(v reflect.Value) []reflect.Value {
	var elements []reflect.Value
	for i := range v.Len() {
		elements = append(elements, v.Index(i))
	}
	return elements
}

func resultText(values []reflect.Value) string {
	var text strings.Builder
	for _, v := range values {
		fmt.Fprintf(&text, "%v; ", v)
	}
	return text.String()
}

// memory is a part of the memory, from the first address to that before the last one.
type memory struct{ from, to uintptr }

// memoryOf returns what a value occupies with its slices, also in their unused capacity.
func memoryOf(v reflect.Value) []memory {
	var parts []memory
	switch {
	case v.Kind() == reflect.Struct:
		for _, field := range fieldsOf(v) {
			parts = append(parts, memoryOf(field)...)
		}
	case v.Kind() == reflect.Slice && v.Cap() > 0:
		parts = append(parts, memory{v.Pointer(), v.Pointer() + uintptr(v.Cap())*v.Type().Elem().Size()})
		if hasSlices(v.Type().Elem()) {
			for _, element := range elementsOf(v.Slice(0, v.Cap())) {
				parts = append(parts, memoryOf(element)...)
			}
		}
	}
	return parts
}

// shareMemory reports whether a part of the results is also one of the arguments or another one of the results.
func shareMemory(results, args []reflect.Value) bool {
	var taken []memory
	for _, v := range args {
		taken = append(taken, memoryOf(v)...)
	}
	for _, v := range results {
		for _, part := range memoryOf(v) {
			if slices.ContainsFunc(taken, func(other memory) bool { return part.from < other.to && other.from < part.to }) {
				return true
			}
			taken = append(taken, part)
		}
	}
	return false
}

// failed reports whether the last one of several results is a code other than OK, or false.
func failed(results []reflect.Value) bool {
	last := results[len(results)-1]
	switch last.Kind() {
	case reflect.Bool:
		return len(results) > 1 && !last.Bool()
	case reflect.Int64:
		return len(results) > 1 && last.Int() != impl.OK
	}
	return false
}

// isNothing reports whether a value is zero, but for slices that are empty and not nil.
func isNothing(v reflect.Value) bool {
	if v.Kind() == reflect.Struct {
		return !slices.ContainsFunc(fieldsOf(v), func(field reflect.Value) bool { return !isNothing(field) })
	}
	return v.IsZero() || v.Kind() == reflect.Slice && v.Len() == 0
}

func checkCall(t *testing.T, name string, f reflect.Value, args []reflect.Value) {
	t.Helper()
	defer func() {
		if r := recover(); r != nil {
			t.Errorf("%s panics for %s: %v", name, wholeText(args), r)
		}
	}()
	before := wholeText(args)
	results := f.Call(args)
	if after := wholeText(args); after != before {
		t.Errorf("%s changes its arguments from %s to %s", name, before, after)
	}
	if again := f.Call(args); resultText(again) != resultText(results) {
		t.Errorf("%s for %s: first %s, then %s", name, before, resultText(results), resultText(again))
	}
	if shareMemory(results, args) {
		t.Errorf("%s for %s: a result shares memory", name, before)
	}
	for i, r := range results {
		if failed(results) && i < len(results)-1 && !isNothing(r) {
			t.Errorf("%s for %s: the result %d is %v beside an error", name, before, i, r)
		}
	}
}

// forEachLanded checks the functions that have landed side by side.
func forEachLanded(t *testing.T, check func(t *testing.T, name string, f reflect.Value)) {
	for name, call := range landed {
		t.Run(name, func(t *testing.T) {
			t.Parallel()
			check(t, name, reflect.ValueOf(call))
		})
	}
}

func TestPromise1EveryCall(t *testing.T) {
	forEachLanded(t, func(t *testing.T, name string, f reflect.Value) {
		for _, args := range argumentsFor(f.Type()) {
			checkCall(t, name, f, args)
		}
	})
}

func TestPromise1OneArgumentTwice(t *testing.T) {
	forEachLanded(t, func(t *testing.T, name string, f reflect.Value) {
		many := f.Type().NumIn()
		if many < 2 || !areAlike(f.Type()) {
			return
		}
		for _, v := range samplesOf(f.Type().In(0), false) {
			same := slices.Repeat([]reflect.Value{v}, many)
			checkCall(t, name, f, same)
			var equal []reflect.Value
			for range many {
				equal = append(equal, withSpare(v))
			}
			if together, separate := f.Call(same), f.Call(equal); resultText(together) != resultText(separate) {
				t.Errorf("%s for one argument twice: %s, for equal ones: %s", name, resultText(together), resultText(separate))
			}
		}
	})
}

func TestPromise1OneProgramInTwoPlaces(t *testing.T) {
	branch := reflect.ValueOf(impl.BranchProgram)
	for _, v := range samplesOf(reflect.TypeFor[[]impl.Instr](), false) {
		same := []reflect.Value{reflect.ValueOf(int64(3)), v, v}
		checkCall(t, "BranchProgram", branch, same)
		equal := []reflect.Value{same[0], withSpare(v), withSpare(v)}
		expect(t, resultText(branch.Call(same)), resultText(branch.Call(equal)))
	}
}

// A function may also be all of those of which another one is composed.
func TestPromise1OneFunctionInAllPlaces(t *testing.T) {
	compose := reflect.ValueOf(impl.ComposeFunc)
	for _, v := range samplesOf(reflect.TypeFor[[]impl.Func](), false) {
		f := v.Interface().([]impl.Func)
		for _, inner := range [][][]impl.Func{{f}, {f, f}, {f, f, f, f}} {
			same := []reflect.Value{v, reflect.ValueOf(inner)}
			checkCall(t, "ComposeFunc", compose, same)
			equal := []reflect.Value{withSpare(v), withSpare(same[1])}
			expect(t, resultText(compose.Call(same)), resultText(compose.Call(equal)))
		}
	}
}

// A term may also be the one that is put for a variable in it, and all arguments to which it is applied.
func TestPromise1OneTermInAllPlaces(t *testing.T) {
	substitute, apply := reflect.ValueOf(impl.SubstituteLam), reflect.ValueOf(impl.ApplyLam)
	for _, v := range samplesOf(reflect.TypeFor[[]impl.Lam](), false) {
		for k := range int64(3) {
			same := []reflect.Value{v, reflect.ValueOf(k), v}
			checkCall(t, "SubstituteLam", substitute, same)
			equal := []reflect.Value{withSpare(v), same[1], withSpare(v)}
			expect(t, resultText(substitute.Call(same)), resultText(substitute.Call(equal)))
		}
		x := v.Interface().([]impl.Lam)
		for _, args := range [][][]impl.Lam{{x}, {x, x}, {x, x, x, x}} {
			same := []reflect.Value{v, reflect.ValueOf(args)}
			checkCall(t, "ApplyLam", apply, same)
			equal := []reflect.Value{withSpare(v), withSpare(same[1])}
			expect(t, resultText(apply.Call(same)), resultText(apply.Call(equal)))
		}
	}
}

// areAlike reports whether all parameters have the type of the first one, with slices in it.
func areAlike(f reflect.Type) bool {
	for i := range f.NumIn() {
		if f.In(i) != f.In(0) {
			return false
		}
	}
	return hasSlices(f.In(0))
}

func TestPromise1OneListInATable(t *testing.T) {
	forEachLanded(t, func(t *testing.T, name string, f reflect.Value) {
		if f.Type().NumIn() != 1 || f.Type().In(0) != reflect.TypeFor[[][]int64]() {
			return
		}
		for _, v := range samplesOf(reflect.TypeFor[[]int64](), false) {
			same := v.Interface().([]int64)
			checkCall(t, name, f, []reflect.Value{reflect.ValueOf([][]int64{same, same})})
		}
	})
}

// Lists of one argument may be the same one: both sides of a tape, what a rule reads and writes, all tapes, all words.
func TestPromise1OneListInAnArgument(t *testing.T) {
	forEachLanded(t, func(t *testing.T, name string, f reflect.Value) {
		for _, args := range argumentsFor(f.Type()) {
			changed := false
			for _, v := range args {
				changed = shareLists(v) || changed
			}
			if changed {
				checkCall(t, name, f, args)
			}
		}
	})
}

// shareLists makes all lists in a struct the first one of them, and all tapes and all lists of a table the first one, and
// reports whether there are any.
func shareLists(v reflect.Value) bool {
	shared := false
	switch {
	case v.Kind() == reflect.Struct:
		var lists []reflect.Value
		for _, field := range fieldsOf(v) {
			if field.Type() == reflect.TypeFor[[]int64]() {
				lists = append(lists, field)
				field.Set(lists[0])
			}
			shared = shareLists(field) || shared
		}
		return shared || len(lists) > 1
	case v.Kind() == reflect.Slice && v.Type().Elem().Kind() == reflect.Slice:
		for i, element := range elementsOf(v) {
			shared = shared || i > 0
			element.Set(v.Index(0))
		}
	case v.Kind() == reflect.Slice && v.Type().Elem().Kind() == reflect.Struct:
		for i, element := range elementsOf(v) {
			shared = shareLists(element) || shared
			if i > 0 && element.Type() == reflect.TypeFor[impl.Tape]() {
				element.Set(v.Index(0))
			}
		}
	}
	return shared
}

// A word may be one of those of its tag system, and its halting letters.
func TestPromise1OneListInATagSystem(t *testing.T) {
	forEachLanded(t, func(t *testing.T, name string, f reflect.Value) {
		for _, v := range samplesOf(reflect.TypeFor[[]int64](), false) {
			w := v.Interface().([]int64)
			tag := impl.Tag{Delete: 1, Words: [][]int64{w, w}}
			halting, cyclic, turn := impl.Tag{Delete: 1, Words: [][]int64{w, nil}, Halting: w}, impl.Cyclic{Words: [][]int64{w, w}}, impl.Turn{Word: w}
			for _, both := range [][2]any{{tag, w}, {halting, w}, {cyclic, turn}} {
				args := valuesOf(both[:])
				if f.Type().NumIn() < 2 || f.Type().In(0) != args[0].Type() || f.Type().In(1) != args[1].Type() {
					continue
				}
				if f.Type().NumIn() > 2 {
					args = append(args, reflect.ValueOf(int64(7)))
				}
				checkCall(t, name, f, args)
			}
		}
	})
}

// A word may also be both sides of the rules by which it is changed, and other words of a call.
func TestPromise1OneListInRules(t *testing.T) {
	forEachLanded(t, func(t *testing.T, name string, f reflect.Value) {
		for _, v := range samplesOf(reflect.TypeFor[[]int64](), false) {
			w := v.Interface().([]int64)
			rewrites := []impl.Rewrite{rewrite(w, w), rewrite([]int64{0}, w)}
			markov := []impl.MarkovRule{markovRule(w, w, false), markovRule(nil, w, true)}
			for _, rules := range []any{rewrites, markov} {
				args := argumentsWith(f.Type(), rules, w)
				if args != nil {
					checkCall(t, name, f, args)
				}
			}
		}
	})
}

// argumentsWith returns arguments for a function that takes rules and then lists, tables and numbers, with one list wherever
// there may be one, and nil for other functions.
func argumentsWith(f reflect.Type, rules any, list []int64) []reflect.Value {
	var args []reflect.Value
	for _, v := range []any{rules, list, [][]int64{{0, 0}, list, list}, int64(1)} {
		for i := len(args); i < f.NumIn() && f.In(i) == reflect.TypeOf(v); i++ {
			args = append(args, reflect.ValueOf(v))
		}
	}
	if len(args) < f.NumIn() || len(args) == 0 || args[0].Type() != reflect.TypeOf(rules) {
		return nil
	}
	return args
}

// swapEmpty returns a value in which nil and empty slices are exchanged.
func swapEmpty(v reflect.Value) reflect.Value {
	swapped := reflect.New(v.Type()).Elem()
	swapped.Set(v)
	switch {
	case v.Kind() == reflect.Struct:
		for i, field := range fieldsOf(v) {
			swapped.Field(i).Set(swapEmpty(field))
		}
	case v.Kind() != reflect.Slice:
	case v.IsNil():
		swapped.Set(reflect.MakeSlice(v.Type(), 0, 0))
	case v.Len() == 0:
		swapped.SetZero()
	case hasSlices(v.Type().Elem()):
		swapped.Set(reflect.MakeSlice(v.Type(), v.Len(), v.Len()))
		for i, element := range elementsOf(v) {
			swapped.Index(i).Set(swapEmpty(element))
		}
	}
	return swapped
}

func TestPromise1NilIsEmpty(t *testing.T) {
	forEachLanded(t, func(t *testing.T, name string, f reflect.Value) {
		for _, args := range argumentsFor(f.Type()) {
			var swapped []reflect.Value
			for _, v := range args {
				swapped = append(swapped, swapEmpty(v))
			}
			if a, b := resultText(f.Call(args)), resultText(f.Call(swapped)); a != b {
				t.Errorf("%s for %s: %s, but %s with nil and empty lists exchanged", name, wholeText(args), a, b)
			}
		}
	})
}

// wipe sets all elements of slices to zero, also in their unused capacity.
func wipe(v reflect.Value) {
	switch v.Kind() {
	case reflect.Struct:
		for _, field := range fieldsOf(v) {
			wipe(field)
		}
	case reflect.Slice:
		for _, element := range elementsOf(v.Slice(0, v.Cap())) {
			wipe(element)
			element.SetZero()
		}
	}
}

// What is returned must not be kept either: a caller may change it without an effect on later calls.
func TestPromise1ResultsAreNotKept(t *testing.T) {
	forEachLanded(t, func(t *testing.T, name string, f reflect.Value) {
		for _, args := range argumentsFor(f.Type()) {
			results := f.Call(args)
			before := resultText(results)
			for _, r := range results {
				wipe(r)
			}
			if after := resultText(f.Call(args)); after != before {
				t.Errorf("%s for %s: %s, and %s after its results have been changed", name, wholeText(args), before, after)
			}
		}
	})
}

func TestPromise1OrderOfErrors(t *testing.T) {
	bad, great := []int64{1, 0}, repeat(999999, 40)
	invalid := "[] 1"
	expect(t, show(impl.SubtractNaturals(nil, bad)), invalid)
	expect(t, show(impl.SubtractNaturals(bad, great)), invalid)
	expect(t, show(impl.AddNaturals(great, bad)), invalid)
	expect(t, show(impl.MultiplyNaturals(bad, great)), invalid)
	expect(t, show(impl.DivideNaturals(bad, nil)), "[] [] 1")
	expect(t, show(impl.PowerNatural(bad, -1)), invalid)
	expect(t, show(impl.PowerNatural(bad, impl.MaxPower+1)), invalid)
	expect(t, show(impl.DigitsOf(bad, 1)), invalid)
	expect(t, show(impl.ValuationOf(bad, 1)), "0 1")
	expect(t, show(impl.SmallOf([]int64{0, 0, 0, 0, 0})), "0 1")

	outOfRange := "[] 2"
	expect(t, show(impl.PowerNatural(great, impl.MaxPower+1)), outOfRange)
	expect(t, show(impl.FromDigits(append(repeat(1, 801), 2), 2)), outOfRange)
	expect(t, show(impl.FromDigits(append(repeat(1, 801), -1), 2)), outOfRange)
	expect(t, show(impl.FromDigits(repeat(0, 801), 1)), outOfRange)
	expect(t, show(impl.PowerOf(impl.MaxValue, impl.MaxList+1)), "0 2")
	expect(t, show(impl.PowerOf(impl.MaxValue+1, 1)), "0 2")
}
