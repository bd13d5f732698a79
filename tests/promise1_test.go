package tests

import (
	"fmt"
	"math"
	"reflect"
	"slices"
	"strings"
	"testing"

	"loop.example/g01079/impl"
)

// The functions that have landed. Those whose last result is a code or tells whether there is a result are checked for
// zero values beside an error by the types of their results alone.
var landed = map[string]any{
	"CodeName": impl.CodeName, "IsName": impl.IsName, "Decimal": impl.Decimal, "ReadDecimal": impl.ReadDecimal,
	"SplitWords": impl.SplitWords, "ListText": impl.ListText, "ReadList": impl.ReadList, "Crc16": impl.Crc16,
	"CompareLists": impl.CompareLists, "SortList": impl.SortList, "IsPrime": impl.IsPrime, "PrimeAt": impl.PrimeAt,
	"PowerOf": impl.PowerOf, "ExponentOf": impl.ExponentOf,

	"IsNatural": impl.IsNatural, "NaturalOf": impl.NaturalOf, "SmallOf": impl.SmallOf, "NaturalText": impl.NaturalText,
	"ReadNatural": impl.ReadNatural, "CompareNaturals": impl.CompareNaturals, "AddNaturals": impl.AddNaturals,
	"SubtractNaturals": impl.SubtractNaturals, "MultiplyNaturals": impl.MultiplyNaturals,
	"DivideNaturals": impl.DivideNaturals, "PowerNatural": impl.PowerNatural, "GcdNaturals": impl.GcdNaturals,
	"RootNatural": impl.RootNatural, "ValuationOf": impl.ValuationOf, "DigitsOf": impl.DigitsOf, "FromDigits": impl.FromDigits,
}

var sampleNumbers = []int64{
	math.MinInt64, -impl.MaxValue - 1, -impl.MaxValue, -1, 0, 1, 2, 3, 7, 11, 12, 23, 24, 64, 65, 799, 800, 801,
	65535, 65536, impl.LimbBase - 1, impl.LimbBase, impl.LimbBase + 1, 999999999989, impl.MaxValue, impl.MaxValue + 1, math.MaxInt64,
}

var sampleTexts = []string{
	"", "-", "--", "0", "-0", "00", "7", "-7", "+7", "07", "7 ", " 7", "7,", ",7", "7,,7", "7,-7,0", "a", "a1", "1a", "A", "ab c  d", "   ",
	"\t", "\x00", "\xff", "\u00e9", "\uff11", "1e3", "0x1", "1_0", "9223372036854775807", "9223372036854775808", "-9223372036854775808",
	strings.Repeat("9", 18), strings.Repeat("9", 19), strings.Repeat("9", 240), strings.Repeat("9", 241), strings.Repeat("z", 11),
	strings.TrimSuffix(strings.Repeat("7,", 64), ","), strings.TrimSuffix(strings.Repeat("7,", 65), ","),
}

var sampleLists = [][]int64{
	nil, {}, {0}, {1}, {2}, {7}, {-1}, {impl.LimbBase - 1}, {impl.LimbBase}, {0, 1}, {1, 0}, {0, 0}, {5, 7}, {7, 5, 7}, {3, 1, 2, 1},
	{0, 0, 1}, {1, 0, 1}, {0, 0, 0, 1}, {impl.MaxValue}, {impl.MaxValue + 1}, {-impl.MaxValue}, {math.MinInt64, math.MaxInt64},
	repeat(999999, 20), repeat(999999, 40), repeat(999999, 41), repeat(1, 64), repeat(1, 65), repeat(1, 800), repeat(1, 801), repeat(0, 801),
}

// samplesOf returns values of the type of a parameter; each call makes the lists anew, with unused capacity.
func samplesOf(p reflect.Type) []reflect.Value {
	var values []reflect.Value
	switch p {
	case reflect.TypeFor[int64]():
		for _, n := range sampleNumbers {
			values = append(values, reflect.ValueOf(n))
		}
	case reflect.TypeFor[string]():
		for _, s := range sampleTexts {
			values = append(values, reflect.ValueOf(s))
		}
	case reflect.TypeFor[[]int64]():
		for _, list := range sampleLists {
			values = append(values, reflect.ValueOf(withSpare(list)))
		}
	}
	return values
}

const spare = 77

func withSpare(list []int64) []int64 {
	if list == nil {
		return nil
	}
	return append(slices.Clone(list), spare, spare, spare)[: len(list) : len(list)+3]
}

// argumentsFor returns all combinations of samples for the parameters of a function.
func argumentsFor(f reflect.Type) [][]reflect.Value {
	all := [][]reflect.Value{nil}
	for i := range f.NumIn() {
		var longer [][]reflect.Value
		for _, before := range all {
			for _, v := range samplesOf(f.In(i)) {
				longer = append(longer, append(slices.Clone(before), v))
			}
		}
		all = longer
	}
	return all
}

// wholeText writes values with the unused capacity of lists.
func wholeText(values []reflect.Value) string {
	var text strings.Builder
	for _, v := range values {
		if v.Kind() == reflect.Slice {
			fmt.Fprintf(&text, "%d of %v; ", v.Len(), v.Slice(0, v.Cap()))
		} else {
			fmt.Fprintf(&text, "%v; ", v)
		}
	}
	return text.String()
}

func resultText(values []reflect.Value) string {
	var text strings.Builder
	for _, v := range values {
		fmt.Fprintf(&text, "%v; ", v)
	}
	return text.String()
}

// shareMemory reports whether two lists of numbers have an element in common, also in their unused capacity.
func shareMemory(a, b reflect.Value) bool {
	if a.Type() != reflect.TypeFor[[]int64]() || a.Type() != b.Type() || a.Cap() == 0 || b.Cap() == 0 {
		return false
	}
	const size = 8
	return a.Pointer() < b.Pointer()+uintptr(b.Cap())*size && b.Pointer() < a.Pointer()+uintptr(a.Cap())*size
}

// failed reports whether the last one of several results is a code other than OK, or false.
func failed(results []reflect.Value) bool {
	last := results[len(results)-1]
	switch last.Kind() {
	case reflect.Bool:
		return len(results) > 1 && !last.Bool()
	case reflect.Int64:
		return len(results) > 1 && last.Int() != impl.OK
	}
	return false
}

func checkCall(t *testing.T, name string, f reflect.Value, args []reflect.Value) {
	t.Helper()
	defer func() {
		if r := recover(); r != nil {
			t.Errorf("%s panics for %s: %v", name, wholeText(args), r)
		}
	}()
	before := wholeText(args)
	results := f.Call(args)
	if after := wholeText(args); after != before {
		t.Errorf("%s changes its arguments from %s to %s", name, before, after)
	}
	if again := f.Call(args); resultText(again) != resultText(results) {
		t.Errorf("%s for %s: first %s, then %s", name, before, resultText(results), resultText(again))
	}
	for i, r := range results {
		for _, other := range slices.Concat(args, results[:i]) {
			if shareMemory(r, other) {
				t.Errorf("%s for %s: the result %d shares memory", name, before, i)
			}
		}
		if failed(results) && i < len(results)-1 && !(r.IsZero() || r.Kind() == reflect.Slice && r.Len() == 0) {
			t.Errorf("%s for %s: the result %d is %v beside an error", name, before, i, r)
		}
	}
}

func TestPromise1EveryCall(t *testing.T) {
	for name, call := range landed {
		f := reflect.ValueOf(call)
		for _, args := range argumentsFor(f.Type()) {
			checkCall(t, name, f, args)
		}
	}
}

func TestPromise1OneListTwice(t *testing.T) {
	for name, call := range landed {
		f := reflect.ValueOf(call)
		if f.Type().NumIn() != 2 || f.Type().In(0) != f.Type().In(1) || f.Type().In(0).Kind() != reflect.Slice {
			continue
		}
		for _, list := range samplesOf(f.Type().In(0)) {
			checkCall(t, name, f, []reflect.Value{list, list})
			separate := f.Call([]reflect.Value{list, reflect.ValueOf(slices.Clone(list.Interface().([]int64)))})
			if together := f.Call([]reflect.Value{list, list}); resultText(together) != resultText(separate) {
				t.Errorf("%s for one list twice: %s, for two equal lists: %s", name, resultText(together), resultText(separate))
			}
		}
	}
}

func TestPromise1NilIsEmpty(t *testing.T) {
	for name, call := range landed {
		f := reflect.ValueOf(call)
		for _, args := range argumentsFor(f.Type()) {
			swapped := slices.Clone(args)
			for i, v := range args {
				if v.Kind() == reflect.Slice && v.Len() == 0 && v.IsNil() {
					swapped[i] = reflect.ValueOf([]int64{})
				} else if v.Kind() == reflect.Slice && v.Len() == 0 {
					swapped[i] = reflect.Zero(v.Type())
				}
			}
			if a, b := resultText(f.Call(args)), resultText(f.Call(swapped)); a != b {
				t.Errorf("%s for %s: %s, but %s with nil and empty lists exchanged", name, wholeText(args), a, b)
			}
		}
	}
}

// What is returned must not be kept either: a caller may change it without an effect on later calls.
func TestPromise1ResultsAreNotKept(t *testing.T) {
	for name, call := range landed {
		f := reflect.ValueOf(call)
		for _, args := range argumentsFor(f.Type()) {
			results := f.Call(args)
			before := resultText(results)
			for _, r := range results {
				if r.Kind() != reflect.Slice {
					continue
				}
				whole := r.Slice(0, r.Cap())
				for i := range whole.Len() {
					whole.Index(i).SetZero()
				}
			}
			if after := resultText(f.Call(args)); after != before {
				t.Errorf("%s for %s: %s, and %s after its results have been changed", name, wholeText(args), before, after)
			}
		}
	}
}

func TestPromise1OrderOfErrors(t *testing.T) {
	bad, great := []int64{1, 0}, repeat(999999, 40)
	invalid := "[] 1"
	expect(t, show(impl.SubtractNaturals(nil, bad)), invalid)
	expect(t, show(impl.SubtractNaturals(bad, great)), invalid)
	expect(t, show(impl.AddNaturals(great, bad)), invalid)
	expect(t, show(impl.MultiplyNaturals(bad, great)), invalid)
	expect(t, show(impl.DivideNaturals(bad, nil)), "[] [] 1")
	expect(t, show(impl.PowerNatural(bad, -1)), invalid)
	expect(t, show(impl.PowerNatural(bad, impl.MaxPower+1)), invalid)
	expect(t, show(impl.DigitsOf(bad, 1)), invalid)
	expect(t, show(impl.ValuationOf(bad, 1)), "0 1")
	expect(t, show(impl.SmallOf([]int64{0, 0, 0, 0, 0})), "0 1")

	outOfRange := "[] 2"
	expect(t, show(impl.PowerNatural(great, impl.MaxPower+1)), outOfRange)
	expect(t, show(impl.FromDigits(append(repeat(1, 801), 2), 2)), outOfRange)
	expect(t, show(impl.FromDigits(append(repeat(1, 801), -1), 2)), outOfRange)
	expect(t, show(impl.FromDigits(repeat(0, 801), 1)), outOfRange)
	expect(t, show(impl.PowerOf(impl.MaxValue, impl.MaxList+1)), "0 2")
	expect(t, show(impl.PowerOf(impl.MaxValue+1, 1)), "0 2")
}
