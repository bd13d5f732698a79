package tests

import (
	"fmt"
	"math"
	"math/rand"
	"slices"
	"strings"
	"testing"

	"loop.example/g01079/impl"
)

const (
	// noTag is what a tag system looks like beside false.
	noTag = "{0 [] []}"
	// mostTagLetters is the greatest number of letters of a word.
	mostTagLetters = 1000
	collatz        = "2:1.2,0,0.0.0:-"
)

func tagOf(t *testing.T, s string) impl.Tag {
	t.Helper()
	return mustRead(t, impl.ReadTag, s)
}

// tagWith returns a tag system without halting letters.
func tagWith(remove int64, words ...[]int64) impl.Tag {
	return impl.Tag{Delete: remove, Words: words}
}

// ladder returns a tag system that replaces each letter by the next one, and the last one by the letter back.
func ladder(letters, back int64) impl.Tag {
	tag := impl.Tag{Delete: 1}
	for letter := range letters - 1 {
		tag.Words = append(tag.Words, []int64{letter + 1})
	}
	tag.Words = append(tag.Words, []int64{back})
	return tag
}

// outsideLetters are no letters of a tag system with two words.
var outsideLetters = []int64{2, -1, 200, math.MinInt64, math.MaxInt64}

// badTags returns tag systems that are not valid, each for another reason.
func badTags() []impl.Tag {
	good := [][]int64{{0, 1}, {1}}
	all := []impl.Tag{
		{}, {Delete: 1}, tagWith(1, [][]int64{}...), {Delete: 2, Halting: []int64{0}}, tagWith(1, slices.Repeat([][]int64{{0}}, 201)...), tagWith(1, make([][]int64, 201)...), tagWith(4, make([][]int64, 5000)...),
		tagWith(1, repeat(0, 1001)), tagWith(1, repeat(0, 1001), nil), tagWith(1, nil, repeat(1, 1001)), tagWith(2, repeat(0, 5000)),
	}
	for _, remove := range []int64{0, -1, 5, 6, 1000, math.MinInt64, math.MaxInt64} {
		all = append(all, tagWith(remove, good...))
	}
	for _, bad := range outsideLetters {
		for _, words := range [][][]int64{{{bad}, {0}}, {{0}, {bad}}, {nil, {0, 1, bad}}, {{bad, 0}, nil}, {{0, bad, 1}, {1}}} {
			all = append(all, tagWith(2, words...))
		}
		for _, halting := range [][]int64{{bad}, {0, bad}, {bad, 1}, {0, 1, bad}} {
			all = append(all, impl.Tag{Delete: 2, Words: good, Halting: halting})
		}
	}
	for _, halting := range [][]int64{{0, 0}, {1, 1}, {1, 0}, {0, 1, 0}, {0, 1, 1}, {1, 0, 1}, repeat(0, 1000)} {
		all = append(all, impl.Tag{Delete: 2, Words: good, Halting: halting})
	}
	return all
}

// badTagWords are lists that are no words of a tag system with two words.
func badTagWords() [][]int64 {
	all := [][]int64{repeat(0, 1001), repeat(1, 1001), repeat(0, 5000)}
	for _, bad := range outsideLetters {
		all = append(all, []int64{bad}, []int64{0, bad}, []int64{bad, 0}, []int64{0, 1, bad, 1, 0}, append(repeat(0, 999), bad), append(repeat(0, 1000), bad))
	}
	return all
}

func sampleTags() []impl.Tag {
	var all []impl.Tag
	for _, s := range []string{collatz, "1:0:-", "1:0.0:-", "1:-:-", "1:-:0", "2:1,-:1", "4:0.1.0.1.0,1:-", "3:0.0.0.0,1.0:1", "1:1,0:-", "2:0.0,1,2.1.0:0.2"} {
		tag, _ := impl.ReadTag(s)
		all = append(all, tag)
	}
	all = append(all, ladder(200, 0), ladder(200, 100), tagWith(4, repeat(0, 1000), repeat(1, 1000)), impl.Tag{Delete: 1, Words: slices.Repeat([][]int64{{199}}, 200), Halting: upTo(200)})
	return append(all, badTags()[:18]...)
}

// fewTags returns enough of them where a function has many parameters.
func fewTags() []impl.Tag {
	return append(sampleTags()[:10], impl.Tag{}, tagWith(1, repeat(0, 602), nil), tagWith(0, nil, nil), tagWith(1, []int64{1}), tagWith(2, []int64{0}, repeat(1, 1001)))
}

// upTo returns the numbers from 0 on that are less than a limit.
func upTo(limit int64) []int64 {
	var list []int64
	for n := range limit {
		list = append(list, n)
	}
	return list
}

var tagCalls = calls[impl.Tag, []int64]{impl.StepTag, impl.RunTag, impl.TraceTag}

// tagModel runs a tag system in the plainest way.
type tagModel struct {
	tag impl.Tag
	w   []int64
}

func newTagModel(tag impl.Tag, w []int64) *tagModel { return &tagModel{tag, slices.Clone(w)} }

func (m *tagModel) config() []int64 { return slices.Clone(m.w) }

func (m *tagModel) halts() bool {
	return len(m.w) < int(m.tag.Delete) || slices.Contains(m.tag.Halting, m.w[0])
}

func (m *tagModel) step() int64 {
	if m.halts() {
		return impl.ErrState
	}
	longer := slices.Concat(m.w, m.tag.Words[m.w[0]])
	if len(longer) > mostTagLetters {
		return impl.ErrFull
	}
	m.w = longer[m.tag.Delete:]
	return impl.OK
}

// someTagWord returns a word over so many letters.
func someTagWord(random *rand.Rand, letters, length int) []int64 {
	var w []int64
	for range length {
		w = append(w, random.Int63n(int64(letters)))
	}
	return w
}

// someTag returns a tag system whose words are about as long as what is removed; one in so many of its letters is a halting one.
func someTag(random *rand.Rand, halting int) impl.Tag {
	tag := impl.Tag{Delete: 1 + random.Int63n(4)}
	letters := 1 + random.Intn(5)
	for letter := range letters {
		tag.Words = append(tag.Words, someTagWord(random, letters, random.Intn(2*int(tag.Delete)+1)))
		if random.Intn(halting) == 0 {
			tag.Halting = append(tag.Halting, int64(letter))
		}
	}
	return tag
}

// forSomeTags checks many small tag systems with a word of each, which has at least so many letters.
func forSomeTags(seed int64, many, least int, check func(random *rand.Rand, tag impl.Tag, w []int64)) {
	random := rand.New(rand.NewSource(seed))
	for range many {
		tag := someTag(random, 8)
		check(random, tag, someTagWord(random, len(tag.Words), least+random.Intn(10)))
	}
}

func TestPromise10Constants(t *testing.T) {
	expect(t, show(impl.MaxDelete, impl.MaxTagLetters, impl.MaxTagWord, impl.MaxCyclic), "4 200 1000 400")
}

func TestPromise10Example(t *testing.T) {
	expect(t, show(impl.CollatzNumbers(3, impl.MaxBudget)), "[3 5 8 4 2 1] 0")
	tag := impl.CollatzTag()
	expect(t, show(tag), show(impl.Tag{Delete: 2, Words: [][]int64{{1, 2}, {0}, {0, 0, 0}}}))
	expect(t, show(impl.TagText(tag)), show(collatz))
	expect(t, show(impl.TraceTag(tag, repeat(0, 3), 4)), "[[0 0 0] [0 1 2] [2 1 2] [2 0 0 0] [0 0 0 0 0]] 0")
}

func TestPromise10ValidTags(t *testing.T) {
	for i, tag := range badTags() {
		if impl.ValidTag(tag) {
			t.Errorf("the tag system %d is valid: %v", i, tag)
		}
	}
	for remove := int64(-2); remove <= 7; remove++ {
		expect(t, show(remove, impl.ValidTag(tagWith(remove, nil))), show(remove, remove >= 1 && remove <= 4))
	}
	for _, many := range []int64{0, 1, 2, 199, 200, 201, 202} {
		words := make([][]int64, many)
		expect(t, show(many, impl.ValidTag(tagWith(1, words...))), show(many, many >= 1 && many <= 200))
		if many == 0 {
			continue
		}
		// The letters are the indices of the words, whatever their number is.
		for letter := int64(-1); letter <= many+1; letter++ {
			isLetter := many <= 200 && letter >= 0 && letter < many
			words[many-1] = []int64{0, letter}
			expect(t, show(many, letter, impl.ValidTag(tagWith(4, words...))), show(many, letter, isLetter))
			words[many-1] = nil
			expect(t, show(many, letter, impl.ValidTag(impl.Tag{Delete: 4, Words: words, Halting: []int64{letter}})), show(many, letter, isLetter))
		}
		expect(t, show(many, impl.ValidTag(impl.Tag{Delete: 2, Words: words, Halting: upTo(many)})), show(many, many <= 200))
		expect(t, show(many, impl.ValidTag(impl.Tag{Delete: 2, Words: words, Halting: upTo(many + 1)})), show(many, false))
	}
	for _, length := range []int{0, 1, 999, 1000, 1001, 1002} {
		expect(t, show(length, impl.ValidTag(tagWith(1, nil, repeat(1, length)))), show(length, length <= 1000))
	}
	expect(t, show(impl.ValidTag(tagWith(1, slices.Repeat([][]int64{repeat(199, 1000)}, 200)...))), "true")
}

// plainTagWordText writes a word as the specification says.
func plainTagWordText(w []int64) string {
	if len(w) == 0 {
		return "-"
	}
	return strings.ReplaceAll(strings.Trim(fmt.Sprint(w), "[]"), " ", ".")
}

func plainTagText(tag impl.Tag) string {
	var words []string
	for _, w := range tag.Words {
		words = append(words, plainTagWordText(w))
	}
	return fmt.Sprintf("%d:%s:%s", tag.Delete, strings.Join(words, ","), plainTagWordText(tag.Halting))
}

func TestPromise10TagTexts(t *testing.T) {
	forSomeTags(100, 500, 0, func(_ *rand.Rand, tag impl.Tag, _ []int64) {
		text := impl.TagText(tag)
		expect(t, text, plainTagText(tag))
		back, ok := impl.ReadTag(text)
		expect(t, show(back, ok), show(tag, true))
	})
	great := impl.Tag{Delete: 4, Words: slices.Repeat([][]int64{repeat(199, 1000)}, 200), Halting: upTo(200)}
	for _, tag := range []impl.Tag{
		tagWith(1, nil), tagWith(4, []int64{}), tagWith(1, []int64{0}), tagWith(3, nil, nil, nil), tagWith(2, []int64{1, 1}, nil, []int64{2, 0}), {Delete: 1, Words: [][]int64{nil}, Halting: []int64{0}}, ladder(200, 199), great,
	} {
		text := impl.TagText(tag)
		expect(t, text, plainTagText(tag))
		back, ok := impl.ReadTag(text)
		expect(t, show(back, ok), show(tag, true))
	}
	for i, bad := range badTags() {
		expect(t, show(i, impl.TagText(bad)), show(i, ""))
		if len(bad.Words) > 0 {
			back, ok := impl.ReadTag(plainTagText(bad))
			expect(t, show(i, back, ok), show(i, impl.Tag{}, false))
		}
	}
	for _, s := range []string{collatz, "1:-:-", "1:-:0", "4:-,-,-:0.2", "3:0.0.1,-:1", "1:0:0", "2:1,-:1"} {
		tag, ok := impl.ReadTag(s)
		expect(t, show(impl.TagText(tag), ok), show(s, true))
	}
}

func TestPromise10OtherTagTexts(t *testing.T) {
	bad := []string{
		"", ":", "::", ":::", "-", "1", "1:", "1:0", "1:0:", "1::", "1::-", ":0:-", "1:0:-:", ":1:0:-", "1:0:-:-", "1:0::-", "1:0:0:0", "1,0,-", "1;0;-", "1 0 -", "1:0:-\n", " 1:0:-", "1:0:- ", "1 :0:-", "1: 0:-", "1:0 :-", "1:0: -", "(1:0:-)",
		"0:0:-", "5:0:-", "-1:0:-", "-:0:-", "10:0:-", "01:0:-", "+1:0:-", "1.0:0:-", "1.:0:-", "1e0:0:-", "0x1:0:-", "a:0:-", "18446744073709551617:0:-", "4294967297:0:-", "99999999999999999999:0:-",
		"1:1:-", "1:0,2:-", "1:2,0:-", "1:0.1:-", "1:1.0:-", "1:-1:-", "1:-0:-", "1:00:-", "1:01,0:-", "1:+0:-", "1:0.:-", "1:.0:-", "1:.:-", "1:0..0:-", "1:0.0.:-", "1:,:-", "1:0,:-", "1:,0:-", "1:0,,0:-", "1:--:-", "1:-.-:-", "1:0.-:-", "1:-.0:-", "1:-,:-", "1:,-:-",
		"1:a:-", "1:0.a:-", "1:0 0:-", "1:0. 0:-", "1:0;0:-", "1:0|0:-", "1:[0]:-", "1:0.00:-", "1:0.0x0:-", "1:18446744073709551616:-", "1:99999999999999999999:-",
		"1:0:1", "1:0:-1", "1:0:-0", "1:0:00", "1:0:+0", "1:0:0.0", "1:0,0:1.0", "1:0,0:0.0", "1:0,0:0.1.1", "1:0,0:0.2", "1:0,0:0,1", "1:0,0:0.", "1:0,0:.1", "1:0,0:0..1", "1:0:--", "1:0:-.0", "1:0:0.-", "1:0,0:0 1", "1:0:a", "1:0:18446744073709551616",
		"\uff11:0:-", "1:\uff10:-", "1:0:\uff10", "1:0:\u2212", "1\uff1a0:-", "1:0:-\x00", "\x00", "\xff:0:-", "1:\xff:-", "1:0:\xff",
	}
	for _, s := range bad {
		tag, ok := impl.ReadTag(s)
		expect(t, show(s, tag, ok), show(s, impl.Tag{}, false))
	}
	for _, s := range []string{
		strings.Repeat(":", 100000), strings.Repeat("0:", 100000), "1:" + strings.Repeat(",", 100000) + ":-", "1:" + strings.Repeat("0,", 100000) + "0:-", "1:" + strings.Repeat("-,", 200) + "-:-", "1:" + strings.Repeat("0.", 100000) + "0:-", "1:" + strings.Repeat("0.", 1000) + "0:-",
		"1:0:" + strings.Repeat("0.", 100000) + "0", "1:" + strings.Repeat("0", 100000) + ":-", strings.Repeat("1", 100000) + ":0:-", "1:0:" + strings.Repeat("-", 100000), strings.Repeat("-", 100000),
	} {
		tag, ok := impl.ReadTag(s)
		expect(t, show(tag, ok), noTag+" false")
	}
}

func TestPromise10SingleTagSteps(t *testing.T) {
	for _, c := range []struct {
		tag  string
		w    []int64
		want string
	}{
		{collatz, []int64{0, 0, 0}, "[0 1 2] 0"}, {collatz, []int64{1, 2}, "[0] 0"}, {collatz, []int64{1, 0, 2, 2}, "[2 2 0] 0"}, {collatz, []int64{2, 0}, "[0 0 0] 0"}, {collatz, []int64{2, 1, 1}, "[1 0 0 0] 0"},
		{"1:-:-", []int64{0}, "[] 0"}, {"1:-:-", []int64{0, 0, 0}, "[0 0] 0"}, {"1:0:-", []int64{0}, "[0] 0"}, {"1:0.0.0:-", []int64{0}, "[0 0 0] 0"}, {"1:1.1,-:-", []int64{0, 1}, "[1 1 1] 0"}, {"1:1.1,-:-", []int64{1, 0}, "[0] 0"},
		{"3:1.0.1,-:-", []int64{0, 1, 1, 0}, "[0 1 0 1] 0"}, {"4:1.0.1,-:-", []int64{0, 1, 1, 0}, "[1 0 1] 0"}, {"4:1.0.1,-:-", []int64{1, 1, 1, 1}, "[] 0"}, {"4:1,-:-", []int64{0, 1, 0, 1, 0, 0, 1}, "[0 0 1 1] 0"},
		// What is removed is counted from the beginning of the word as it was, and that has enough letters.
		{"2:1,-:1", []int64{0, 1}, "[1] 0"}, {"2:1,-:1", []int64{0, 0, 1}, "[1 1] 0"}, {"2:1,-:1", []int64{0, 1, 1}, "[1 1] 0"},
	} {
		expect(t, show(c.tag, c.w)+" "+show(impl.StepTag(tagOf(t, c.tag), c.w)), show(c.tag, c.w)+" "+c.want)
	}
}

// Words that are too short, or begin with a halting letter, have no step.
func TestPromise10HaltingWords(t *testing.T) {
	for remove := int64(1); remove <= 4; remove++ {
		tag := impl.Tag{Delete: remove, Words: [][]int64{{0, 1}, nil, {1, 0, 2}}, Halting: []int64{1}}
		for length := range 7 {
			for _, first := range []int64{0, 1, 2} {
				w := append([]int64{first}, repeat(0, length)...)[:length]
				halts := length < int(remove) || first == 1
				end, steps, isEnd, code := impl.RunTag(tag, w, 1)
				cycle := show(impl.TagCycle(tag, w, impl.MaxBudget))
				if halts {
					expect(t, show(impl.StepTag(tag, w)), "[] 6")
					expect(t, show(end, steps, isEnd, code), show(w, 0, true, impl.OK))
					expect(t, show(impl.TraceTag(tag, w, impl.MaxTrace)), show([][]int64{w}, impl.OK))
					expect(t, show(impl.TagLengths(tag, w, 1)), show(length, length, impl.OK))
					expect(t, cycle, "0 0 3")
					continue
				}
				next := slices.Concat(w, tag.Words[first])[remove:]
				expect(t, show(impl.StepTag(tag, w)), show(next, impl.OK))
				expect(t, show(end, steps, code), show(next, 1, impl.OK))
			}
		}
	}
	// A halting letter counts only at the beginning, and a word only behind the step that makes it.
	tag := tagOf(t, "1:1,2,-:2")
	expect(t, show(impl.TraceTag(tag, []int64{0, 2}, 9)), "[[0 2] [2 1]] 0")
	expect(t, show(impl.TraceTag(tag, []int64{0, 0, 1, 2}, 9)), "[[0 0 1 2] [0 1 2 1] [1 2 1 1] [2 1 1 2]] 0")
	all := impl.Tag{Delete: 1, Words: make([][]int64, 200), Halting: upTo(200)}
	for letter := range int64(200) {
		expect(t, show(impl.StepTag(all, []int64{letter, 0})), "[] 6")
		but := all
		but.Halting = slices.Delete(upTo(200), int(letter), int(letter)+1)
		expect(t, show(impl.StepTag(but, []int64{letter, 0})), "[0] 0")
	}
	expect(t, show(impl.StepTag(all, nil)), "[] 6")
}

func TestPromise10TagsRunAsTheModel(t *testing.T) {
	t.Parallel()
	forSomeTags(101, 250, 0, func(_ *rand.Rand, tag impl.Tag, w []int64) {
		tagCalls.expectRuns(t, tag, newTagModel(tag, w))
	})
}

// Near the greatest length, runs come to where the model has no place for more.
func TestPromise10LongTagWords(t *testing.T) {
	t.Parallel()
	forSomeTags(102, 8, 991, func(_ *rand.Rand, tag impl.Tag, w []int64) {
		tagCalls.expectRuns(t, tag, newTagModel(tag, w))
	})
	full := 0
	forSomeTags(103, 500, 991, func(_ *rand.Rand, tag impl.Tag, w []int64) {
		if tagCalls.expectUntilTrouble(t, tag, newTagModel(tag, w), 200) {
			full++
		}
	})
	if full < 100 {
		t.Errorf("only %d runs come to a word that is too long", full)
	}
}

// In a long run, the letters go past every place at which words may be kept.
func TestPromise10LongTagRuns(t *testing.T) {
	t.Parallel()
	for _, s := range []string{"2:0.1,1.0:-", "3:1.2.0,2.0.1,0.1.2:-", "1:1,2,0:-", "4:0.1.1.0,1.1.0.1:-", "2:0.0.1,1:-", "3:0.0,1.1.0.1:-"} {
		tag := tagOf(t, s)
		for _, length := range []int{5, 500, 997, 999, 1000} {
			w := someTagWord(rand.New(rand.NewSource(106)), len(tag.Words), length)
			if len(tag.Words) == 3 || length < 1000 {
				tagCalls.expectUntilTrouble(t, tag, newTagModel(tag, w), 5000)
			}
			tagCalls.expectUntilTrouble(t, tag, newTagModel(tag, w[:length/2]), 3000)
		}
	}
}

func TestPromise10TagRunsGoOn(t *testing.T) {
	forSomeTags(104, 500, 0, func(random *rand.Rand, tag impl.Tag, w []int64) {
		first, second := 1+random.Int63n(90), 1+random.Int63n(90)
		middle, made, _, code := impl.RunTag(tag, w, first)
		end, more, halts, again := impl.RunTag(tag, middle, second)
		expect(t, show(code, again), "0 0")
		expect(t, show(impl.RunTag(tag, w, first+second)), show(end, made+more, halts, impl.OK))
	})
}

// The letters of the word are counted before the first ones are removed.
func TestPromise10FullTagWords(t *testing.T) {
	for remove := int64(1); remove <= 4; remove++ {
		for length := range 6 {
			tag := tagWith(remove, repeat(1, length), nil)
			fits, long := repeat(0, 1000-length), repeat(0, 1001-length)
			next := append(repeat(0, 1000-length-int(remove)), repeat(1, length)...)
			expect(t, show(impl.StepTag(tag, fits)), show(next, impl.OK))
			expect(t, show(impl.RunTag(tag, fits, 1)), show(next, 1, false, impl.OK))
			if length == 0 {
				continue
			}
			expect(t, show(impl.StepTag(tag, long)), "[] 5")
			expect(t, show(impl.RunTag(tag, long, 1)), "[] 0 false 5")
			expect(t, show(impl.TraceTag(tag, long, 1)), "[] 5")
			expect(t, show(impl.TraceTag(tag, long, 0)), show([][]int64{long}, impl.OK))
			expect(t, show(impl.TagLengths(tag, long, 1)), "0 0 5")
			expect(t, show(impl.TagCycle(tag, long, 1)), "0 0 5")
			// A letter without a word, and a word at which the system halts, find no lack of space.
			expect(t, show(impl.StepTag(tag, repeat(1, 1000))), show(repeat(1, 1000-int(remove)), impl.OK))
			tag.Halting = []int64{0}
			expect(t, show(impl.StepTag(tag, long)), "[] 6")
			expect(t, show(impl.RunTag(tag, repeat(0, 1000), 1)), show(repeat(0, 1000), 0, true, impl.OK))
		}
	}
	whole := tagWith(1, repeat(0, 1000))
	expect(t, show(impl.StepTag(whole, []int64{0})), "[] 5")
	expect(t, show(impl.StepTag(tagWith(1, repeat(0, 999)), []int64{0})), show(repeat(0, 999), impl.OK))
	expect(t, show(impl.StepTag(tagWith(1, repeat(0, 999)), []int64{0, 0})), "[] 5")
	expect(t, show(impl.StepTag(whole, nil)), "[] 6")
}

// A word that grows by one letter in each step has 1000 letters behind 999 of them, but the next one has too many before.
func TestPromise10FullBudgets(t *testing.T) {
	grows := tagOf(t, "1:0.0:-")
	last := repeat(0, 999)
	expect(t, show(impl.RunTag(grows, []int64{0}, 998)), show(last, 998, false, impl.OK))
	expect(t, show(impl.TagLengths(grows, []int64{0}, 998)), "1 999 0")
	expect(t, show(impl.TagCycle(grows, []int64{0}, 998)), "0 0 6")
	for _, budget := range []int64{999, 1000, impl.MaxBudget} {
		expect(t, show(impl.RunTag(grows, []int64{0}, budget)), "[] 0 false 5")
		expect(t, show(impl.TagLengths(grows, []int64{0}, budget)), "0 0 5")
		expect(t, show(impl.TagCycle(grows, []int64{0}, budget)), "0 0 5")
	}
	trace, code := impl.TraceTag(grows, repeat(0, 939), 60)
	expect(t, show(len(trace), trace[60], code), show(61, last, impl.OK))
	expect(t, show(impl.TraceTag(grows, repeat(0, 940), 60)), "[] 5")
	trace, code = impl.TraceTag(grows, repeat(0, 940), 59)
	expect(t, show(len(trace), code), "60 0")
}

func TestPromise10TagBudgets(t *testing.T) {
	tag, w := impl.CollatzTag(), repeat(0, 3)
	steps := int64(4 + 6 + 8 + 4 + 2)
	expect(t, show(impl.RunTag(tag, w, impl.MaxBudget)), show([]int64{0}, steps, true, impl.OK))
	expect(t, show(impl.RunTag(tag, w, steps)), show([]int64{0}, steps, true, impl.OK))
	expect(t, show(impl.RunTag(tag, w, steps-1)), show([]int64{1, 2}, steps-1, false, impl.OK))
	expect(t, show(impl.RunTag(tag, w, 1)), "[0 1 2] 1 false 0")
	trace, code := impl.TraceTag(tag, w, steps+5)
	expect(t, show(len(trace), code), show(steps+1, impl.OK))
	endless := tagOf(t, "1:0:-")
	expect(t, show(impl.RunTag(endless, []int64{0}, impl.MaxBudget)), show([]int64{0}, impl.MaxBudget, false, impl.OK))
	expect(t, show(impl.TagLengths(endless, w, impl.MaxBudget)), "3 3 0")
	for _, budget := range []int64{0, -1, impl.MaxBudget + 1, math.MinInt64, math.MaxInt64} {
		for _, w := range [][]int64{nil, {0}, w, repeat(0, 1000)} {
			expect(t, show(impl.RunTag(tag, w, budget)), "[] 0 false 2")
			expect(t, show(impl.TagLengths(tag, w, budget)), "0 0 2")
			expect(t, show(impl.TagCycle(tag, w, budget)), "0 0 2")
			expect(t, show(impl.TagCycle(endless, w, budget)), "0 0 2")
		}
	}
	for n, want := range map[int64]string{-1: "0 2", 0: "1 0", 1: "2 0", 59: "60 0", 60: "61 0", 61: "0 2", math.MinInt64: "0 2", math.MaxInt64: "0 2"} {
		trace, code := impl.TraceTag(endless, w, n)
		expect(t, show(n, len(trace), code), show(n)+" "+want)
	}
	expect(t, show(impl.TraceTag(tagOf(t, "1:0.0:-"), repeat(0, 1000), 61)), "[] 2")
	expect(t, show(impl.TraceTag(tagOf(t, "1:0.0:-"), repeat(0, 1000), -1)), "[] 2")
}

func TestPromise10InvalidTags(t *testing.T) {
	expectNoRun := func(tag impl.Tag, w []int64) {
		t.Helper()
		tagCalls.expectInvalid(t, tag, w)
		for _, budget := range []int64{1, 0, -1, impl.MaxBudget, impl.MaxBudget + 1} {
			expect(t, show(impl.TagLengths(tag, w, budget)), "0 0 1")
			expect(t, show(impl.TagCycle(tag, w, budget)), "0 0 1")
		}
	}
	for _, tag := range badTags() {
		for _, w := range [][]int64{nil, {0}, {0, 0, 1}, {5}, repeat(0, 1000), repeat(0, 1001)} {
			expectNoRun(tag, w)
		}
	}
	for _, w := range badTagWords() {
		for _, tag := range []impl.Tag{tagOf(t, "1:0,1:-"), tagOf(t, "1:-,-:0.1"), tagOf(t, "4:0.0,1:0"), tagWith(2, repeat(0, 1000), nil)} {
			expectNoRun(tag, w)
		}
	}
	// What is a word depends on the number of letters.
	for _, letters := range []int64{1, 2, 199, 200} {
		tag := ladder(letters, 0)
		expect(t, show(impl.StepTag(tag, []int64{0, letters - 1})), show([]int64{letters - 1, min(1, letters-1)}, impl.OK))
		expectNoRun(tag, []int64{0, letters})
		expectNoRun(tag, []int64{letters})
	}
}

func TestPromise10Lengths(t *testing.T) {
	for _, c := range []struct {
		tag    string
		w      []int64
		budget int64
		want   string
	}{
		{"2:1,-:1", []int64{0, 0, 1}, 9, "2 3 0"}, {"1:-:-", []int64{0, 0, 0}, 2, "1 3 0"}, {"1:-:-", []int64{0, 0, 0}, 3, "0 3 0"}, {"1:-:-", []int64{0, 0, 0}, 4, "0 3 0"}, {"1:-:-", nil, 4, "0 0 0"}, {"1:0.0:-", []int64{0}, 1, "1 2 0"},
		{"1:1.1.1,-:-", []int64{0}, 1, "1 3 0"}, {"1:1.1.1,-:-", []int64{0}, 3, "1 3 0"}, {"1:1.1.1,-:-", []int64{0}, 4, "0 3 0"}, {"2:0.0,1.1.1:-", []int64{0, 1}, 50, "2 2 0"}, {"1:0:0", repeat(0, 1000), 50, "1000 1000 0"}, {collatz, repeat(0, 3), 100, "1 8 0"},
	} {
		expect(t, show(c.tag, c.w, c.budget)+" "+show(impl.TagLengths(tagOf(t, c.tag), c.w, c.budget)), show(c.tag, c.w, c.budget)+" "+c.want)
	}
	forSomeTags(105, 1000, 0, func(random *rand.Rand, tag impl.Tag, w []int64) {
		budget := 1 + random.Int63n(150)
		least, greatest := len(w), len(w)
		m := newTagModel(tag, w)
		for range budget {
			if m.step() != impl.OK {
				break
			}
			least, greatest = min(least, len(m.w)), max(greatest, len(m.w))
		}
		expect(t, show(impl.TagLengths(tag, w, budget)), show(least, greatest, impl.OK))
	})
}

// cycleByModel returns what TagCycle should return, by comparing each word with all before it.
func cycleByModel(tag impl.Tag, w []int64, budget int64) (before, length, code int64) {
	m := newTagModel(tag, w)
	words := [][]int64{w}
	for {
		made := int64(len(words)) - 1
		for first, earlier := range words[:made] {
			if slices.Equal(earlier, m.w) {
				return int64(first), made - int64(first), impl.OK
			}
		}
		if m.halts() {
			return 0, 0, impl.ErrNotFound
		}
		if made == budget {
			return 0, 0, impl.ErrState
		}
		if code := m.step(); code != impl.OK {
			return 0, 0, code
		}
		words = append(words, m.config())
	}
}

func TestPromise10CyclesAsByModel(t *testing.T) {
	codes := map[int64]int{}
	check := func(random *rand.Rand, tag impl.Tag, w []int64) {
		for _, budget := range []int64{1 + random.Int63n(12), 150} {
			before, length, code := cycleByModel(tag, w, budget)
			expect(t, show(impl.TagCycle(tag, w, budget)), show(before, length, code))
			codes[code]++
		}
	}
	forSomeTags(107, 1500, 0, check)
	forSomeTags(108, 100, 991, check)
	for _, code := range []int64{impl.OK, impl.ErrNotFound, impl.ErrFull, impl.ErrState} {
		if codes[code] < 50 {
			t.Errorf("only %d runs end with the code %d", codes[code], code)
		}
	}
}

// wordBehind returns the word behind so many steps, which are made without an error.
func wordBehind(t *testing.T, tag impl.Tag, w []int64, steps int64) []int64 {
	t.Helper()
	if steps == 0 {
		return w
	}
	end, made, _, code := impl.RunTag(tag, w, steps)
	if made != steps || code != impl.OK {
		t.Fatalf("only %d of %d steps, and the code %d", made, steps, code)
	}
	return end
}

// expectCycle checks that a word comes again, and neither that before it nor one that is nearer.
func expectCycle(t *testing.T, tag impl.Tag, w []int64, before, length int64) {
	t.Helper()
	first := wordBehind(t, tag, w, before)
	expect(t, show(wordBehind(t, tag, w, before+length)), show(first))
	for nearer := int64(1); nearer < length; nearer++ {
		if length%nearer == 0 && slices.Equal(wordBehind(t, tag, w, before+nearer), first) {
			t.Errorf("%v from %v comes to %v again behind %d steps, not only behind %d", tag, w, first, nearer, length)
		}
	}
	if before > 0 && slices.Equal(wordBehind(t, tag, w, before-1), wordBehind(t, tag, w, before+length-1)) {
		t.Errorf("%v from %v: the word before step %d comes again as well", tag, w, before)
	}
}

func TestPromise10CyclesComeAgain(t *testing.T) {
	t.Parallel()
	found := 0
	forSomeTags(109, 1000, 3, func(_ *rand.Rand, tag impl.Tag, w []int64) {
		before, length, code := impl.TagCycle(tag, w, 2000)
		if code != impl.OK {
			return
		}
		found++
		expectCycle(t, tag, w, before, length)
		// With a word of the cycle, it begins at once, and has the same length.
		expect(t, show(impl.TagCycle(tag, wordBehind(t, tag, w, before), length)), show(0, length, impl.OK))
		expect(t, show(impl.TagCycle(tag, w, before+length)), show(before, length, impl.OK))
		if before+length > 1 {
			expect(t, show(impl.TagCycle(tag, w, before+length-1)), "0 0 6")
		}
	})
	if found < 50 {
		t.Errorf("only %d cycles are found", found)
	}
}

func TestPromise10SomeCycles(t *testing.T) {
	for _, c := range []struct {
		tag    string
		w      []int64
		budget int64
		want   string
	}{
		{"1:0:-", []int64{0}, 1, "0 1 0"}, {"1:0:-", repeat(0, 999), 1, "0 1 0"}, {"1:0:-", repeat(0, 1000), 1, "0 0 5"}, {"1:0:-", nil, 1, "0 0 3"}, {"1:1,0:-", []int64{0}, 2, "0 2 0"}, {"1:1,0:-", []int64{0}, 1, "0 0 6"}, {"1:1,1:-", []int64{0}, 2, "1 1 0"}, {"1:1,1:-", []int64{0}, 1, "0 0 6"},
		{"1:1,1:-", []int64{0, 0, 0}, 4, "3 1 0"}, {"1:1,1:-", []int64{0, 0, 0}, 3, "0 0 6"}, {"1:0,1:-", []int64{0, 1}, 2, "0 2 0"}, {"1:0,1:-", []int64{0, 1, 0, 1}, 9, "0 2 0"}, {"1:0,1:-", []int64{0, 0, 0, 1}, 9, "0 4 0"}, {"1:0,1:-", []int64{1, 1, 1, 1}, 9, "0 1 0"},
		{"2:0.0,-:-", []int64{0, 1}, 9, "1 1 0"}, {"2:0.0,-:-", []int64{0, 0}, 1, "0 1 0"}, {"2:0.0,-:-", []int64{1, 0}, 9, "0 0 3"}, {"2:0.0,-:-", []int64{1, 0}, 1, "0 0 3"}, {"4:0.1.0.1,1:-", []int64{0, 1, 1, 1}, 9, "1 1 0"},
		// The word at which the system halts may be the last one of the budget, but not one behind it.
		{"2:1,-:1", []int64{0, 0, 1}, 1, "0 0 3"}, {"1:1,2,0:2", []int64{0}, 2, "0 0 3"}, {"1:1,2,0:2", []int64{0}, 1, "0 0 6"}, {"1:1,2,0:0", []int64{0}, 1, "0 0 3"}, {"1:-:-", []int64{0, 0, 0}, 3, "0 0 3"}, {"1:-:-", []int64{0, 0, 0}, 2, "0 0 6"},
		{"1:0.0:-", []int64{0}, 20, "0 0 6"}, {"1:0.0:-", repeat(0, 998), 1, "0 0 6"}, {"1:0.0:-", repeat(0, 998), 2, "0 0 5"}, {"1:0.0:-", repeat(0, 999), 1, "0 0 5"}, {"1:0.0:0", repeat(0, 1000), 1, "0 0 3"}, {collatz, repeat(0, 3), 24, "0 0 3"}, {collatz, repeat(0, 3), 23, "0 0 6"}, {collatz, repeat(0, 1000), 9, "0 0 5"},
	} {
		what := show(c.tag, len(c.w), c.budget) + " "
		expect(t, what+show(impl.TagCycle(tagOf(t, c.tag), c.w, c.budget)), what+c.want)
	}
}

// A ladder takes each letter of a word one step further while it turns the word once.
func TestPromise10LongCycles(t *testing.T) {
	t.Parallel()
	for _, c := range []struct {
		letters, back, many int64
		before, length      int64
	}{
		{200, 0, 1, 0, 200}, {200, 199, 1, 199, 1}, {200, 100, 1, 100, 100}, {3, 1, 7, 7, 14}, {200, 0, 100, 0, 20000}, {200, 99, 100, 9900, 10100}, {20, 0, 999, 0, 19980}, {20, 19, 999, 18981, 999}, {200, 199, 100, 19900, 100},
	} {
		tag, w := ladder(c.letters, c.back), repeat(0, int(c.many))
		before, length, total := c.before, c.length, c.before+c.length
		if c.back == c.letters-1 {
			// At the end all letters are the last one, and the word stays as it is.
			length, total = 1, before+1
		}
		expect(t, show(c, show(impl.TagCycle(tag, w, impl.MaxBudget))), show(c, show(before, length, impl.OK)))
		expect(t, show(c, show(impl.TagCycle(tag, w, total))), show(c, show(before, length, impl.OK)))
		if total > 1 {
			expect(t, show(c, show(impl.TagCycle(tag, w, total-1))), show(c, "0 0 6"))
		}
	}
	// This cycle has 20001 steps.
	expect(t, show(impl.TagCycle(ladder(177, 0), repeat(0, 113), impl.MaxBudget)), "0 0 6")
	expect(t, show(impl.TagCycle(ladder(177, 0), repeat(0, 112), impl.MaxBudget)), show(0, 177*112, impl.OK))
	// Words that differ only in letters of several digits are different.
	expect(t, show(impl.TagCycle(ladder(200, 0), []int64{1, 12}, impl.MaxBudget)), "0 400 0")
	expect(t, show(impl.TagCycle(ladder(199, 0), []int64{11, 111}, impl.MaxBudget)), "0 199 0")
}

// collatzAfter returns the numbers from n on that follow each other up to 1, the steps of the tag system for them, and
// whether all words are short enough.
func collatzAfter(n int64) (numbers []int64, steps int64, short bool) {
	numbers, short = []int64{n}, true
	for n != 1 {
		// The first letter of a pair tells the word, and both are put behind the others before one pair is removed.
		short = short && n+2 <= mostTagLetters
		if n%2 == 0 {
			steps, n = steps+n, n/2
		} else {
			steps, n = steps+n+1, (3*n+1)/2
		}
		numbers = append(numbers, n)
	}
	return numbers, steps, short
}

func TestPromise10CollatzNumbersFollow(t *testing.T) {
	t.Parallel()
	found := 0
	for n := int64(1); n <= 1000; n += 1 + n/60 {
		numbers, steps, short := collatzAfter(n)
		if !short || steps > impl.MaxBudget {
			expect(t, show(n, show(impl.CollatzNumbers(n, impl.MaxBudget))), show(n, "[] 5"))
			continue
		}
		found++
		for _, budget := range []int64{steps, steps + 1, impl.MaxBudget} {
			if budget >= 1 && budget <= impl.MaxBudget {
				expect(t, show(n, show(impl.CollatzNumbers(n, budget))), show(n, show(numbers, impl.OK)))
			}
		}
		for _, budget := range []int64{steps - 1, steps / 2, 1} {
			if budget >= 1 && budget < steps {
				expect(t, show(n, show(impl.CollatzNumbers(n, budget))), show(n, "[] 5"))
			}
		}
		expect(t, show(impl.RunTag(impl.CollatzTag(), repeat(0, int(n)), impl.MaxBudget)), show([]int64{0}, steps, true, impl.OK))
	}
	if found < 90 {
		t.Errorf("only %d numbers are followed up to 1", found)
	}
}

// The lengths are those of all words in the run that have no other letter than 0.
func TestPromise10CollatzNumbersAsByModel(t *testing.T) {
	for n := range 60 {
		m := newTagModel(impl.CollatzTag(), repeat(0, n+1))
		want, code := []int64{}, int64(impl.OK)
		for {
			if !slices.ContainsFunc(m.w, func(letter int64) bool { return letter != 0 }) {
				want = append(want, int64(len(m.w)))
			}
			if len(m.w) == 1 {
				break
			}
			if code = m.step(); code != impl.OK {
				want = nil
				break
			}
		}
		expect(t, show(n, show(impl.CollatzNumbers(int64(n+1), impl.MaxBudget))), show(n, show(want, code)))
	}
}

func TestPromise10SomeCollatzNumbers(t *testing.T) {
	for _, c := range []struct {
		n, budget int64
		want      string
	}{
		{1, 1, "[1] 0"}, {1, impl.MaxBudget, "[1] 0"}, {2, 2, "[2 1] 0"}, {2, 1, "[] 5"}, {3, 24, "[3 5 8 4 2 1] 0"}, {3, 23, "[] 5"}, {4, 6, "[4 2 1] 0"}, {7, 1000, "[7 11 17 26 13 20 10 5 8 4 2 1] 0"}, {512, 1022, "[512 256 128 64 32 16 8 4 2 1] 0"}, {512, 1021, "[] 5"},
		{27, 2000, "[] 5"}, {27, impl.MaxBudget, "[] 5"}, {749, impl.MaxBudget, "[] 5"}, {998, impl.MaxBudget, "[] 5"}, {999, impl.MaxBudget, "[] 5"}, {1000, impl.MaxBudget, "[] 5"}, {1000, 1, "[] 5"},
		{0, 10, "[] 2"}, {-1, 10, "[] 2"}, {1001, 10, "[] 2"}, {math.MinInt64, 10, "[] 2"}, {math.MaxInt64, 10, "[] 2"}, {1, 0, "[] 2"}, {1, -1, "[] 2"}, {1, impl.MaxBudget + 1, "[] 2"}, {3, math.MinInt64, "[] 2"}, {3, math.MaxInt64, "[] 2"}, {1000, 0, "[] 2"}, {1001, 0, "[] 2"},
	} {
		expect(t, show(c.n, c.budget, show(impl.CollatzNumbers(c.n, c.budget))), show(c.n, c.budget, c.want))
	}
	tag := impl.CollatzTag()
	expect(t, show(impl.StepTag(tag, repeat(0, 998))), show(append(repeat(0, 996), 1, 2), impl.OK))
	expect(t, show(impl.StepTag(tag, repeat(0, 999))), "[] 5")
}
