package tests

import (
	"fmt"
	"math"
	"math/big"
	"math/rand"
	"slices"
	"testing"

	"loop.example/g00076/impl"
)

// tightTables have these costs, this shape and these channels, the pad just WorstPad, and one slot in which one step can begin.
func tightTables(c impl.Costs, s impl.Shape, chans []impl.ChanRow) impl.Tables {
	x := partsOf(6)
	x.Costs, x.Shape, x.Chans = c, s, chans
	x.Pad, x.Guard = worstPadByHand(c, s, chans), worstStepByHand(c)
	x.Major = x.Pad + x.Guard + 1
	x.Slots = []impl.Slot{{Part: 3, Len: x.Major}}
	return x
}

// withPad has another pad, and a slot that has room for it.
func withPad(x impl.Tables, pad int) impl.Tables {
	x.Pad, x.Major = pad, pad+x.Guard+1
	x.Slots = []impl.Slot{{Part: 3, Len: x.Major}}
	return x
}

// chanLists have none, one of each depth, some together, and as many as there may be.
func chanLists() [][]impl.ChanRow {
	list := [][]impl.ChanRow{nil, {}, rowsOfEachDepth()[:8], rowsOfEachDepth()[1:]}
	for _, r := range rowsOfEachDepth() {
		list = append(list, []impl.ChanRow{r}, []impl.ChanRow{r, sampleRow()}, []impl.ChanRow{queueRow(5), r, r}, slices.Repeat([]impl.ChanRow{r}, 8))
	}
	return list
}

func carriesByHand(chans []impl.ChanRow) int {
	words := 0
	for _, r := range chans {
		words += map[int]int{0: 1, 1: r.Depth}[r.Kind]
	}
	return words
}

func dirtyByHand(c impl.Cache) int {
	count := 0
	for _, row := range c.Rows {
		for _, w := range row {
			if w.Dirty {
				count++
			}
		}
	}
	return count
}

// workByHand is for arguments that are right; it takes the cycles of the pad one behind the other.
func workByHand(x impl.Tables, c impl.Cache, moved int) impl.Work {
	w := impl.Work{Rest: x.Pad}
	for range dirtyByHand(c) {
		w.Flush, w.Rest = w.Flush+x.Costs.Line, w.Rest-x.Costs.Line
	}
	for range 16 {
		w.Scrub, w.Rest = w.Scrub+x.Costs.Base, w.Rest-x.Costs.Base
	}
	for range moved {
		w.Carry, w.Rest = w.Carry+x.Costs.Base, w.Rest-x.Costs.Base
	}
	return w
}

func wantWork(t *testing.T, x impl.Tables, c impl.Cache, moved int, want impl.Work) {
	t.Helper()
	if got := impl.SwitchWork(x, c, moved); got != want {
		t.Errorf("SwitchWork(%+v, %+v, %d) = %+v, not %+v", x, c, moved, got, want)
	}
}

// wantSwitch holds the work of a right switch against the model, and against promise 16.
func wantSwitch(t *testing.T, x impl.Tables, c impl.Cache, moved int) {
	t.Helper()
	wantWork(t, x, c, moved, workByHand(x, c, moved))
	wantPadded(t, x, impl.SwitchWork(x, c, moved))
}

func wantPadded(t *testing.T, x impl.Tables, w impl.Work) {
	t.Helper()
	if sum := impl.WorkSum(w); sum != x.Pad || min(w.Flush, w.Scrub, w.Carry, w.Rest) < 0 {
		t.Errorf("%+v comes to %d, with a pad of %d", w, sum, x.Pad)
	}
}

func wantNoWork(t *testing.T, what string, x impl.Tables, c impl.Cache, moved int) {
	t.Helper()
	if got := impl.SwitchWork(x, c, moved); got != (impl.Work{}) {
		t.Errorf("%s: SwitchWork(%+v, %+v, %d) = %+v", what, x, c, moved, got)
	}
}

func wantSum(t *testing.T, w impl.Work, want int) {
	t.Helper()
	if got := impl.WorkSum(w); got != want {
		t.Errorf("WorkSum(%+v) = %d, not %d", w, got, want)
	}
}

func wantCarriesAndSpare(t *testing.T, x impl.Tables, carries int, spare int) {
	t.Helper()
	if got := [2]int{impl.Carries(x), impl.Spare(x)}; got != [2]int{carries, spare} {
		t.Errorf("Carries and Spare are %v, not %d and %d, of %+v", got, carries, spare, x)
	}
}

// cachesOf are all of one shape: empty, full, with one way, and drawn ones.
func cachesOf(chance *rand.Rand, s impl.Shape) []impl.Cache {
	list := []impl.Cache{impl.CacheEmpty(s), fullCache(s, false), fullCache(s, true)}
	list = append(list, cacheWith(s, 0, dirty(0)), cacheWith(s, s.Sets-1, dirty(impl.MaxAddr)), cacheWith(s, s.Sets/2, clean(3)))
	for range 3 {
		list = append(list, drawnCache(chance, s))
	}
	return list
}

// wrongMoves are beside what the channels can carry, and far from it; some would come back into it in a narrower number.
func wrongMoves(most int) []int {
	list := []int{-1, -2, -most, -most - 1, most + 1, most + 2, 2*most + 1, 1<<16 + most, 1<<32 + most, -1<<32 + most, 1 << 60, 1 << 63 / 20, math.MinInt + most, math.MaxInt - most}
	list = append(list, oddInts()...)
	return slices.DeleteFunc(list, func(n int) bool { return isBetween(n, 0, most) })
}

func TestSwitchWorkByNumbers(t *testing.T) {
	x := rightTables()
	s := x.Shape
	wantWork(t, x, impl.CacheEmpty(s), 0, impl.Work{Scrub: 16, Rest: 44})
	wantWork(t, x, impl.CacheEmpty(s), 1, impl.Work{Scrub: 16, Carry: 1, Rest: 43})
	wantWork(t, x, impl.CacheEmpty(s), 4, impl.Work{Scrub: 16, Carry: 4, Rest: 40})
	wantWork(t, x, cacheWith(s, 0, dirty(9)), 0, impl.Work{Flush: 7, Scrub: 16, Rest: 37})
	wantWork(t, x, cacheWith(s, 1, clean(1), dirty(9)), 2, impl.Work{Flush: 7, Scrub: 16, Carry: 2, Rest: 35})
	wantWork(t, x, cacheWith(s, 1, dirty(1), dirty(9)), 2, impl.Work{Flush: 14, Scrub: 16, Carry: 2, Rest: 28})
	wantWork(t, x, impl.Cache{Shape: s, Rows: [][]impl.Way{{dirty(0), clean(1)}, {clean(0), dirty(1)}}}, 3, impl.Work{Flush: 14, Scrub: 16, Carry: 3, Rest: 27})
	wantWork(t, x, fullCache(s, false), 0, impl.Work{Scrub: 16, Rest: 44})
	wantWork(t, x, fullCache(s, true), 0, impl.Work{Flush: 28, Scrub: 16, Rest: 16})
	wantWork(t, x, fullCache(s, true), 4, impl.Work{Flush: 28, Scrub: 16, Carry: 4, Rest: 12})
	wantWork(t, x, fullCache(s, true), 5, impl.Work{})
	wantWork(t, leastTables(), impl.CacheEmpty(leastTables().Shape), 0, impl.Work{Scrub: 16})
	wantWork(t, leastTables(), fullCache(leastTables().Shape, true), 0, impl.Work{Scrub: 16})
	wantWork(t, leastTables(), impl.CacheEmpty(leastTables().Shape), 1, impl.Work{})
	wantWork(t, frameTables(), fullCache(frameTables().Shape, true), 0, impl.Work{Scrub: 16, Rest: 984})
	wantWork(t, mostTables(), impl.CacheEmpty(mostTables().Shape), 0, impl.Work{Scrub: 16, Rest: 128})
	wantWork(t, mostTables(), fullCache(mostTables().Shape, true), 64, impl.Work{Flush: 64, Scrub: 16, Carry: 64})
	wantWork(t, mostTables(), fullCache(mostTables().Shape, true), 63, impl.Work{Flush: 64, Scrub: 16, Carry: 63, Rest: 1})
	wantWork(t, mostTables(), fullCache(mostTables().Shape, true), 65, impl.Work{})
}

// The greatest costs, cache and channels that sound tables can have at once.
func TestTheGreatestSwitch(t *testing.T) {
	s := impl.Shape{Sets: 16, Ways: 4, Line: 4}
	x := tightTables(impl.Costs{Base: 20, Line: 50}, s, slices.Repeat([]impl.ChanRow{queueRow(8)}, 8))
	wantSound(t, "the greatest", x, true)
	wantWork(t, x, fullCache(s, true), 64, impl.Work{Flush: 3200, Scrub: 320, Carry: 1280})
	wantWork(t, x, fullCache(s, false), 64, impl.Work{Scrub: 320, Carry: 1280, Rest: 3200})
	wantWork(t, x, fullCache(s, true), 0, impl.Work{Flush: 3200, Scrub: 320, Rest: 1280})
	wantCarriesAndSpare(t, x, 64, 0)
}

// A line of memory has as many bytes as the shape says, but what it costs to write back is told by the costs alone.
func TestFlushGoesByCosts(t *testing.T) {
	for _, line := range []int{4, 8, 16, 32} {
		for _, cost := range []int{0, 1, 3, 4, 32, 50} {
			s := impl.Shape{Sets: 2, Ways: 3, Line: line}
			x := tightTables(impl.Costs{Base: 2, Line: cost}, s, nil)
			wantWork(t, x, fullCache(s, true), 0, impl.Work{Flush: 6 * cost, Scrub: 32})
			wantWork(t, x, cacheWith(s, 1, clean(4), clean(5), dirty(6)), 0, impl.Work{Flush: cost, Scrub: 32, Rest: 5 * cost})
		}
	}
}

// Each place of each row dirty alone, and clean alone among dirty ones.
func TestEachDirtyWayCounts(t *testing.T) {
	for _, s := range rightShapes() {
		x := tightTables(impl.Costs{Base: 3, Line: 11}, s, []impl.ChanRow{sampleRow(), queueRow(2)})
		for at := range s.Sets {
			for n := range s.Ways {
				one, others := fullCache(s, false), fullCache(s, true)
				one.Rows[at][n].Dirty, others.Rows[at][n].Dirty = true, false
				wantWork(t, x, one, 1, impl.Work{Flush: 11, Scrub: 48, Carry: 3, Rest: 11*(s.Sets*s.Ways-1) + 6})
				wantWork(t, x, others, 2, impl.Work{Flush: 11 * (s.Sets*s.Ways - 1), Scrub: 48, Carry: 6, Rest: 11 + 3})
			}
		}
	}
}

// Lines that are written one behind the other: each one more is dirty, until all ways are.
func TestSwitchesBehindWrites(t *testing.T) {
	for _, s := range rightShapes() {
		x := tightTables(impl.Costs{Base: 1, Line: 5}, s, nil)
		c := impl.CacheEmpty(s)
		for n := range s.Sets*s.Ways + 5 {
			count := min(n, s.Sets*s.Ways)
			wantWork(t, x, c, 0, impl.Work{Flush: 5 * count, Scrub: 16, Rest: 5 * (s.Sets*s.Ways - count)})
			c, _, _ = impl.CacheUse(c, n*s.Line, true)
		}
		flushed, _ := impl.CacheFlush(c)
		wantWork(t, x, flushed, 0, impl.Work{Scrub: 16, Rest: 5 * s.Sets * s.Ways})
	}
}

func TestEachWordThatCrosses(t *testing.T) {
	s := impl.Shape{Sets: 2, Ways: 1, Line: 8}
	for _, chans := range chanLists() {
		most := carriesByHand(chans)
		x := tightTables(impl.Costs{Base: 4, Line: 9}, s, chans)
		for moved := range most + 1 {
			wantWork(t, x, fullCache(s, true), moved, impl.Work{Flush: 18, Scrub: 64, Carry: 4 * moved, Rest: 4 * (most - moved)})
			wantSwitch(t, x, impl.CacheEmpty(s), moved)
		}
		for _, moved := range wrongMoves(most) {
			wantNoWork(t, "words that cannot cross", x, fullCache(s, true), moved)
			wantNoWork(t, "words that cannot cross", x, impl.CacheEmpty(s), moved)
			wantNoWork(t, "words that cannot cross", withPad(x, 3000), impl.CacheEmpty(s), moved)
		}
	}
}

// Where the pad just does, nothing rests of the worst switch; where it is longer, just what it is longer by.
func TestWhatRestsOfTheWorstSwitch(t *testing.T) {
	for _, s := range rightShapes() {
		for _, chans := range chanLists()[:9] {
			for _, c := range []impl.Costs{{Base: 1}, {Base: 20, Line: 50}, {Base: 7, Line: 3}, {Base: 1, Mul: 50, Mem: 40, Miss: 30, Walk: 20, Trap: 10, Line: 1}} {
				tight, most := tightTables(c, s, chans), carriesByHand(chans)
				for _, more := range []int{0, 1, 2, 79} {
					x := withPad(tight, tight.Pad+more)
					work := impl.SwitchWork(x, fullCache(s, true), most)
					wantNumber(t, "what rests", work.Rest, more)
					wantPadded(t, x, work)
					wantCarriesAndSpare(t, x, most, more)
				}
				short := withPad(tight, tight.Pad-1)
				wantNoWork(t, "a pad that does not do", short, fullCache(s, true), most)
				wantNoWork(t, "a pad that does not do", short, impl.CacheEmpty(s), 0)
				wantCarriesAndSpare(t, short, -1, -1)
			}
		}
	}
}

func TestCachesOfAnotherShape(t *testing.T) {
	for _, own := range rightShapes() {
		x := frameTables()
		x.Shape, x.Costs.Line = own, 1
		for _, other := range rightShapes() {
			for _, c := range []impl.Cache{impl.CacheEmpty(other), fullCache(other, true), cacheWith(other, 0, dirty(1))} {
				if own == other {
					wantSwitch(t, x, c, 0)
				} else {
					wantNoWork(t, "another shape", x, c, 0)
				}
			}
		}
	}
}

// Each cache is right, and its rows would do for the tables' shape; only one number of its shape is another.
func TestCachesOfAnotherShapeInOneNumber(t *testing.T) {
	x := rightTables()
	same := impl.Cache{Shape: x.Shape, Rows: [][]impl.Way{{dirty(1)}, {dirty(2), clean(3)}}}
	wantWork(t, x, same, 1, impl.Work{Flush: 14, Scrub: 16, Carry: 1, Rest: 29})
	for what, c := range map[string]impl.Cache{
		"fewer sets":   {Shape: impl.Shape{Sets: 1, Ways: 2, Line: 8}, Rows: same.Rows[1:]},
		"more sets":    {Shape: impl.Shape{Sets: 4, Ways: 2, Line: 8}, Rows: append(slices.Clone(same.Rows), nil, nil)},
		"fewer ways":   {Shape: impl.Shape{Sets: 2, Ways: 1, Line: 8}, Rows: [][]impl.Way{{dirty(1)}, {dirty(2)}}},
		"more ways":    {Shape: impl.Shape{Sets: 2, Ways: 3, Line: 8}, Rows: same.Rows},
		"a short line": {Shape: impl.Shape{Sets: 2, Ways: 2, Line: 4}, Rows: same.Rows},
		"a long line":  {Shape: impl.Shape{Sets: 2, Ways: 2, Line: 16}, Rows: same.Rows},
	} {
		if !impl.CacheOk(c) {
			t.Error(what, "is not CacheOk")
		}
		for _, moved := range []int{-1, 0, 1, 4, 5} {
			wantNoWork(t, what, x, c, moved)
		}
	}
}

// The tables have the wrong cache's own shape wherever that is a right one.
func TestSwitchesOfCachesThatAreWrong(t *testing.T) {
	own := 0
	for what, c := range wrongCaches() {
		for _, x := range []impl.Tables{rightTables(), frameTables(), mostTables()} {
			wantNoWork(t, what, x, c, 0)
			wantNoWork(t, what, x, c, 1)
			if slices.Contains(rightShapes(), c.Shape) {
				own++
				wantNoWork(t, what, changed(frameTables, func(x *impl.Tables) { x.Shape = c.Shape }), c, 0)
			}
		}
	}
	if own < 30 {
		t.Error("too few were wrong in their rows alone:", own)
	}
}

func TestSwitchesOfTablesThatAreNotSound(t *testing.T) {
	chance := rand.New(rand.NewSource(61))
	for what, x := range wrongTables() {
		wantCarriesAndSpare(t, x, -1, -1)
		caches := cachesOf(chance, rightTables().Shape)
		if slices.Contains(rightShapes(), x.Shape) {
			caches = append(caches, cachesOf(chance, x.Shape)...)
		}
		caches = append(caches, impl.Cache{}, impl.Cache{Shape: x.Shape}, impl.Cache{Shape: x.Shape, Rows: make([][]impl.Way, x.Shape.Sets)})
		for _, c := range caches {
			for _, moved := range []int{-1, 0, 1, 4, 5, 64, math.MinInt, math.MaxInt} {
				wantNoWork(t, what, x, c, moved)
			}
		}
	}
}

func TestSwitchesOfDisturbedTables(t *testing.T) {
	chance := rand.New(rand.NewSource(62))
	sound, wrong := 0, 0
	for range 1500 {
		x := drawnTables(chance)
		c := drawnCache(chance, x.Shape)
		disturb(chance, &x)
		if !soundByHand(x) {
			wrong++
			wantNoWork(t, "disturbed", x, c, 0)
			wantCarriesAndSpare(t, x, -1, -1)
			continue
		}
		sound++
		most := carriesByHand(x.Chans)
		wantCarriesAndSpare(t, x, most, x.Pad-worstPadByHand(x.Costs, x.Shape, x.Chans))
		wantSwitch(t, x, impl.CacheEmpty(x.Shape), most)
		if c.Shape == x.Shape {
			wantSwitch(t, x, c, most)
		} else {
			wantNoWork(t, "a shape that was", x, c, most)
		}
	}
	if sound < 200 || wrong < 200 {
		t.Error("too few of one kind:", sound, wrong)
	}
}

func TestWorkSumByNumbers(t *testing.T) {
	wantSum(t, impl.Work{}, 0)
	wantSum(t, impl.Work{Flush: 1}, 1)
	wantSum(t, impl.Work{Scrub: 1}, 1)
	wantSum(t, impl.Work{Carry: 1}, 1)
	wantSum(t, impl.Work{Rest: 1}, 1)
	wantSum(t, impl.Work{Flush: 1000, Scrub: 200, Carry: 30, Rest: 4}, 1234)
	wantSum(t, impl.Work{Flush: -1000, Scrub: 200, Carry: -30, Rest: 4}, -826)
	wantSum(t, impl.Work{Flush: -1, Scrub: -2, Carry: -4, Rest: -8}, -15)
	wantSum(t, impl.Work{Flush: 1 << 40, Scrub: 1 << 41, Carry: 1 << 42, Rest: 1 << 43}, 15<<40)
	wantSum(t, impl.Work{Flush: math.MaxInt, Rest: math.MinInt}, -1)
	wantSum(t, impl.Work{Scrub: math.MaxInt}, math.MaxInt)
	wantSum(t, impl.Work{Carry: math.MinInt}, math.MinInt)
}

func TestWorkSumsThatWrap(t *testing.T) {
	wantSum(t, impl.Work{Flush: math.MaxInt, Scrub: 1}, math.MinInt)
	wantSum(t, impl.Work{Carry: 1, Rest: math.MaxInt}, math.MinInt)
	wantSum(t, impl.Work{Flush: math.MinInt, Rest: -1}, math.MaxInt)
	wantSum(t, impl.Work{Flush: math.MaxInt, Scrub: math.MaxInt}, -2)
	wantSum(t, impl.Work{Flush: math.MinInt, Carry: math.MinInt}, 0)
	wantSum(t, impl.Work{Flush: math.MaxInt, Scrub: math.MaxInt, Carry: math.MaxInt, Rest: math.MaxInt}, -4)
	wantSum(t, impl.Work{Flush: math.MinInt, Scrub: math.MinInt, Carry: math.MinInt, Rest: math.MinInt}, 0)
	wantSum(t, impl.Work{Flush: math.MaxInt, Scrub: 1, Carry: math.MinInt}, 0)
	wantSum(t, impl.Work{Flush: 1 << 62, Scrub: 1 << 62, Carry: 1 << 62, Rest: 1 << 62}, 0)
	numbers := append(oddInts(), -1, 0, 1, 45, 5000)
	chance := rand.New(rand.NewSource(63))
	for range 5000 {
		draw := func() int { return numbers[chance.Intn(len(numbers))] + chance.Intn(2)*int(chance.Uint64()) }
		w := impl.Work{Flush: draw(), Scrub: draw(), Carry: draw(), Rest: draw()}
		wantSum(t, w, sumByHand(w.Flush, w.Scrub, w.Carry, w.Rest))
	}
}

// sumByHand has room for the whole sum, and takes its lowest 64 bits in two's complement.
func sumByHand(numbers ...int) int {
	sum := new(big.Int)
	for _, n := range numbers {
		sum.Add(sum, big.NewInt(int64(n)))
	}
	half := new(big.Int).Lsh(big.NewInt(1), 63)
	whole := new(big.Int).Lsh(big.NewInt(1), 64)
	sum.Add(sum, half).Mod(sum, whole).Sub(sum, half)
	return int(sum.Int64())
}

func TestWorkSumOfSwitches(t *testing.T) {
	x := rightTables()
	for _, moved := range []int{0, 1, 4} {
		for _, c := range cachesOf(rand.New(rand.NewSource(64)), x.Shape) {
			wantSum(t, impl.SwitchWork(x, c, moved), 60)
		}
	}
	for _, moved := range wrongMoves(4) {
		wantSum(t, impl.SwitchWork(x, impl.CacheEmpty(x.Shape), moved), 0)
	}
	wantSum(t, impl.SwitchWork(x, impl.CacheEmpty(impl.Shape{Sets: 2, Ways: 2, Line: 4}), 0), 0)
	wantSum(t, impl.SwitchWork(impl.Tables{}, impl.Cache{}, 0), 0)
}

func TestCarriesAndSpareByNumbers(t *testing.T) {
	wantCarriesAndSpare(t, rightTables(), 4, 12)
	wantCarriesAndSpare(t, leastTables(), 0, 0)
	wantCarriesAndSpare(t, mostTables(), 64, 0)
	wantCarriesAndSpare(t, frameTables(), 0, 984)
	wantCarriesAndSpare(t, changed(frameTables, func(x *impl.Tables) { x.Pad, x.Guard = 4998, 1 }), 0, 4982)
	wantCarriesAndSpare(t, changed(rightTables, func(x *impl.Tables) { x.Chans = nil }), 0, 16)
	wantCarriesAndSpare(t, changed(rightTables, func(x *impl.Tables) { x.Chans = x.Chans[:1] }), 1, 15)
	wantCarriesAndSpare(t, changed(rightTables, func(x *impl.Tables) { x.Chans = x.Chans[1:] }), 3, 13)
	wantCarriesAndSpare(t, changed(rightTables, func(x *impl.Tables) { x.Pad = 48 }), 4, 0)
	wantCarriesAndSpare(t, changed(rightTables, func(x *impl.Tables) { x.Pad = 49 }), 4, 1)
	wantCarriesAndSpare(t, changed(rightTables, func(x *impl.Tables) { x.Pad = 47 }), -1, -1)
	wantCarriesAndSpare(t, changed(rightTables, func(x *impl.Tables) { x.Guard = 44 }), -1, -1)
	wantCarriesAndSpare(t, changed(mostTables, func(x *impl.Tables) { x.Chans[7].Depth = 7 }), 63, 1)
	wantCarriesAndSpare(t, changed(mostTables, func(x *impl.Tables) { x.Chans = append(x.Chans, x.Chans[0]) }), -1, -1)
	wantCarriesAndSpare(t, impl.Tables{}, -1, -1)
}

func TestCarriesAndSpareByCountOfChannels(t *testing.T) {
	for _, r := range rowsOfEachDepth() {
		for _, count := range []int{0, 1, 2, 7, 8, 9, 10, 256, 264} {
			x := tightTables(impl.Costs{Base: 2}, impl.Shape{Sets: 1, Ways: 1, Line: 4}, slices.Repeat([]impl.ChanRow{r}, count))
			if count > 8 {
				wantCarriesAndSpare(t, x, -1, -1)
				continue
			}
			wantCarriesAndSpare(t, x, count*max(r.Depth, 1), 0)
			wantCarriesAndSpare(t, withPad(x, x.Pad+31), count*max(r.Depth, 1), 31)
		}
	}
}

// What Carries tells is what crosses at one border when every channel is sent as many words as it has room for.
func TestCarriesIsWhatCanCross(t *testing.T) {
	for _, x := range promiseTables(65, 200) {
		crossed := 0
		for _, r := range x.Chans {
			out, code := impl.OutEnd{}, impl.ChanDone
			for n := 0; n < 20 && code == impl.ChanDone; n++ {
				out, code = impl.SendOn(r, out, uint32(n))
			}
			_, _, words := impl.Border(r, impl.OutEnd{Sent: slices.Clone(out.Sent)}, impl.InEnd{})
			crossed += len(words)
		}
		wantNumber(t, "what can cross", crossed, impl.Carries(x))
		wantNumber(t, "what crosses by hand", crossed, carriesByHand(x.Chans))
		wantSwitch(t, x, impl.CacheEmpty(x.Shape), crossed)
		wantNoWork(t, "one more", x, impl.CacheEmpty(x.Shape), crossed+1)
	}
}

// Promise 16: every switch takes Pad cycles, whatever was dirty and whatever crosses.
func TestEverySwitchTakesThePad(t *testing.T) {
	chance := rand.New(rand.NewSource(66))
	rests := map[bool]int{}
	for _, x := range promiseTables(67, 300) {
		most := impl.Carries(x)
		for _, c := range cachesOf(chance, x.Shape) {
			for _, moved := range []int{0, most / 2, chance.Intn(most + 1), most} {
				wantSwitch(t, x, c, moved)
			}
		}
		worst := impl.SwitchWork(x, fullCache(x.Shape, true), most)
		wantNumber(t, "what rests of the worst switch", worst.Rest, impl.Spare(x))
		rests[worst.Rest == 0]++
	}
	if rests[true] < 50 || rests[false] < 50 {
		t.Error("too few pads of one kind:", rests)
	}
}

// Promise 16, for caches as uses leave them: two switches of one system take the same, whatever was used ahead of each.
func TestSwitchesBehindUsesTakeThePad(t *testing.T) {
	chance := rand.New(rand.NewSource(68))
	flushes := map[bool]int{}
	for _, x := range promiseTables(69, 60) {
		c := impl.CacheEmpty(x.Shape)
		for _, use := range drawnUses(chance, x.Shape, 60) {
			c, _, _ = impl.CacheUse(c, use.Addr, use.Write)
			moved := chance.Intn(impl.Carries(x) + 1)
			wantSwitch(t, x, c, moved)
			flushes[impl.SwitchWork(x, c, moved).Flush > 0]++
		}
	}
	if flushes[true] < 200 || flushes[false] < 200 {
		t.Error("too few switches of one kind:", flushes)
	}
}

// askedOfSwitches is all that the chapter tells of these tables and caches, as a text.
func askedOfSwitches(x impl.Tables, caches []impl.Cache) string {
	text := fmt.Sprintln(impl.Carries(x), impl.Spare(x))
	for _, c := range caches {
		for _, moved := range []int{-1, 0, 1, 4, 64, 65, math.MinInt, math.MaxInt} {
			work := impl.SwitchWork(x, c, moved)
			text += fmt.Sprintln(work, impl.WorkSum(work))
		}
	}
	return text
}

// roomyCaches are each at the front of greater memory; the function tells all that this has as a text.
func roomyCaches(caches []impl.Cache) ([]impl.Cache, func() string) {
	given, memory := []impl.Cache{}, []any{}
	for _, c := range caches {
		one, ways, rows := roomy(c)
		given, memory = append(given, one), append(memory, one, ways, rows)
	}
	return given, func() string { return fmt.Sprintf("%+v", memory) }
}

// Promise 26: no list of the tables or of the cache, and no list within a list, is written into, nor is the room behind it, nor is that looked at.
func TestSwitchesWriteIntoNothing(t *testing.T) {
	chance := rand.New(rand.NewSource(70))
	wrong := []impl.Cache{}
	for _, c := range wrongCaches() {
		wrong = append(wrong, c)
	}
	for _, x := range tablesOfAllSorts(71) {
		caches := cachesOf(chance, rightTables().Shape)
		if slices.Contains(rightShapes(), x.Shape) {
			caches = append(caches, cachesOf(chance, x.Shape)...)
		}
		caches = append(caches, wrong[chance.Intn(len(wrong))], wrong[chance.Intn(len(wrong))])
		tables, toldTables := roomyTables(x)
		given, toldCaches := roomyCaches(caches)
		before := toldTables() + toldCaches()
		answers := askedOfSwitches(tables, given)
		if after := toldTables() + toldCaches(); after != before {
			t.Fatalf("%s\nbecame\n%s", before, after)
		}
		if askedOfSwitches(x, caches) != answers {
			t.Fatalf("what lies behind a list was looked at: %+v", x)
		}
	}
}
