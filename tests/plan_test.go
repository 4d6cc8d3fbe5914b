package tests

import (
	"fmt"
	"math"
	"math/rand"
	"slices"
	"testing"

	"loop.example/g00076/impl"
)

// planByHand is for whatever it is given; it lays the cycles of the slots one behind the other.
func planByHand(x impl.Tables, needs []int) (impl.Tables, bool) {
	if !soundByHand(x) || len(needs) != len(x.Parts) {
		return impl.Tables{}, false
	}
	slots, cycle := []impl.Slot{}, 0
	for p, need := range needs {
		if !isBetween(need, 0, 5000) {
			return impl.Tables{}, false
		}
		if need != 0 {
			slots = append(slots, impl.Slot{Part: p, Start: cycle, Len: x.Pad + x.Guard + need})
			cycle += x.Pad + x.Guard + need
		}
	}
	if cycle == 0 || cycle > x.Major {
		return impl.Tables{}, false
	}
	y := copyTables(x)
	y.Slots = slots
	return y, true
}

// wantTables holds answered tables against a model's; what is true must be sound, what is false the zero value.
func wantTables(t *testing.T, what string, got impl.Tables, is bool, want impl.Tables, wantIs bool) {
	t.Helper()
	if is != wantIs || !sameTables(got, want) {
		t.Errorf("%s is %v and\n%+v\nnot %v and\n%+v", what, is, got, wantIs, want)
	}
	if is {
		wantSound(t, what, got, true)
	} else if !sameTables(got, impl.Tables{}) {
		t.Errorf("%s: beside false stands %+v", what, got)
	}
}

// wantPlan holds Plan against the model, and what it plans against what is needed. It tells whether it is planned.
func wantPlan(t *testing.T, what string, x impl.Tables, needs []int) bool {
	t.Helper()
	y, is := impl.Plan(x, needs)
	want, wantIs := planByHand(x, needs)
	wantTables(t, fmt.Sprint(what, ": Plan of ", needs), y, is, want, wantIs)
	if !is {
		return false
	}
	sum := 0
	for p, need := range needs {
		wantShare(t, y, p, need)
		wantCycles(t, y, p, 0, y.Major, need)
		sum += need
	}
	wantGap(t, y, x.Major-sum-len(y.Slots)*(x.Pad+x.Guard))
	return true
}

func wantPlanned(t *testing.T, what string, x impl.Tables, needs ...int) {
	t.Helper()
	if !wantPlan(t, what, x, needs) {
		t.Errorf("%s: what is needed is refused: %v", what, needs)
	}
}

func wantNoPlan(t *testing.T, what string, x impl.Tables, needs ...int) {
	t.Helper()
	if wantPlan(t, what, x, needs) {
		t.Errorf("%s: planned: %v", what, needs)
	}
}

// planMakers have tables of each sort: with one slot and with 16, with one partition and with six, with slots that touch and with room between them.
func planMakers() []func() impl.Tables {
	return append(timeMakers(), nameTables, func() impl.Tables { return slotsOf(7) }, func() impl.Tables { return flowTables(4, queued(0, 3, 2)) })
}

// neededBy has the one need at that place, and 0 at the others.
func neededBy(x impl.Tables, p int, need int) []int {
	needs := make([]int, len(x.Parts))
	needs[p] = need
	return needs
}

func TestPlanByNumbers(t *testing.T) {
	x := rightTables()
	for _, row := range []struct {
		needs []int
		slots []impl.Slot
	}{
		{[]int{1, 1, 1}, []impl.Slot{{Part: 0, Start: 0, Len: 111}, {Part: 1, Start: 111, Len: 111}, {Part: 2, Start: 222, Len: 111}}},
		{[]int{40, 0, 7}, []impl.Slot{{Part: 0, Start: 0, Len: 150}, {Part: 2, Start: 150, Len: 117}}},
		{[]int{0, 0, 890}, []impl.Slot{{Part: 2, Start: 0, Len: 1000}}},
		{[]int{0, 780, 0}, []impl.Slot{{Part: 1, Start: 0, Len: 890}}},
		{[]int{0, 300, 480}, []impl.Slot{{Part: 1, Start: 0, Len: 410}, {Part: 2, Start: 410, Len: 590}}},
		{[]int{100, 200, 370}, []impl.Slot{{Part: 0, Start: 0, Len: 210}, {Part: 1, Start: 210, Len: 310}, {Part: 2, Start: 520, Len: 480}}},
	} {
		y, is := impl.Plan(x, row.needs)
		if !is || !slices.Equal(y.Slots, row.slots) {
			t.Errorf("%v: %v and %v, not %v", row.needs, is, y.Slots, row.slots)
		}
		wantPlanned(t, "by numbers", x, row.needs...)
	}
	wantNoPlan(t, "by numbers", x, 0, 0, 891)
	wantNoPlan(t, "by numbers", x, 0, 300, 481)
	wantNoPlan(t, "by numbers", x, 1, 300, 480)
	wantNoPlan(t, "by numbers", x, 100, 200, 371)
}

func TestPlanByCountOfNeeds(t *testing.T) {
	for n, maker := range planMakers() {
		x, what := maker(), fmt.Sprint("tables ", n)
		for count := range 20 {
			needs := slices.Repeat([]int{1}, count)
			zeros := append([]int{1}, make([]int, count)...)
			if count != len(x.Parts) {
				wantNoPlan(t, what, x, needs...)
				wantNoPlan(t, what+", all 0", x, make([]int, count)...)
			}
			if count+1 != len(x.Parts) {
				wantNoPlan(t, what+", 0 behind", x, zeros...)
			}
		}
		wantNoPlan(t, what+", nil", x)
		wantNoPlan(t, what+", very many", x, make([]int, 1<<16+len(x.Parts))...)
		for p := range x.Parts {
			wantPlanned(t, what, x, neededBy(x, p, 1)...)
			wantNoPlan(t, what+", one too few", x, neededBy(x, p, 1)[:len(x.Parts)-1]...)
			wantNoPlan(t, what+", one too many", x, append(neededBy(x, p, 1), 0)...)
			wantNoPlan(t, what+", one too many ahead", x, append([]int{0}, neededBy(x, p, 1)...)...)
		}
	}
}

// One need alone that is not 0, for each partition: from the least one up to the one that fills the frame, and one more.
func TestPlanOfOneNeed(t *testing.T) {
	for n, maker := range planMakers() {
		x, what := maker(), fmt.Sprint("tables ", n)
		most := x.Major - x.Pad - x.Guard
		for p := range x.Parts {
			for _, need := range []int{1, 2, most / 2, most - 1, most} {
				if !isBetween(need, 1, most) {
					continue
				}
				wantPlanned(t, what, x, neededBy(x, p, need)...)
				y, _ := impl.Plan(x, neededBy(x, p, need))
				if !slices.Equal(y.Slots, []impl.Slot{{Part: p, Start: 0, Len: x.Pad + x.Guard + need}}) {
					t.Errorf("%s, %d needs %d: %v", what, p, need, y.Slots)
				}
			}
			for _, need := range append(oddInts(), -5000, -2, -1, 0, most+1, most+2, 4999, 5000, 5001, 5002, 1<<32+1, -1<<32+1, math.MinInt+x.Pad+x.Guard+1, math.MaxInt-x.Pad-x.Guard, 1<<16+1) {
				if !isBetween(need, 1, most) {
					wantNoPlan(t, what, x, neededBy(x, p, need)...)
				}
			}
		}
		wantNoPlan(t, what+", all 0", x, make([]int, len(x.Parts))...)
	}
}

// Needs below 0, of 0, of MaxMajor and one more beside one that alone would do.
func TestPlanOfANeedBesideOthers(t *testing.T) {
	for n, maker := range planMakers() {
		x, what := maker(), fmt.Sprint("tables ", n)
		for p := range x.Parts {
			for q := range x.Parts {
				if p == q {
					continue
				}
				for _, need := range append(farInts(), -5001, -5000, -x.Pad-x.Guard-1, -x.Pad-x.Guard, -2, -1, 4999, 5000, 5001) {
					needs := neededBy(x, q, 1)
					needs[p] = need
					wantNoPlan(t, what, x, needs...)
				}
				needs := neededBy(x, q, 1)
				needs[p] = 0
				wantPlanned(t, what, x, needs...)
			}
		}
	}
}

// The last slot ends exactly at Major, one cycle ahead of it and one behind it, with as many slots as there are partitions and with fewer.
func TestPlanAtTheEndOfTheFrame(t *testing.T) {
	chance := rand.New(rand.NewSource(2301))
	for parts := 1; parts <= 6; parts++ {
		for range 30 {
			x := flowTables(parts)
			needs, end := make([]int, parts), 0
			for p := range needs {
				needs[p] = chance.Intn(3) * (1 + chance.Intn(40))
			}
			needs[chance.Intn(parts)] = 1 + chance.Intn(40)
			for _, need := range needs {
				if need > 0 {
					end += x.Pad + x.Guard + need
				}
			}
			x.Slots = []impl.Slot{{Part: 0, Start: 0, Len: x.Pad + x.Guard + 1}}
			for major := max(end-3, x.Slots[0].Len); major <= end+3; major++ {
				x.Major = major
				if wantPlan(t, "at the end", x, needs) != (major >= end) {
					t.Errorf("%v end at %d, in a frame of %d", needs, end, major)
				}
			}
		}
	}
}

// Sums of these needs leave 64 bits, and come back as small numbers or as numbers below 0.
func TestPlanOfNeedsWhoseSumWraps(t *testing.T) {
	x := mostTables()
	x.Pad, x.Chans = 80, nil
	wantSound(t, "room for six", x, true)
	wantPlanned(t, "six", x, 1, 1, 1, 1, 1, 1)
	for _, needs := range [][]int{
		{math.MaxInt, math.MaxInt, 3, 0, 0, 0},
		{math.MinInt, math.MinInt, 3, 0, 0, 0},
		{3, math.MaxInt, math.MaxInt, 0, 0, 0},
		{math.MinInt, math.MaxInt, 4, 0, 0, 0},
		{math.MaxInt, math.MinInt, 4, 1, 1, 1},
		{1 << 62, 1 << 62, 1 << 62, 1 << 62, 3, 3},
		{1 << 63 / 3, 1 << 63 / 3, 1 << 63 / 3, 1 << 63 / 3, 1 << 63 / 3, 1 << 63 / 3},
		{math.MaxInt - 83, 0, 0, 0, 0, 0},
		{math.MaxInt - 82, 0, 0, 0, 0, 0},
		{0, 0, 0, 0, 0, math.MaxInt},
		{math.MaxInt, math.MaxInt, math.MaxInt, math.MaxInt, math.MaxInt, math.MaxInt},
		{math.MinInt, math.MinInt, math.MinInt, math.MinInt, math.MinInt, math.MinInt},
		{1 << 32, 1 << 32, 1 << 32, 1 << 32, 1 << 32, 1 << 32},
		{-100, 200, -100, 200, -100, 200},
		{5000, 5000, 5000, 5000, 5000, 5000},
	} {
		wantNoPlan(t, "sums that wrap", x, needs...)
		slices.Reverse(needs)
		wantNoPlan(t, "sums that wrap, turned round", x, needs...)
	}
}

func TestPlanOfTablesThatAreNotSound(t *testing.T) {
	for what, x := range wrongTables() {
		for count := range 8 {
			wantNoPlan(t, what, x, slices.Repeat([]int{1}, count)...)
			wantNoPlan(t, what, x, make([]int, count)...)
		}
	}
	for _, maker := range tableMakers() {
		x := maker()
		for _, number := range numbersIn(&x) {
			was := *number
			for _, n := range append(oddInts(), was-4, was-1, was+1, was+4) {
				*number = n
				wantPlan(t, "one number changed", x, slices.Repeat([]int{1}, len(x.Parts)))
			}
			*number = was
		}
	}
}

// What is planned hangs on all but the slots that were: tables with other slots, which are planned again, come to the same.
func TestPlanForgetsTheSlotsAhead(t *testing.T) {
	chance := rand.New(rand.NewSource(2302))
	for _, x := range promiseTables(2303, 60) {
		first, is := impl.Plan(x, neededBy(x, chance.Intn(len(x.Parts)), 1))
		if !is {
			t.Fatalf("refused: %+v", x)
		}
		needs := drawnNeeds(chance, x)
		y, isY := impl.Plan(x, needs)
		z, isZ := impl.Plan(first, needs)
		if isY != isZ || !sameTables(y, z) {
			t.Errorf("%v: %v and %+v, or %v and %+v", needs, isY, y, isZ, z)
		}
	}
}

// drawnNeeds mostly fit, and often fill the frame or reach a little beyond it.
func drawnNeeds(chance *rand.Rand, x impl.Tables) []int {
	needs, left := make([]int, len(x.Parts)), x.Major
	last := chance.Intn(len(needs))
	for p := range last {
		if room := left - x.Pad - x.Guard; room > 0 && chance.Intn(4) > 0 {
			needs[p] = 1 + chance.Intn(room/2+1)
			left = room - needs[p]
		}
	}
	needs[last] = max(left-x.Pad-x.Guard+[]int{-1, 0, 1, -chance.Intn(left + 1)}[chance.Intn(4)], 0)
	return needs
}

// Promise 23: what is planned is sound and gives just what is needed, counted over what each cycle tells.
func TestWhatIsPlannedGivesWhatIsNeeded(t *testing.T) {
	chance := rand.New(rand.NewSource(2304))
	counts := map[bool]int{}
	for _, x := range promiseTables(2305, 400) {
		needs := drawnNeeds(chance, x)
		is := wantPlan(t, "drawn", x, needs)
		counts[is]++
		if !is || x.Major > 1500 {
			continue
		}
		y, _ := impl.Plan(x, needs)
		begun := make([]int, len(needs))
		for c := y.Major; c < 2*y.Major; c++ {
			if p := impl.MayBegin(y, c); p >= 0 {
				begun[p]++
			}
		}
		if !slices.Equal(begun, needs) {
			t.Errorf("%v is needed, and %v given", needs, begun)
		}
		again, isAgain := impl.Plan(y, begun)
		wantTables(t, "planned again", again, isAgain, y, true)
	}
	if counts[true] < 100 || counts[false] < 40 {
		t.Error("too few of one kind:", counts)
	}
}

func TestPlanOfDisturbedTables(t *testing.T) {
	chance := rand.New(rand.NewSource(2306))
	counts := map[bool]int{}
	for range 800 {
		x := drawnTables(chance)
		needs := drawnNeeds(chance, x)
		disturb(chance, &x)
		counts[wantPlan(t, "disturbed", x, needs)]++
	}
	if counts[true] < 100 || counts[false] < 100 {
		t.Error("too few of one kind:", counts)
	}
}

// lookTables are all lists of tables, also those within others and those behind their ends.
func lookTables(x impl.Tables) []listLook {
	list := []listLook{
		lookAt(x.Parts, func(n int) impl.PartRow { return impl.PartRow{Entry: n} }, func(p impl.PartRow) int { return p.Entry }),
		lookAt(x.Devs, func(n int) int { return n }, func(n int) int { return n }),
		lookAt(x.Chans, func(n int) impl.ChanRow { return impl.ChanRow{Depth: n} }, func(r impl.ChanRow) int { return r.Depth }),
		lookAt(x.Slots, func(n int) impl.Slot { return impl.Slot{Start: n} }, func(s impl.Slot) int { return s.Start }),
	}
	for _, row := range x.Parts[:cap(x.Parts)] {
		list = append(list, lookAt(row.Windows, func(n int) impl.Window { return win(n, n, n) }, func(w impl.Window) int { return w.Base }))
	}
	return list
}

// spareTables have room behind each list.
func spareTables(x impl.Tables) impl.Tables {
	x = copyTables(x)
	for p := range x.Parts {
		x.Parts[p].Windows = slices.Grow(x.Parts[p].Windows, 6)
	}
	x.Parts, x.Devs, x.Chans, x.Slots = slices.Grow(x.Parts, 6), slices.Grow(x.Devs, 6), slices.Grow(x.Chans, 6), slices.Grow(x.Slots, 20)
	return x
}

// wantTablesApart asks twice: no list of either answer shares memory with another list of it, with one of the other answer or with one of the argument. It tells whether the answer is true.
func wantTablesApart(t *testing.T, what string, x impl.Tables, ask func(x impl.Tables) (impl.Tables, bool)) bool {
	t.Helper()
	given := spareTables(x)
	first, is := ask(given)
	second, _ := ask(given)
	if !sameTables(given, x) || !sameTables(first, second) {
		t.Errorf("%s: the second answer is %+v, the first one %+v, of %+v", what, second, first, given)
	}
	wantLooksApart(t, what, slices.Concat(lookTables(given), lookTables(first), lookTables(second)))
	return is
}

// Promise 26: neither the tables nor the needs are written into, nor is the room behind them, and that room is not looked at.
func TestPlanWritesIntoNothing(t *testing.T) {
	chance := rand.New(rand.NewSource(2307))
	for _, x := range tablesOfAllSorts(2308) {
		for _, list := range [][]int{nil, slices.Repeat([]int{1}, len(x.Parts)), slices.Repeat([]int{1}, max(len(x.Parts)-1, 0)), append(make([]int, len(x.Parts)), chance.Intn(9))} {
			given, told := roomyTables(x)
			needs, whole := roomed(list, 1)
			before, beforeNeeds := told(), slices.Clone(whole)
			y, is := impl.Plan(given, needs)
			if told() != before || !slices.Equal(whole, beforeNeeds) {
				t.Fatalf("%s\nbecame\n%s, or %v became %v", before, told(), beforeNeeds, whole)
			}
			want, wantIs := planByHand(x, list)
			wantTables(t, "with room behind", y, is, want, wantIs)
		}
	}
}

// Every list of an answer is its own, also where the answer is just what was given.
func TestListsOfAPlanAreItsOwn(t *testing.T) {
	for n, x := range promiseTables(2309, 60) {
		what := fmt.Sprint("tables ", n)
		for p := range x.Parts {
			needs := neededBy(x, p, 1)
			planned := wantTablesApart(t, what, x, func(x impl.Tables) (impl.Tables, bool) { return impl.Plan(x, needs) })
			y, _ := impl.Plan(x, needs)
			again := wantTablesApart(t, what+", planned", y, func(x impl.Tables) (impl.Tables, bool) { return impl.Plan(x, needs) })
			if !planned || !again {
				t.Errorf("%s: %d is refused", what, p)
			}
		}
	}
}
