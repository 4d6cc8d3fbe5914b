package tests

import (
	"math"
	"math/rand"
	"slices"
	"testing"

	"loop.example/g00076/impl"
)

// took is an event that begins at a cycle and takes so many.
func took(at int, cost int) impl.Event {
	return impl.Event{At: at, Cost: cost, Op: impl.OpNop}
}

func wantEvents(t *testing.T, what string, events []impl.Event, cycle int, retired int, busy int) {
	t.Helper()
	if got := impl.Retired(events, cycle); got != retired {
		t.Errorf("%s: %d are retired at %d, not %d", what, got, cycle, retired)
	}
	if got := impl.BusyOf(events); got != busy {
		t.Errorf("%s: busy for %d, not %d", what, got, busy)
	}
}

func retiredByHand(events []impl.Event, cycle int) int {
	count := 0
	for _, e := range events {
		if isBetween(e.At, 0, 50000) && isBetween(e.Cost, 0, 50000) && cycle >= e.At+e.Cost {
			count++
		}
	}
	return count
}

func busyByHand(events []impl.Event) int {
	sum := 0
	for _, e := range events {
		if isBetween(e.Cost, 0, 50000) {
			sum += e.Cost
		}
	}
	return sum
}

// inSlotsByHand is for sound tables, which the chart was painted from, and a partition that there is.
func inSlotsByHand(x impl.Tables, chart []moment, p int, events []impl.Event) bool {
	free := 0
	for _, e := range events {
		if !isBetween(e.At, 0, 50000) || !isBetween(e.Cost, 1, worstStepByHand(x.Costs)) || e.At < free {
			return false
		}
		free = e.At + e.Cost
		now, last := chart[e.At], chart[free-1]
		if now.part != p || now.phase != impl.PhaseRun || last.slot != now.slot || last.frame != now.frame {
			return false
		}
	}
	return true
}

func wantInSlots(t *testing.T, what string, x impl.Tables, p int, want bool, events ...impl.Event) {
	t.Helper()
	if got := impl.InSlots(x, p, events); got != want {
		t.Errorf("%s: InSlots of partition %d is %v: %+v", what, p, got, events)
	}
}

func TestRetiredByNumbers(t *testing.T) {
	events := []impl.Event{took(10, 5), took(15, 1), took(20, 30)}
	for cycle, retired := range map[int]int{-1: 0, 0: 0, 10: 0, 14: 0, 15: 1, 16: 2, 17: 2, 49: 2, 50: 3, 51: 3, 50000: 3, 50001: 3, math.MaxInt: 3, math.MinInt: 0} {
		wantEvents(t, "three", events, cycle, retired, 36)
	}
	// They are asked each for itself, in whatever order they stand.
	wantEvents(t, "in another order", []impl.Event{took(20, 30), took(10, 5), took(15, 1)}, 16, 2, 36)
	wantEvents(t, "overlapping", []impl.Event{took(10, 5), took(10, 5), took(14, 1)}, 15, 3, 11)
	wantEvents(t, "no cost", []impl.Event{took(0, 0)}, 0, 1, 0)
	wantEvents(t, "no cost", []impl.Event{took(0, 0)}, -1, 0, 0)
}

func TestRetiredOfNoEvent(t *testing.T) {
	for _, cycle := range append(oddInts(), -1, 0, 1, 50000, 50001) {
		wantEvents(t, "nil", nil, cycle, 0, 0)
		wantEvents(t, "an empty list", []impl.Event{}, cycle, 0, 0)
	}
}

// Each number of an event at and beside its limits: beyond them it does not count for Retired, and only its Cost is asked of BusyOf.
func TestRetiredByTheNumbersOfAnEvent(t *testing.T) {
	numbers := append(oddInts(), -50001, -50000, -2, -1, 0, 1, 25000, 49999, 50000, 50001, 50002, 100000)
	cycles := append(oddInts(), -1, 0, 1, 2, 49999, 50000, 50001, 75000, 99999, 100000, 100001)
	for _, at := range numbers {
		for _, cost := range numbers {
			list := []impl.Event{took(at, cost)}
			for _, cycle := range cycles {
				wantEvents(t, "one", list, cycle, retiredByHand(list, cycle), busyByHand(list))
			}
			// Those beside it count all the same.
			list = []impl.Event{took(3, 4), took(at, cost), took(7, 2)}
			wantEvents(t, "three", list, 8, 1+retiredByHand(list[1:2], 8), 6+busyByHand(list[1:2]))
		}
	}
	for _, row := range []struct{ at, cost, cycle, retired, busy int }{
		{-1, 5, 100000, 0, 5}, {50001, 5, 100000, 0, 5}, {0, 5, 5, 1, 5}, {0, 5, 4, 0, 5}, {50000, 0, 50000, 1, 0}, {50000, 0, 49999, 0, 0},
		{5, -1, 100000, 0, 0}, {5, 50001, 100000, 0, 0}, {5, 50000, 50005, 1, 50000}, {5, 50000, 50004, 0, 50000}, {50000, 50000, 100000, 1, 50000}, {50000, 50000, 99999, 0, 50000},
		{math.MaxInt, math.MaxInt, 0, 0, 0}, {math.MinInt, math.MinInt, 0, 0, 0}, {math.MaxInt, 1, 0, 0, 1},
	} {
		wantEvents(t, "by numbers", []impl.Event{took(row.at, row.cost)}, row.cycle, row.retired, row.busy)
	}
}

func TestRetiredByCountOfEvents(t *testing.T) {
	for _, count := range []int{1, 2, 49999, 50000} {
		events := slices.Repeat([]impl.Event{took(1, 2)}, count)
		wantEvents(t, "many", events, 3, count, 2*count)
		wantEvents(t, "many", events, 2, 0, 2*count)
	}
	for _, count := range []int{50001, 50002, 1 << 16, 100000} {
		events := slices.Repeat([]impl.Event{took(1, 2)}, count)
		wantEvents(t, "too many", events, 3, 0, 0)
		wantEvents(t, "too many", events, 50000, 0, 0)
	}
	wantEvents(t, "the greatest sum", slices.Repeat([]impl.Event{took(50000, 50000)}, 50000), 100000, 50000, 2500000000)
	// What does not count is among those that are too many all the same.
	wantEvents(t, "too many that do not count", append(slices.Repeat([]impl.Event{took(-1, -1)}, 50000), took(1, 2)), 3, 0, 0)
	wantEvents(t, "as many that do not count", append(slices.Repeat([]impl.Event{took(-1, -1)}, 49999), took(1, 2)), 3, 1, 2)
}

// Nothing but At and Cost is asked.
func TestRetiredWhateverElseIsTold(t *testing.T) {
	odd := impl.Event{At: 4, Cost: 3, PC: math.MaxUint32, Op: -9, Fault: 77, Cause: -5, Sum: 1}
	wantEvents(t, "odd", []impl.Event{odd}, 7, 1, 3)
	odd.At = 70
	wantInSlots(t, "odd", rightTables(), 0, true, odd)
}

// Of rightTables partition 0 may begin steps at 70 to 109 and at 460 of each frame of 1000; its slots end behind 159 and 510, and a step takes up to 45.
func TestInSlotsByNumbers(t *testing.T) {
	x := rightTables()
	wantNumber(t, "the worst step", impl.WorstStep(x.Costs), 45)
	wantInSlots(t, "none", x, 0, true)
	wantInSlots(t, "all that there are", x, 0, true, took(70, 1), took(71, 38), took(109, 45), took(460, 45), took(1070, 1), took(49070, 39), took(49109, 45), took(49460, 1))
	for at, want := range map[int]bool{
		-1: false, 0: false, 9: false, 10: false, 69: false, 70: true, 71: true, 108: true, 109: true, 110: false, 159: false, 160: false, 240: false, 459: false, 460: true, 461: false,
		660: false, 1069: false, 1070: true, 1109: true, 1110: false, 49460: true, 49461: false, 50000: false, 50001: false, 50070: false, 51070: false,
	} {
		wantInSlots(t, "one", x, 0, want, took(at, 1))
		wantInSlots(t, "one behind another", x, 0, want && at > 70, took(70, 1), took(at, 1))
	}
	for cost, want := range map[int]bool{-1: false, 0: false, 1: true, 2: true, 44: true, 45: true, 46: false, 50: false, 51: false, 52: false, 1000: false, 50000: false, 50001: false, math.MaxInt: false, math.MinInt: false} {
		wantInSlots(t, "at the first cycle", x, 0, want, took(70, cost))
		wantInSlots(t, "at the last cycle", x, 0, want, took(109, cost))
	}
	for _, at := range append(oddInts(), noCycles()...) {
		if !isBetween(at, 0, 50000) {
			wantInSlots(t, "no cycle", x, 0, false, took(at, 1))
			wantInSlots(t, "no cycle, nor a cost", x, 0, false, took(at, at))
			wantInSlots(t, "no cycle, and a cost that leads back", x, 0, false, took(at, 70-at))
		}
	}
}

func TestInSlotsOfEventsThatOverlap(t *testing.T) {
	x := rightTables()
	wantInSlots(t, "they touch", x, 0, true, took(70, 5), took(75, 5), took(80, 5))
	wantInSlots(t, "by one cycle", x, 0, false, took(70, 6), took(75, 5), took(80, 5))
	wantInSlots(t, "by one cycle", x, 0, false, took(70, 5), took(75, 6), took(80, 5))
	wantInSlots(t, "with room between", x, 0, true, took(70, 4), took(75, 4), took(80, 5))
	wantInSlots(t, "the same one twice", x, 0, false, took(70, 1), took(70, 1))
	wantInSlots(t, "in another order", x, 0, false, took(80, 1), took(70, 1))
	wantInSlots(t, "in another frame's order", x, 0, false, took(1070, 1), took(80, 1))
	// It is held against the one ahead alone; but as nothing begins ahead of that, against all of them.
	wantInSlots(t, "with the first of three", x, 0, false, took(70, 30), took(100, 1), took(99, 1))
	wantInSlots(t, "from slot to slot", x, 0, true, took(109, 45), took(460, 45), took(1070, 45))
}

// A step of at most WorstStep cycles that begins ahead of the guard ends ahead of the slot's last cycle, so neither of two that would take that one is in its slot.
func TestInSlotsAtTheEndOfASlot(t *testing.T) {
	tight := changed(rightTables, func(x *impl.Tables) { x.Guard = 45 })
	for _, x := range []impl.Tables{rightTables(), tight, mostTables(), leastTables(), longTables(), partTables()} {
		wantSound(t, "as it is", x, true)
		worst := worstStepByHand(x.Costs)
		for n, s := range x.Slots {
			end := s.Start + s.Len
			first := end - x.Guard - 1
			wantInSlots(t, "the longest step", x, s.Part, true, took(first, worst))
			wantInSlots(t, "up to the last cycle but one", x, s.Part, x.Guard == worst, took(first, x.Guard))
			wantInSlots(t, "up to the last cycle", x, s.Part, false, took(first, x.Guard+1))
			wantInSlots(t, "up to one behind it", x, s.Part, false, took(first, x.Guard+2))
			for cost := 1; cost <= worst; cost++ {
				wantInSlots(t, "up to the last cycle, from the guard", x, s.Part, false, took(end-cost, cost))
				wantInSlots(t, "up to one behind it, from the guard", x, s.Part, false, took(end-cost+1, cost))
			}
			if n+1 < len(x.Slots) {
				wantInSlots(t, "over into the next slot", x, s.Part, false, took(first, x.Slots[n+1].Start-first+1))
			}
			wantInSlots(t, "over into the next frame", x, s.Part, false, took(first, x.Major+1))
		}
	}
}

// A step may begin at MaxCycle, and end behind it in the slot that goes on there.
func TestInSlotsAtMaxCycle(t *testing.T) {
	long := longTables()
	worst := worstStepByHand(long.Costs)
	for _, cost := range []int{1, 2, 100, worst} {
		for _, at := range []int{49999, 50000} {
			wantInSlots(t, "over MaxCycle", long, 0, true, took(at, cost))
			wantInSlots(t, "over MaxCycle", long, 0, true, took(49998, 1), took(at, cost))
		}
		wantInSlots(t, "behind MaxCycle", long, 0, false, took(50001, cost))
		wantInSlots(t, "behind MaxCycle", long, 0, false, took(50000, cost), took(50000+cost, 1))
	}
	wantInSlots(t, "too long", long, 0, false, took(50000, worst+1))
	// There partition 0 may begin a step at MaxCycle for the last time in its slot; a step takes one cycle.
	wantInSlots(t, "touching", touchTables(), 0, true, took(49999, 1), took(50000, 1))
	wantInSlots(t, "touching", touchTables(), 2, false, took(50000, 1))
	wantInSlots(t, "in the guard", roomTables(), 0, false, took(50000, 1))
}

func TestInSlotsOfAnother(t *testing.T) {
	x := rightTables()
	for p := -1; p < 7; p++ {
		wantInSlots(t, "no event", x, p, isBetween(p, 0, 2))
		wantInSlots(t, "of partition 0", x, p, p == 0, took(70, 1))
		wantInSlots(t, "of partition 1", x, p, p == 1, took(220, 1))
		wantInSlots(t, "of both", x, p, false, took(70, 1), took(220, 1))
		wantInSlots(t, "of nobody", x, p, false, took(150, 1))
		wantInSlots(t, "of nobody", x, p, false, took(5, 1))
	}
	for _, p := range noParts() {
		wantInSlots(t, "no partition", x, p, false)
		wantInSlots(t, "no partition", x, p, false, took(5, 1))
		wantInSlots(t, "no partition", x, p, false, took(70, 1))
	}
}

func TestInSlotsOfTablesThatAreNotSound(t *testing.T) {
	for what, x := range wrongTables() {
		for p := -1; p < 7; p++ {
			wantInSlots(t, what, x, p, false)
			wantInSlots(t, what, x, p, false, took(70, 1))
		}
	}
}

// With a pad and a guard there are never as many steps as MaxCycle; so many events are refused, right ones ahead of them or not.
func TestInSlotsByCountOfEvents(t *testing.T) {
	x := frameTables()
	right := []impl.Event{}
	for c, now := range chartByHand(x)[:50001] {
		if now.phase == impl.PhaseRun {
			right = append(right, took(c, 1))
		}
	}
	wantInSlots(t, "at each cycle that there is", x, 0, true, right...)
	for _, count := range []int{49999, 50000, 50001, 100000} {
		wantInSlots(t, "too many", x, 0, false, append(slices.Clone(right), slices.Repeat([]impl.Event{took(45000, 1)}, count-len(right))...)...)
		wantInSlots(t, "too many", x, 0, false, slices.Repeat([]impl.Event{took(1000, 1)}, count)...)
	}
}

// Drawn events, most of them right, against the chart.
func TestInSlotsOfDrawnEvents(t *testing.T) {
	chance := rand.New(rand.NewSource(192))
	right, wrong := 0, 0
	for range 150 {
		x := drawnTables(chance)
		p := chance.Intn(len(x.Parts))
		chart, worst := chartByHand(x), worstStepByHand(x.Costs)
		for range 6 {
			events, c := []impl.Event{}, chance.Intn(50001)
			for len(events) < 1+chance.Intn(12) && c <= 50000 {
				for c <= 50000 && (chart[c].part != p || chart[c].phase != impl.PhaseRun) {
					c++
				}
				e := took(c, 1+chance.Intn(worst))
				events, c = append(events, e), e.At+e.Cost+chance.Intn(2)*chance.Intn(2*x.Major)
			}
			if len(events) > 0 && chance.Intn(2) == 0 {
				e := &events[chance.Intn(len(events))]
				e.At += chance.Intn(3)*chance.Intn(40) - 20
				e.Cost += chance.Intn(3) - 1
			}
			want := inSlotsByHand(x, chart, p, events)
			wantInSlots(t, "drawn", x, p, want, events...)
			cycle := chance.Intn(60000)
			wantEvents(t, "drawn", events, cycle, retiredByHand(events, cycle), busyByHand(events))
			if want {
				right++
			} else {
				wrong++
			}
		}
	}
	if right < 150 || wrong < 150 {
		t.Error("too few of one kind:", right, wrong)
	}
}
