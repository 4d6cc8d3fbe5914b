package tests

import (
	"fmt"
	"math"
	"math/rand"
	"slices"
	"testing"

	"loop.example/g00076/impl"
)

// moment is what is so at one cycle; slot and part are -1 where no slot has it.
type moment struct {
	slot  int
	phase int
	part  int
	frame int
	first bool
}

// touchTables have three slots that fill the frame from its first cycle to its last; MaxCycle stands in the last cycle that partition 0 may begin a step at.
func touchTables() impl.Tables {
	x := partsOf(3)
	x.Major, x.Slots = 61, []impl.Slot{{Part: 2, Start: 0, Len: 18}, {Part: 0, Start: 18, Len: 25}, {Part: 2, Start: 43, Len: 18}}
	return x
}

// roomTables have room ahead of, between and behind their slots, of which the first and the last are of one partition; MaxCycle stands in the guard of the first one.
func roomTables() impl.Tables {
	return changed(rightTables, func(x *impl.Tables) { x.Major, x.Slots[3].Part = 997, 0 })
}

func timeMakers() []func() impl.Tables {
	return append(tableMakers(), touchTables, roomTables)
}

// chartByHand paints the slots cycle by cycle, from 0 on up to the frame behind that of MaxCycle.
func chartByHand(x impl.Tables) []moment {
	return chartUpTo(x, 50000)
}

// chartUpTo has all cycles of the frame behind that of this cycle too.
func chartUpTo(x impl.Tables, cycle int) []moment {
	chart := []moment{}
	for frame := 0; len(chart) <= cycle+x.Major; frame++ {
		border := len(chart)
		for range x.Major {
			chart = append(chart, moment{slot: -1, part: -1, frame: frame})
		}
		for n, s := range x.Slots {
			for k := range s.Len {
				now := &chart[border+s.Start+k]
				now.slot, now.part, now.phase, now.first = n, s.Part, impl.PhaseRun, k == 0
				if k < x.Pad {
					now.phase = impl.PhaseSwitch
				}
				if s.Len-k <= x.Guard {
					now.phase = impl.PhaseGuard
				}
			}
		}
	}
	return chart
}

func nextByHand(chart []moment, c int) int {
	for !chart[c].first {
		c++
	}
	return c
}

func cyclesByHand(chart []moment, part int, from int, to int) int {
	count := 0
	for c := from; c < to; c++ {
		if chart[c].phase == impl.PhaseRun && chart[c].part == part {
			count++
		}
	}
	return count
}

func startsByHand(chart []moment, part int, from int, to int) []int {
	list := []int{}
	for c := from; c < to; c++ {
		if chart[c].first && chart[c].part == part {
			list = append(list, c)
		}
	}
	return list
}

func wantNumber(t *testing.T, what string, got int, want int) {
	t.Helper()
	if got != want {
		t.Errorf("%s is %d, not %d", what, got, want)
	}
}

// wantAtCycle asks all functions of one cycle but NextSwitch.
func wantAtCycle(t *testing.T, x impl.Tables, c int, slot int, phase int, holder int, begins int, frame int) {
	t.Helper()
	got := [5]int{impl.SlotAt(x, c), impl.PhaseAt(x, c), impl.HolderAt(x, c), impl.MayBegin(x, c), impl.FrameOf(x, c)}
	if want := [5]int{slot, phase, holder, begins, frame}; got != want {
		t.Errorf("cycle %d: slot, phase, holder, who may begin and frame are %v, not %v, of %+v", c, got, want, x.Slots)
	}
}

func wantNext(t *testing.T, x impl.Tables, c int, want int) {
	t.Helper()
	if got := impl.NextSwitch(x, c); got != want {
		t.Errorf("NextSwitch(%d) = %d, not %d", c, got, want)
	}
}

func wantCycles(t *testing.T, x impl.Tables, part int, from int, to int, want int) {
	t.Helper()
	if got := impl.CyclesOf(x, part, from, to); got != want {
		t.Errorf("CyclesOf(%d, %d, %d) = %d, not %d", part, from, to, got, want)
	}
}

func wantStarts(t *testing.T, x impl.Tables, part int, from int, to int, want ...int) {
	t.Helper()
	if got := impl.SlotStarts(x, part, from, to); !slices.Equal(got, want) {
		t.Errorf("SlotStarts(%d, %d, %d) = %v, not %v", part, from, to, got, want)
	}
}

// wantNoCycle is for a cycle that is none, or for tables that are not sound.
func wantNoCycle(t *testing.T, x impl.Tables, c int) {
	t.Helper()
	wantAtCycle(t, x, c, -1, -1, -1, -1, -1)
	wantNext(t, x, c, -1)
}

func wantNoSpan(t *testing.T, x impl.Tables, part int, from int, to int) {
	t.Helper()
	wantCycles(t, x, part, from, to, 0)
	wantStarts(t, x, part, from, to)
}

// wantMoment holds a cycle against the chart; it may be one that is none.
func wantMoment(t *testing.T, x impl.Tables, chart []moment, c int) {
	t.Helper()
	if !isBetween(c, 0, 50000) {
		wantNoCycle(t, x, c)
		return
	}
	now, holder, begins := chart[c], -1, -1
	if now.phase == impl.PhaseRun {
		holder, begins = now.part, now.part
	}
	if now.phase == impl.PhaseGuard {
		holder = now.part
	}
	wantAtCycle(t, x, c, now.slot, now.phase, holder, begins, now.frame)
	wantNext(t, x, c, nextByHand(chart, c))
}

// wantSpan holds the cycles from from up to to - 1 against the chart, for each partition and for two that are none.
func wantSpan(t *testing.T, x impl.Tables, chart []moment, from int, to int) {
	t.Helper()
	for part := -1; part <= len(x.Parts); part++ {
		wantCycles(t, x, part, from, to, cyclesByHand(chart, part, from, to))
		wantStarts(t, x, part, from, to, startsByHand(chart, part, from, to)...)
	}
}

// edgesOf are the places at which something changes, and those ahead of and behind them.
func edgesOf(x impl.Tables) []int {
	list := []int{-1, 0, 1, x.Major - 2, x.Major - 1, x.Major, x.Major + 1}
	for _, s := range x.Slots {
		for _, edge := range []int{s.Start, s.Start + x.Pad, s.Start + s.Len - x.Guard, s.Start + s.Len} {
			list = append(list, edge-1, edge, edge+1)
		}
	}
	slices.Sort(list)
	return slices.Compact(list)
}

// framesOf are the first ones, one in the middle, and the last ones, of which MaxCycle cuts one short.
func framesOf(x impl.Tables) []int {
	last := 50000 / x.Major
	return []int{0, 1, last / 2, last - 1, last}
}

// noCycles are none, however near or far.
func noCycles() []int {
	list := []int{-50001, -50000, -1001, -1000, -61, -18, -2, -1, 50001, 50002, 50018, 50061, 51000, 55000, 100000, 1<<16 + 100, -1<<16 + 100, 1<<32 + 100, -1<<32 + 100, math.MinInt + 100}
	return append(list, slices.DeleteFunc(oddInts(), func(n int) bool { return isBetween(n, 0, 50000) })...)
}

func TestTimeConstants(t *testing.T) {
	got := []int{impl.MaxCycle, impl.PhaseFree, impl.PhaseSwitch, impl.PhaseRun, impl.PhaseGuard}
	if !slices.Equal(got, []int{50000, 0, 1, 2, 3}) {
		t.Error(got)
	}
}

// The tables of these tests are sound, and the cycles that they are named for are as said.
func TestTimeMakers(t *testing.T) {
	for _, maker := range timeMakers() {
		wantSound(t, "as it is", maker(), true)
	}
	wantAtCycle(t, touchTables(), 50000, 1, impl.PhaseRun, 0, 0, 819)
	wantAtCycle(t, roomTables(), 50000, 0, impl.PhaseGuard, 0, -1, 50)
	wantAtCycle(t, leastTables(), 50000, 0, impl.PhaseSwitch, -1, -1, 2777)
	wantAtCycle(t, rightTables(), 50000, -1, impl.PhaseFree, -1, -1, 50)
}

// The first and the last cycle of each phase, in the first frame and in later ones.
func TestPhasesByNumbers(t *testing.T) {
	for _, row := range []struct{ from, to, slot, phase, holder, begins int }{
		{0, 9, -1, 0, -1, -1},
		{10, 69, 0, 1, -1, -1}, {70, 109, 0, 2, 0, 0}, {110, 159, 0, 3, 0, -1},
		{160, 219, 1, 1, -1, -1}, {220, 309, 1, 2, 1, 1}, {310, 359, 1, 3, 1, -1},
		{360, 399, -1, 0, -1, -1},
		{400, 459, 2, 1, -1, -1}, {460, 460, 2, 2, 0, 0}, {461, 510, 2, 3, 0, -1},
		{511, 599, -1, 0, -1, -1},
		{600, 659, 3, 1, -1, -1}, {660, 849, 3, 2, 1, 1}, {850, 899, 3, 3, 1, -1},
		{900, 999, -1, 0, -1, -1},
	} {
		for _, frame := range []int{0, 1, 2, 7, 31, 49} {
			for _, place := range []int{row.from, (row.from + row.to) / 2, row.to} {
				wantAtCycle(t, rightTables(), 1000*frame+place, row.slot, row.phase, row.holder, row.begins, frame)
			}
		}
	}
}

// Slots that touch: the last cycle of one is followed by the first of the next, also across the border of a frame.
func TestPhasesOfSlotsThatTouch(t *testing.T) {
	for _, row := range []struct{ from, to, slot, phase, holder, begins int }{
		{0, 15, 0, 1, -1, -1}, {16, 16, 0, 2, 2, 2}, {17, 17, 0, 3, 2, -1},
		{18, 33, 1, 1, -1, -1}, {34, 41, 1, 2, 0, 0}, {42, 42, 1, 3, 0, -1},
		{43, 58, 2, 1, -1, -1}, {59, 59, 2, 2, 2, 2}, {60, 60, 2, 3, 2, -1},
	} {
		for _, frame := range []int{0, 1, 2, 400, 818} {
			for place := row.from; place <= row.to; place++ {
				wantAtCycle(t, touchTables(), 61*frame+place, row.slot, row.phase, row.holder, row.begins, frame)
			}
		}
	}
}

func TestPhasesOfOneSlotAlone(t *testing.T) {
	for place := range 16 {
		wantAtCycle(t, leastTables(), place, 0, impl.PhaseSwitch, -1, -1, 0)
		wantAtCycle(t, leastTables(), 18+place, 0, impl.PhaseSwitch, -1, -1, 1)
	}
	wantAtCycle(t, leastTables(), 16, 0, impl.PhaseRun, 0, 0, 0)
	wantAtCycle(t, leastTables(), 17, 0, impl.PhaseGuard, 0, -1, 0)
	wantAtCycle(t, leastTables(), 34, 0, impl.PhaseRun, 0, 0, 1)
	wantAtCycle(t, leastTables(), 35, 0, impl.PhaseGuard, 0, -1, 1)
	wantAtCycle(t, leastTables(), 49984, 0, impl.PhaseRun, 0, 0, 2776)
	wantAtCycle(t, leastTables(), 49985, 0, impl.PhaseGuard, 0, -1, 2776)
	wantAtCycle(t, frameTables(), 999, 0, impl.PhaseSwitch, -1, -1, 0)
	wantAtCycle(t, frameTables(), 1000, 0, impl.PhaseRun, 0, 0, 0)
	wantAtCycle(t, frameTables(), 4579, 0, impl.PhaseRun, 0, 0, 0)
	wantAtCycle(t, frameTables(), 4580, 0, impl.PhaseGuard, 0, -1, 0)
	wantAtCycle(t, frameTables(), 4999, 0, impl.PhaseGuard, 0, -1, 0)
	wantAtCycle(t, frameTables(), 5000, 0, impl.PhaseSwitch, -1, -1, 1)
	wantAtCycle(t, frameTables(), 49999, 0, impl.PhaseGuard, 0, -1, 9)
	wantAtCycle(t, frameTables(), 50000, 0, impl.PhaseSwitch, -1, -1, 10)
}

// A partition's number is told, not its slot's.
func TestHoldersOfFullTables(t *testing.T) {
	for n := range 16 {
		wantAtCycle(t, mostTables(), 312*n+143, n, impl.PhaseSwitch, -1, -1, 0)
		wantAtCycle(t, mostTables(), 312*n+144, n, impl.PhaseRun, n%6, n%6, 0)
		wantAtCycle(t, mostTables(), 312*n+308, n, impl.PhaseRun, n%6, n%6, 0)
		wantAtCycle(t, mostTables(), 312*n+309, n, impl.PhaseGuard, n%6, -1, 0)
		wantAtCycle(t, mostTables(), 312*n+311, n, impl.PhaseGuard, n%6, -1, 0)
	}
	for place := 4992; place < 5000; place++ {
		wantAtCycle(t, mostTables(), 45000+place, -1, impl.PhaseFree, -1, -1, 9)
	}
}

// Each edge of each slot and the cycles beside it, in frames from the first to the one that MaxCycle cuts short.
func TestTimeAtTheEdgesOfSlots(t *testing.T) {
	for _, maker := range timeMakers() {
		x := maker()
		chart := chartByHand(x)
		for _, frame := range framesOf(x) {
			for _, place := range edgesOf(x) {
				wantMoment(t, x, chart, frame*x.Major+place)
			}
		}
	}
}

func TestTimeAtEachCycle(t *testing.T) {
	for _, maker := range []func() impl.Tables{touchTables, roomTables} {
		chart := chartByHand(maker())
		for c := -70; c <= 50070; c++ {
			wantMoment(t, maker(), chart, c)
		}
	}
}

// Frames of many lengths, so that MaxCycle stands at many places of its frame.
func TestTimeAtTheLastCycles(t *testing.T) {
	phases := map[[2]int]int{}
	for major := 900; major <= 1200; major += 5 {
		x := changed(rightTables, func(x *impl.Tables) { x.Major = major })
		chart := chartByHand(x)
		phases[[2]int{chart[50000].slot, chart[50000].phase}]++
		for c := 49998; c <= 50002; c++ {
			wantMoment(t, x, chart, c)
		}
		wantSpan(t, x, chart, 49000, 50000)
		wantSpan(t, x, chart, 49999, 50000)
		wantSpan(t, x, chart, 50000, 50000)
	}
	// All that there is, but for the one cycle at which a step may begin in slot 2.
	if len(phases) != 12 {
		t.Error("MaxCycle stood in too few phases:", phases)
	}
}

func TestFrameOfByNumbers(t *testing.T) {
	for _, maker := range timeMakers() {
		x := maker()
		for frame := 1; frame*x.Major <= 50000; frame += 1 + frame/3 {
			wantNumber(t, "the last cycle's frame", impl.FrameOf(x, frame*x.Major-1), frame-1)
			wantNumber(t, "the first cycle's frame", impl.FrameOf(x, frame*x.Major), frame)
		}
		wantNumber(t, "the frame of cycle 0", impl.FrameOf(x, 0), 0)
	}
	for major, frame := range map[int]int{18: 2777, 19: 2631, 61: 819, 997: 50, 1000: 50, 1001: 49, 4999: 10, 5000: 10} {
		x := changed(leastTables, func(x *impl.Tables) { x.Major = major })
		wantNumber(t, fmt.Sprint("the last frame of ", major), impl.FrameOf(x, 50000), frame)
	}
}

func TestNextSwitchByNumbers(t *testing.T) {
	for c, want := range map[int]int{
		0: 10, 9: 10, 10: 10, 11: 160, 159: 160, 160: 160, 161: 400, 359: 400, 399: 400, 400: 400, 401: 600, 600: 600,
		601: 1010, 899: 1010, 900: 1010, 999: 1010, 1000: 1010, 1010: 1010, 1011: 1160, 48601: 49010, 49600: 49600,
		49601: 50010, 49999: 50010, 50000: 50010,
	} {
		wantNext(t, rightTables(), c, want)
	}
	for c, want := range map[int]int{0: 0, 1: 18, 18: 18, 19: 43, 43: 43, 44: 61, 60: 61, 61: 61, 62: 79, 49959: 49959, 49960: 49977, 49977: 49977, 49978: 50002, 50000: 50002} {
		wantNext(t, touchTables(), c, want)
	}
	for c, want := range map[int]int{0: 0, 1: 18, 17: 18, 18: 18, 19: 36, 49986: 49986, 49987: 50004, 50000: 50004} {
		wantNext(t, leastTables(), c, want)
	}
	for c, want := range map[int]int{0: 0, 1: 5000, 4999: 5000, 5000: 5000, 45001: 50000, 50000: 50000} {
		wantNext(t, frameTables(), c, want)
	}
	for c, want := range map[int]int{4680: 4680, 4681: 5000, 4992: 5000, 4999: 5000, 5000: 5000, 5001: 5312, 49681: 50000, 50000: 50000} {
		wantNext(t, mostTables(), c, want)
	}
}

// The answer may lie nearly a frame above MaxCycle.
func TestNextSwitchAboveMaxCycle(t *testing.T) {
	for start := range 200 {
		x := changed(leastTables, func(x *impl.Tables) { x.Major, x.Slots[0].Start = 4166, start })
		want := 49992 + start
		if start < 8 {
			want += 4166
		}
		wantNext(t, x, 50000, want)
		wantNext(t, x, 50001, -1)
	}
}

func TestCyclesOfByNumbers(t *testing.T) {
	for _, row := range [][4]int{
		{0, 0, 0, 0}, {0, 70, 70, 0}, {0, 50000, 50000, 0}, {0, 70, 69, 0}, {0, 110, 70, 0}, {0, 1, 0, 0}, {0, 50000, 0, 0},
		{0, 10, 160, 40}, {0, 70, 110, 40}, {0, 69, 111, 40}, {0, 71, 110, 39}, {0, 70, 109, 39}, {0, 70, 71, 1}, {0, 69, 70, 0}, {0, 109, 110, 1}, {0, 110, 111, 0},
		{0, 0, 70, 0}, {0, 110, 460, 0}, {0, 460, 461, 1}, {0, 461, 1070, 0}, {0, 461, 1071, 1}, {0, 0, 1000, 41}, {0, 100, 1100, 41}, {0, 80, 1080, 41},
		{1, 0, 1000, 280}, {1, 160, 360, 90}, {1, 221, 309, 88}, {1, 600, 900, 190}, {1, 300, 700, 50}, {1, 0, 3000, 840}, {1, 849, 1221, 2},
		{0, 0, 50000, 2050}, {1, 0, 50000, 14000}, {1, 49000, 50000, 280}, {0, 49461, 50000, 0}, {0, 49460, 50000, 1},
		{2, 0, 1000, 0}, {2, 0, 50000, 0}, {3, 0, 50000, 0}, {-1, 0, 50000, 0}, {-1, 0, 10, 0}, {6, 0, 1000, 0}, {math.MaxInt, 0, 50000, 0}, {math.MinInt, 0, 50000, 0},
	} {
		wantCycles(t, rightTables(), row[0], row[1], row[2], row[3])
	}
	wantCycles(t, leastTables(), 0, 0, 50000, 2777)
	wantCycles(t, frameTables(), 0, 0, 50000, 35800)
	wantCycles(t, frameTables(), 0, 2000, 3000, 1000)
	wantCycles(t, mostTables(), 5, 0, 50000, 3300)
	wantCycles(t, touchTables(), 2, 0, 50000, 1639)
	wantCycles(t, touchTables(), 0, 0, 50000, 6559)
	wantCycles(t, touchTables(), 0, 49993, 50000, 7)
	wantCycles(t, touchTables(), 1, 0, 50000, 0)
	wantCycles(t, roomTables(), 0, 0, 50000, 50*231+40)
}

func TestSlotStartsByNumbers(t *testing.T) {
	x := rightTables()
	wantStarts(t, x, 0, 0, 1000, 10, 400)
	wantStarts(t, x, 1, 0, 1000, 160, 600)
	wantStarts(t, x, 0, 10, 10)
	wantStarts(t, x, 0, 10, 9)
	wantStarts(t, x, 0, 11, 10)
	wantStarts(t, x, 0, 10, 11, 10)
	wantStarts(t, x, 0, 9, 10)
	wantStarts(t, x, 0, 11, 400)
	wantStarts(t, x, 0, 11, 401, 400)
	wantStarts(t, x, 0, 10, 400, 10)
	wantStarts(t, x, 1, 161, 600)
	wantStarts(t, x, 1, 161, 2161, 600, 1160, 1600, 2160)
	wantStarts(t, x, 1, 161, 2160, 600, 1160, 1600)
	wantStarts(t, x, 0, 401, 1011, 1010)
	wantStarts(t, x, 0, 49000, 50000, 49010, 49400)
	wantStarts(t, x, 1, 50000, 50000)
	wantStarts(t, x, 0, 50000, 0)
	for _, part := range []int{2, 3, -1, 6, math.MinInt, math.MaxInt} {
		wantStarts(t, x, part, 0, 50000)
		wantStarts(t, x, part, 0, 11)
	}
	wantStarts(t, touchTables(), 2, 0, 122, 0, 43, 61, 104)
	wantStarts(t, touchTables(), 2, 0, 123, 0, 43, 61, 104, 122)
	wantStarts(t, touchTables(), 0, 0, 123, 18, 79)
	wantStarts(t, touchTables(), 2, 49958, 50000, 49959)
	wantStarts(t, touchTables(), 0, 49958, 50000, 49977)
	wantStarts(t, leastTables(), 0, 0, 1, 0)
	wantStarts(t, frameTables(), 0, 0, 50000, 0, 5000, 10000, 15000, 20000, 25000, 30000, 35000, 40000, 45000)
	wantStarts(t, frameTables(), 0, 45001, 50000)
	wantNumber(t, "the starts of the least tables", len(impl.SlotStarts(leastTables(), 0, 0, 50000)), 2778)
	wantNumber(t, "the starts of full tables", len(impl.SlotStarts(mostTables(), 3, 0, 50000)), 30)
	wantNumber(t, "the starts of slots that touch", len(impl.SlotStarts(touchTables(), 2, 0, 50000)), 1639)
}

// From each edge to each other one, of the first two frames and of the last ones.
func TestSpansBetweenEdges(t *testing.T) {
	for _, maker := range []func() impl.Tables{leastTables, frameTables, touchTables, roomTables} {
		x := maker()
		chart := chartByHand(x)
		ends := []int{}
		for _, frame := range []int{0, 1, 50000 / x.Major} {
			for _, place := range edgesOf(x) {
				if c := frame*x.Major + place; isBetween(c, 0, 50000) {
					ends = append(ends, c)
				}
			}
		}
		for _, from := range ends {
			for _, to := range ends {
				if to-from < 2000 {
					wantSpan(t, x, chart, from, to)
				}
			}
		}
		wantSpan(t, x, chart, 0, 50000)
		wantSpan(t, x, chart, 1, 49999)
	}
}

func TestCyclesThatAreNone(t *testing.T) {
	for _, maker := range timeMakers() {
		x := maker()
		for _, c := range noCycles() {
			wantNoCycle(t, x, c)
			for part := -1; part <= len(x.Parts); part++ {
				wantNoSpan(t, x, part, c, c)
				wantNoSpan(t, x, part, c, 50000)
				wantNoSpan(t, x, part, 0, c)
				wantNoSpan(t, x, part, c, 0)
				wantNoSpan(t, x, part, 50000, c)
			}
		}
		for _, pair := range [][2]int{{-1, 50001}, {math.MinInt, math.MaxInt}, {math.MinInt, 50000}, {0, math.MaxInt}, {math.MaxInt, math.MinInt}, {-1, 49000}, {49000, 50001}} {
			wantNoSpan(t, x, 0, pair[0], pair[1])
		}
	}
}

func TestTimeOfTablesThatAreNotSound(t *testing.T) {
	for _, x := range wrongTables() {
		for _, c := range append(noCycles(), 0, 1, 10, 70, 160, 300, 660, 999, 1000, 1070, 49700, 50000) {
			wantNoCycle(t, x, c)
			wantNoSpan(t, x, 0, 0, c)
		}
		for part := -1; part <= 7; part++ {
			wantNoSpan(t, x, part, 0, 50000)
			wantNoSpan(t, x, part, 0, 1000)
			wantNoSpan(t, x, part, 10, 10)
			wantNoSpan(t, x, part, 1000, 0)
		}
	}
}

func TestTimeOfDisturbedTables(t *testing.T) {
	chance := rand.New(rand.NewSource(41))
	sound, wrong := 0, 0
	for range 400 {
		x := drawnTables(chance)
		disturb(chance, &x)
		c := chance.Intn(50001)
		if !soundByHand(x) {
			wrong++
			wantNoCycle(t, x, c)
			wantNoSpan(t, x, chance.Intn(len(x.Parts)), 0, c)
			continue
		}
		sound++
		chart := chartByHand(x)
		wantMoment(t, x, chart, c)
		wantSpan(t, x, chart, 0, c)
	}
	if sound < 50 || wrong < 50 {
		t.Error("too few of one kind:", sound, wrong)
	}
}

func TestTimeOfDrawnTables(t *testing.T) {
	chance := rand.New(rand.NewSource(42))
	for range 80 {
		x := drawnTables(chance)
		chart := chartByHand(x)
		frames := framesOf(x)
		for _, place := range edgesOf(x) {
			wantMoment(t, x, chart, frames[chance.Intn(len(frames))]*x.Major+place)
		}
		for range 60 {
			wantMoment(t, x, chart, chance.Intn(50100)-50)
		}
		for range 20 {
			from := chance.Intn(50001)
			wantSpan(t, x, chart, from, from+chance.Intn(50001-from))
			wantSpan(t, x, chart, from, min(from+chance.Intn(3*x.Major), 50000))
			wantSpan(t, x, chart, from, chance.Intn(50001))
		}
	}
}

// promiseTables are some of each sort, and drawn ones.
func promiseTables(seed int64, count int) []impl.Tables {
	chance := rand.New(rand.NewSource(seed))
	list := []impl.Tables{}
	for _, maker := range timeMakers() {
		list = append(list, maker())
	}
	for range count {
		list = append(list, drawnTables(chance))
	}
	return list
}

// Promise 15: the cycles of a frame are what partitions may begin steps at, what switches and guards take, and what nobody has.
func TestACycleOfAFrameIsOfOneSort(t *testing.T) {
	for _, x := range promiseTables(43, 6) {
		for _, frame := range []int{0, 50000/x.Major - 1} {
			border := frame * x.Major
			phases, begun := map[int]int{}, map[int]int{}
			for c := border; c < border+x.Major; c++ {
				phases[impl.PhaseAt(x, c)]++
				begun[impl.MayBegin(x, c)]++
			}
			run := 0
			for part := range x.Parts {
				wantNumber(t, "what a partition may begin at", begun[part], impl.ShareOf(x, part))
				wantCycles(t, x, part, border, border+x.Major, begun[part])
				run += begun[part]
			}
			wantNumber(t, "the running part", phases[impl.PhaseRun], run)
			wantNumber(t, "the switches", phases[impl.PhaseSwitch], x.Pad*len(x.Slots))
			wantNumber(t, "the guards", phases[impl.PhaseGuard], x.Guard*len(x.Slots))
			wantNumber(t, "what nobody has", phases[impl.PhaseFree], impl.GapOf(x))
			wantNumber(t, "a frame", run+(x.Pad+x.Guard)*len(x.Slots)+impl.GapOf(x), x.Major)
		}
	}
}

// Promise 15: what is so at a cycle is so a frame later.
func TestAFrameIsLikeTheNext(t *testing.T) {
	chance := rand.New(rand.NewSource(44))
	for _, x := range promiseTables(45, 30) {
		for range 60 {
			c := chance.Intn(50001 - x.Major)
			later := c + x.Major
			wantAtCycle(t, x, later, impl.SlotAt(x, c), impl.PhaseAt(x, c), impl.HolderAt(x, c), impl.MayBegin(x, c), impl.FrameOf(x, c)+1)
			wantNext(t, x, later, impl.NextSwitch(x, c)+x.Major)
		}
		for range 20 {
			from := chance.Intn(50001 - x.Major)
			to := from + chance.Intn(50001-x.Major-from)
			for part := range x.Parts {
				wantCycles(t, x, part, from+x.Major, to+x.Major, impl.CyclesOf(x, part, from, to))
				moved := impl.SlotStarts(x, part, from, to)
				for at := range moved {
					moved[at] += x.Major
				}
				wantStarts(t, x, part, from+x.Major, to+x.Major, moved...)
			}
		}
	}
}

// Promise 15: the core is held by a partition just in the running and the guarded part of a slot, and by that of the slot.
func TestTheCoreIsHeldInRunAndGuard(t *testing.T) {
	chance := rand.New(rand.NewSource(46))
	seen := map[int]int{}
	for _, x := range promiseTables(47, 30) {
		for range 200 {
			c := chance.Intn(50001)
			slot, phase, part := impl.SlotAt(x, c), impl.PhaseAt(x, c), -1
			if slot >= 0 {
				part = x.Slots[slot].Part
			}
			seen[phase]++
			if (slot < 0) != (phase == impl.PhaseFree) {
				t.Errorf("slot %d in phase %d at cycle %d", slot, phase, c)
			}
			holders := map[int]int{impl.PhaseFree: -1, impl.PhaseSwitch: -1, impl.PhaseRun: part, impl.PhaseGuard: part}
			wantNumber(t, "the holder", impl.HolderAt(x, c), holders[phase])
			begins := map[int]int{impl.PhaseFree: -1, impl.PhaseSwitch: -1, impl.PhaseRun: part, impl.PhaseGuard: -1}
			wantNumber(t, "who may begin", impl.MayBegin(x, c), begins[phase])
		}
	}
	for phase := range 4 {
		if seen[phase] < 100 {
			t.Error("too few cycles of a phase:", seen)
		}
	}
}

// What is counted from one cycle to another and from there on is what is counted over both; every start is the next switch of the cycle behind the one ahead of it.
func TestSpansAreTheirParts(t *testing.T) {
	chance := rand.New(rand.NewSource(48))
	for _, x := range promiseTables(49, 30) {
		for range 20 {
			ends := []int{chance.Intn(50001), chance.Intn(50001), chance.Intn(50001)}
			slices.Sort(ends)
			all := []int{}
			for part := range x.Parts {
				wantCycles(t, x, part, ends[0], ends[2], impl.CyclesOf(x, part, ends[0], ends[1])+impl.CyclesOf(x, part, ends[1], ends[2]))
				both := append(impl.SlotStarts(x, part, ends[0], ends[1]), impl.SlotStarts(x, part, ends[1], ends[2])...)
				wantStarts(t, x, part, ends[0], ends[2], both...)
				all = append(all, both...)
			}
			slices.Sort(all)
			next := impl.NextSwitch(x, ends[0])
			for _, start := range all[:min(len(all), 40)] {
				wantNumber(t, "the next start", start, next)
				next = impl.NextSwitch(x, start+1)
			}
		}
	}
}

// askedOfTime is all that the chapter tells of some cycles, as a text.
func askedOfTime(x impl.Tables) string {
	text := ""
	for _, c := range []int{-1, 0, 17, 70, 110, 460, 700, 1999, 25000, 49999, 50000, 50001} {
		text += fmt.Sprintln(c, impl.SlotAt(x, c), impl.PhaseAt(x, c), impl.HolderAt(x, c), impl.MayBegin(x, c), impl.FrameOf(x, c), impl.NextSwitch(x, c))
		for part := -1; part <= 8; part++ {
			text += fmt.Sprintln(impl.CyclesOf(x, part, 5, c), impl.SlotStarts(x, part, 5, min(c, 2000)))
		}
	}
	return text
}

// Promise 26: no list of the tables, and no list within a list, is written into, nor is the room behind it, nor is that looked at.
func TestTablesStayAsTheyWereInTime(t *testing.T) {
	for _, x := range tablesOfAllSorts(50) {
		given, told := roomyTables(x)
		before := told()
		answers := askedOfTime(given)
		if after := told(); after != before {
			t.Fatalf("%s\nbecame\n%s", before, after)
		}
		if askedOfTime(x) != answers {
			t.Fatalf("what lies behind a list was looked at: %+v", x)
		}
	}
}

// The list of starts is its own: what is written into it, up to its capacity, is seen neither in the tables nor in another answer.
func TestStartsAreAListOfTheirOwn(t *testing.T) {
	for _, x := range promiseTables(51, 20) {
		given, told := roomyTables(x)
		before := told()
		for part := -1; part <= len(x.Parts); part++ {
			for _, to := range []int{0, x.Major, 7000, 50000, 50001} {
				first, second := impl.SlotStarts(given, part, 0, to), impl.SlotStarts(given, part, 0, to)
				want := slices.Clone(second)
				scribbleAll(first, -7)
				if !slices.Equal(second, want) || !slices.Equal(impl.SlotStarts(given, part, 0, to), want) {
					t.Errorf("the starts of partition %d up to %d are shared by two answers", part, to)
				}
			}
		}
		if after := told(); after != before {
			t.Fatalf("%s\nbecame\n%s", before, after)
		}
	}
}
