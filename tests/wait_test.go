package tests

import (
	"fmt"
	"math"
	"math/rand"
	"slices"
	"testing"

	"loop.example/g00076/impl"
)

// waitsBy counts for each cycle of the first frames how many go by until the next one at which p may begin a step; nothing when that is none of what is told.
func waitsBy(begins []int, p int, cycles int) []int {
	waits, ahead := make([]int, len(begins)), -1
	for c := len(begins) - 1; c >= 0; c-- {
		if ahead >= 0 {
			ahead++
		}
		if begins[c] == p {
			ahead = 0
		}
		waits[c] = ahead
	}
	if ahead < 0 {
		return nil
	}
	return waits[:cycles]
}

// latencyByHand is for whatever it is given; it looks at each cycle of three frames of a chart of five.
func latencyByHand(x impl.Tables, p int) int {
	if !soundByHand(x) || p < 0 {
		return -1
	}
	begins := []int{}
	for _, now := range chartUpTo(x, 4*x.Major-1) {
		if now.phase != impl.PhaseRun {
			now.part = -1
		}
		begins = append(begins, now.part)
	}
	waits := waitsBy(begins, p, 3*x.Major)
	if waits == nil {
		return -1
	}
	return slices.Max(waits)
}

func wantLatency(t *testing.T, x impl.Tables, p int, want int) {
	t.Helper()
	if got := impl.Latency(x, p); got != want {
		t.Errorf("Latency of %d is %d, not %d, over frames of %d with %+v", p, got, want, x.Major, x.Slots)
	}
}

// wantLatencyByHand asks the model, and tells what it says.
func wantLatencyByHand(t *testing.T, x impl.Tables, p int) int {
	t.Helper()
	want := latencyByHand(x, p)
	wantLatency(t, x, p, want)
	return want
}

// beginsOf asks MayBegin of each cycle of so many frames, as far as there are cycles.
func beginsOf(x impl.Tables, frames int) []int {
	list := []int{}
	for c := range min(frames*x.Major, 50001) {
		list = append(list, impl.MayBegin(x, c))
	}
	return list
}

func TestLatencyByNumbers(t *testing.T) {
	for n, maker := range planMakers()[:6] {
		for p, want := range [][]int{{609, 370, -1}, {17}, {1707, 1707, 1707, 1707, 2963, 2963}, {1420}, {53, -1, 42}, {350, 907, -1}}[n] {
			wantLatency(t, maker(), p, want)
			wantNumber(t, fmt.Sprint("the model of tables ", n), latencyByHand(maker(), p), want)
		}
	}
	x := flowTables(2)
	x.Major = 60
	x.Slots = []impl.Slot{{Part: 0, Start: 0, Len: 40}, {Part: 1, Start: 40, Len: 20}}
	wantLatency(t, x, 0, 37)
	wantLatency(t, x, 1, 57)
}

// One slot alone, of each length and at each place: also at the frame's beginning, at its end, and as all of it.
func TestLatencyOfOneSlot(t *testing.T) {
	for length := 18; length <= 40; length++ {
		for major := length; major <= length+20; major++ {
			for start := range major - length + 1 {
				x := flowTables(2)
				x.Major, x.Slots = major, []impl.Slot{{Part: 1, Start: start, Len: length}}
				// All cycles of a frame but those in which a step may begin go by in one go.
				wantLatency(t, x, 1, major-(length-17))
				wantLatency(t, x, 0, -1)
			}
		}
	}
	for _, major := range []int{1000, 4999, 5000} {
		for _, start := range []int{0, 1, major - 19, major - 18} {
			x := flowTables(2)
			x.Major, x.Slots = major, []impl.Slot{{Part: 0, Start: start, Len: 18}}
			wantLatency(t, x, 0, major-1)
			wantLatencyByHand(t, x, 0)
		}
		x := flowTables(2)
		x.Major, x.Slots = major, []impl.Slot{{Part: 0, Start: 0, Len: major}}
		wantLatency(t, x, 0, 17)
	}
}

// Two slots, of one partition or of two, that touch or not; the longest wait is within the frame or across its border.
func TestLatencyOfTwoSlots(t *testing.T) {
	within, across := 0, 0
	for _, first := range []int{0, 1, 9} {
		for _, length := range []int{18, 19, 30} {
			for _, gap := range []int{0, 1, 2, 10, 11, 40} {
				for _, rest := range []int{0, 1, 9, 12, 30} {
					x := flowTables(3)
					x.Slots = []impl.Slot{{Part: 0, Start: first, Len: length}, {Part: 0, Start: first + length + gap, Len: 20}}
					x.Major = first + length + gap + 20 + rest
					want := 17 + max(gap, first+rest)
					if gap > first+rest {
						within++
					} else {
						across++
					}
					wantLatency(t, x, 0, want)
					wantNumber(t, "the model", latencyByHand(x, 0), want)
					// What stands between two runs of one partition is waited through, whoever has it.
					x.Slots[1].Part = 2
					wantLatency(t, x, 0, x.Major-(length-17))
					wantLatency(t, x, 1, -1)
					wantLatency(t, x, 2, x.Major-3)
				}
			}
		}
	}
	if within < 50 || across < 50 {
		t.Error("too few of one kind:", within, across)
	}
}

// Each pattern of four slots that touch, of two partitions.
func TestLatencyOfSlotsThatTouch(t *testing.T) {
	for pattern := range 16 {
		for _, rest := range []int{0, 1, 17, 50} {
			x := flowTables(2)
			x.Slots, x.Major = nil, 0
			for n := range 4 {
				length := 18 + 3*n
				x.Slots = append(x.Slots, impl.Slot{Part: pattern >> n & 1, Start: x.Major, Len: length})
				x.Major += length
			}
			x.Major += rest
			for p := range 2 {
				want := wantLatencyByHand(t, x, p)
				if (want == -1) != (pattern == 15*(1-p)) {
					t.Errorf("pattern %d: %d waits %d", pattern, p, want)
				}
			}
		}
	}
	for count := 1; count <= 16; count++ {
		x := roomySlots(1, count, 25, 0)
		x.Major = 25 * count
		wantLatency(t, x, 0, 17)
	}
}

func TestLatencyOfNoPartition(t *testing.T) {
	for _, maker := range cutMakers() {
		x := maker()
		for _, p := range append(oddInts(), -len(x.Parts), -2, -1, len(x.Parts), len(x.Parts)+1, 6, 7) {
			wantLatency(t, x, p, -1)
		}
	}
}

func TestLatencyOfTablesThatAreNotSound(t *testing.T) {
	for _, x := range wrongTables() {
		for _, p := range append(oddInts(), -1, 0, 1, 2, 3, 4, 5, 6, 7) {
			wantLatency(t, x, p, -1)
		}
	}
	for _, maker := range tableMakers() {
		x := maker()
		for _, number := range numbersIn(&x) {
			was := *number
			for _, n := range append(oddInts(), was-4, was-1, was+1, was+4) {
				*number = n
				wantLatencyByHand(t, x, 0)
			}
			*number = was
		}
	}
}

// Held against a count over what MayBegin tells, cycle by cycle, over several frames.
func TestLatencyIsCountedByMayBegin(t *testing.T) {
	for _, maker := range cutMakers() {
		x := maker()
		if x.Major > 1200 {
			continue
		}
		begins := beginsOf(x, 4)
		for p := range x.Parts {
			waits := waitsBy(begins, p, 3*x.Major)
			if waits == nil {
				wantLatency(t, x, p, -1)
				continue
			}
			wantLatency(t, x, p, slices.Max(waits))
			// Each frame has the longest wait: also one that begins in the last cycles of the frame.
			for frame := range 3 {
				wantLatency(t, x, p, slices.Max(waits[frame*x.Major:(frame+1)*x.Major]))
			}
		}
	}
}

func TestLatencyOfDrawnTables(t *testing.T) {
	chance := rand.New(rand.NewSource(2321))
	counts := map[bool]int{}
	for n := range 240 {
		x := drawnTables(chance)
		if n%2 == 0 {
			x = stretched(chance, x)
		}
		if n%3 == 0 {
			disturb(chance, &x)
		}
		for p := -1; p <= len(x.Parts); p++ {
			counts[wantLatencyByHand(t, x, p) < 0]++
		}
	}
	if counts[true] < 200 || counts[false] < 200 {
		t.Error("too few of one kind:", counts)
	}
}

// Promise 23: nobody waits longer than Latency, from whatever cycle on, and somebody waits just as long.
func TestNobodyWaitsLongerThanLatency(t *testing.T) {
	chance := rand.New(rand.NewSource(2322))
	for _, x := range promiseTables(2323, 30) {
		x = stretched(chance, x)
		frame := beginsOf(x, 1)
		for p := range x.Parts {
			most := impl.Latency(x, p)
			if !slices.Contains(frame, p) {
				wantNumber(t, "who has no slot waits", most, -1)
				continue
			}
			longest := 0
			for c := range x.Major {
				wait := 0
				for frame[(c+wait)%x.Major] != p {
					wait++
				}
				longest = max(longest, wait)
			}
			wantNumber(t, "the longest wait", longest, most)
			for range 10 {
				c := chance.Intn(50001 - most)
				if impl.CyclesOf(x, p, c, min(c+most+1, 50000)) == 0 && c+most < 50000 {
					t.Errorf("%d waits from %d on for more than %d", p, c, most)
				}
			}
		}
	}
}

// Who has one slot waits through all of a frame but its run.
func TestLatencyOfWhatIsPlanned(t *testing.T) {
	chance := rand.New(rand.NewSource(2324))
	planned := 0
	for _, x := range promiseTables(2325, 300) {
		needs := drawnNeeds(chance, x)
		y, is := impl.Plan(x, needs)
		if !is {
			continue
		}
		planned++
		for p, need := range needs {
			want := -1
			if need > 0 {
				want = x.Major - need
			}
			wantLatency(t, y, p, want)
		}
	}
	if planned < 100 {
		t.Error("too few were planned:", planned)
	}
}

// Where a slot is split a partition waits for a guard and a pad, which it never waits less than: so nobody's Latency is another behind a cut.
func TestLatencyBehindACut(t *testing.T) {
	chance := rand.New(rand.NewSource(2326))
	cuts := 0
	for _, x := range promiseTables(2327, 200) {
		x = stretched(chance, x)
		i, first := chance.Intn(len(x.Slots)), x.Pad+x.Guard+1+chance.Intn(30)
		split, isSplit := impl.Split(x, i, first)
		merged, isMerged := impl.Merge(x, i)
		even, isEven := impl.Even(x, x.Slots[i].Part, first)
		for p := range x.Parts {
			was := impl.Latency(x, p)
			for n, y := range []impl.Tables{split, merged, even} {
				if []bool{isSplit, isMerged, isEven}[n] {
					cuts++
					wantLatency(t, y, p, was)
				}
			}
			if was >= 0 && was < x.Pad+x.Guard {
				t.Errorf("%d waits %d alone, with %d and %d", p, was, x.Pad, x.Guard)
			}
		}
	}
	if cuts < 600 {
		t.Error("too few cuts:", cuts)
	}
}

// Promise 26: no list of the tables, and no list within a list, is written into, nor is the room behind it, nor is that looked at.
func TestLatencyWritesIntoNothing(t *testing.T) {
	for _, x := range tablesOfAllSorts(2328) {
		given, told := roomyTables(x)
		before := told()
		for _, p := range []int{math.MinInt, -1, 0, 1, 2, 3, 4, 5, 6, 7, 8, math.MaxInt} {
			wantNumber(t, "Latency with room behind", impl.Latency(given, p), impl.Latency(x, p))
		}
		if after := told(); after != before {
			t.Fatalf("%s\nbecame\n%s", before, after)
		}
	}
}
