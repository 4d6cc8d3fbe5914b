package tests

import (
	"fmt"
	"math"
	"math/rand"
	"slices"
	"testing"

	"loop.example/g00076/impl"
)

// splitByHand is for whatever it is given; it gives the slot's cycles to one half or to the other, one by one.
func splitByHand(x impl.Tables, i int, first int) (impl.Tables, bool) {
	if !soundByHand(x) || !isBetween(i, 0, len(x.Slots)-1) || len(x.Slots) >= 16 {
		return impl.Tables{}, false
	}
	whole := x.Slots[i]
	front, rest := impl.Slot{Part: whole.Part, Start: whole.Start}, impl.Slot{Part: whole.Part, Start: whole.Start}
	for k := range whole.Len {
		if k < first {
			front.Len, rest.Start = front.Len+1, rest.Start+1
		} else {
			rest.Len++
		}
	}
	if min(front.Len, rest.Len) <= x.Pad+x.Guard {
		return impl.Tables{}, false
	}
	y := copyTables(x)
	y.Slots = slices.Insert(slices.Delete(y.Slots, i, i+1), i, front, rest)
	return y, true
}

// mergeByHand is for whatever it is given; the second slot starts where the first ends when no cycle of the frame lies between them.
func mergeByHand(x impl.Tables, i int) (impl.Tables, bool) {
	if !soundByHand(x) || !isBetween(i, 0, len(x.Slots)-2) {
		return impl.Tables{}, false
	}
	a, b := x.Slots[i], x.Slots[i+1]
	holders, _ := frameByHand(x)
	if a.Part != b.Part || b.Start == 0 || holders[b.Start-1] != i {
		return impl.Tables{}, false
	}
	y := copyTables(x)
	y.Slots = slices.Delete(y.Slots, i, i+1)
	y.Slots[i] = impl.Slot{Part: a.Part, Start: a.Start}
	for _, n := range holders {
		if n == i || n == i+1 {
			y.Slots[i].Len++
		}
	}
	return y, true
}

// evenByHand is for whatever it is given; it cuts pieces off the front of each slot while there is room for one more.
func evenByHand(x impl.Tables, p int, cut int) (impl.Tables, bool) {
	if !soundByHand(x) || !isBetween(p, 0, len(x.Parts)-1) {
		return impl.Tables{}, false
	}
	y, room, lost := copyTables(x), 16-len(x.Slots), x.Pad+x.Guard
	y.Slots = nil
	for _, s := range x.Slots {
		for s.Part == p && room > 0 && isBetween(cut, lost+1, s.Len-lost-1) {
			y.Slots = append(y.Slots, impl.Slot{Part: p, Start: s.Start, Len: cut})
			s.Start, s.Len, room = s.Start+cut, s.Len-cut, room-1
		}
		y.Slots = append(y.Slots, s)
	}
	return y, true
}

// wantSplit holds Split against the model; a slot that is split must be as before once it is merged. It tells whether it is split.
func wantSplit(t *testing.T, what string, x impl.Tables, i int, first int) bool {
	t.Helper()
	y, is := impl.Split(x, i, first)
	want, wantIs := splitByHand(x, i, first)
	what = fmt.Sprintf("%s: Split of %d at %d", what, i, first)
	wantTables(t, what, y, is, want, wantIs)
	if !is {
		return false
	}
	lost := x.Pad + x.Guard
	for p := range x.Parts {
		share := impl.ShareOf(x, p)
		if p == x.Slots[i].Part {
			share -= lost
		}
		wantShare(t, y, p, share)
	}
	wantGap(t, y, impl.GapOf(x))
	back, isBack := impl.Merge(y, i)
	wantTables(t, what+", merged", back, isBack, x, true)
	return true
}

// wantMerge holds Merge against the model; slots that are merged must be as before once they are split. It tells whether they are merged.
func wantMerge(t *testing.T, what string, x impl.Tables, i int) bool {
	t.Helper()
	y, is := impl.Merge(x, i)
	want, wantIs := mergeByHand(x, i)
	what = fmt.Sprintf("%s: Merge of %d", what, i)
	wantTables(t, what, y, is, want, wantIs)
	if !is {
		return false
	}
	wantShare(t, y, x.Slots[i].Part, impl.ShareOf(x, x.Slots[i].Part)+x.Pad+x.Guard)
	wantGap(t, y, impl.GapOf(x))
	back, isBack := impl.Split(y, i, x.Slots[i].Len)
	wantTables(t, what+", split", back, isBack, x, true)
	return true
}

// evenBySteps is what Even says in words: each slot that Split can split is split there and then.
func evenBySteps(x impl.Tables, p int, cut int) impl.Tables {
	for i := 0; i < len(x.Slots); i++ {
		if y, is := impl.Split(x, i, cut); is && x.Slots[i].Part == p {
			x = y
		}
	}
	return x
}

func slotsOfOthers(x impl.Tables, p int) []impl.Slot {
	return slices.DeleteFunc(slices.Clone(x.Slots), func(s impl.Slot) bool { return s.Part == p })
}

// wantEven holds Even against the model and against Split one by one. It tells how many slots came of it.
func wantEven(t *testing.T, what string, x impl.Tables, p int, cut int) int {
	t.Helper()
	y, is := impl.Even(x, p, cut)
	want, wantIs := evenByHand(x, p, cut)
	what = fmt.Sprintf("%s: Even of %d by %d", what, p, cut)
	wantTables(t, what, y, is, want, wantIs)
	if !is {
		return 0
	}
	if steps := evenBySteps(x, p, cut); !sameTables(steps, y) {
		t.Errorf("%s: step by step it is %v, not %v", what, steps.Slots, y.Slots)
	}
	if others := slotsOfOthers(y, p); !slices.Equal(others, slotsOfOthers(x, p)) {
		t.Errorf("%s: the slots of others are %v", what, others)
	}
	if again, isAgain := impl.Even(y, p, cut); !isAgain || !sameTables(again, y) {
		t.Errorf("%s: once more it is %v, not %v", what, again.Slots, y.Slots)
	}
	return len(y.Slots)
}

func wantSlots(t *testing.T, what string, x impl.Tables, is bool, want ...impl.Slot) {
	t.Helper()
	if !is || !slices.Equal(x.Slots, want) {
		t.Errorf("%s: %v and %v, not %v", what, is, x.Slots, want)
	}
}

// cutsOf are beside the least and the greatest cut of a slot, and far from both; some would come back between them in a narrower number.
func cutsOf(x impl.Tables, length int) []int {
	lost := x.Pad + x.Guard
	list := []int{-length, -lost, -1, 0, 1, lost - 1, lost, lost + 1, lost + 2, length / 2, length - lost - 2, length - lost - 1, length - lost, length - lost + 1, length - 1, length, length + 1}
	list = append(list, 1<<32+lost+1, -1<<32+lost+1, 1<<16+lost+1, math.MinInt+lost, math.MinInt+lost+1, math.MinInt+length, math.MaxInt-lost, math.MaxInt-length)
	return append(list, oddInts()...)
}

// roomySlots have so many slots of that length, with as much room between them, of each partition in turn.
func roomySlots(parts int, count int, length int, room int) impl.Tables {
	x := flowTables(parts)
	x.Slots, x.Major = nil, 5000
	for n := range count {
		x.Slots = append(x.Slots, impl.Slot{Part: n % parts, Start: n * (length + room), Len: length})
	}
	return x
}

// pairTables have slots of one partition that touch, some that do not, and some of two partitions that touch.
func pairTables() impl.Tables {
	x := rightTables()
	x.Costs, x.Shape, x.Chans, x.Pad, x.Guard = impl.Costs{Base: 1}, impl.Shape{Sets: 1, Ways: 1, Line: 4}, nil, 16, 1
	x.Slots = []impl.Slot{{Part: 1, Start: 0, Len: 40}, {Part: 1, Start: 40, Len: 18}, {Part: 1, Start: 58, Len: 30}, {Part: 2, Start: 88, Len: 20}, {Part: 2, Start: 109, Len: 20}, {Part: 0, Start: 129, Len: 20}, {Part: 0, Start: 149, Len: 851}}
	return x
}

func cutMakers() []func() impl.Tables {
	return append(planMakers(), pairTables, func() impl.Tables { return roomySlots(3, 5, 300, 7) })
}

// stretched has some of the slots of sound tables, each with some of the room behind it or with all of it; some have the partition of the slot ahead.
func stretched(chance *rand.Rand, x impl.Tables) impl.Tables {
	x = copyTables(x)
	x.Slots = slices.DeleteFunc(x.Slots, func(s impl.Slot) bool { return s != x.Slots[0] && chance.Intn(2) == 0 })
	for n := range x.Slots {
		s, end := &x.Slots[n], x.Major
		if n+1 < len(x.Slots) {
			end = x.Slots[n+1].Start
		}
		if n > 0 && chance.Intn(3) == 0 {
			s.Part = x.Slots[n-1].Part
		}
		room := end - s.Start - s.Len
		s.Len += []int{0, chance.Intn(room + 1), room}[chance.Intn(3)]
	}
	return x
}

func TestCutMakers(t *testing.T) {
	for n, maker := range cutMakers() {
		wantSound(t, fmt.Sprint("tables ", n), maker(), true)
	}
}

func TestSplitByNumbers(t *testing.T) {
	x := rightTables()
	a, b, c, d := x.Slots[0], x.Slots[1], x.Slots[2], x.Slots[3]
	y, is := impl.Split(x, 3, 111)
	wantSlots(t, "the last", y, is, a, b, c, impl.Slot{Part: 1, Start: 600, Len: 111}, impl.Slot{Part: 1, Start: 711, Len: 189})
	y, is = impl.Split(x, 3, 150)
	wantSlots(t, "the last in two alike", y, is, a, b, c, impl.Slot{Part: 1, Start: 600, Len: 150}, impl.Slot{Part: 1, Start: 750, Len: 150})
	y, is = impl.Split(x, 3, 189)
	wantSlots(t, "the last at its last place", y, is, a, b, c, impl.Slot{Part: 1, Start: 600, Len: 189}, impl.Slot{Part: 1, Start: 789, Len: 111})
	for _, first := range []int{math.MinInt, -111, -1, 0, 1, 110, 190, 299, 300, 301, 1000, math.MaxInt} {
		if wantSplit(t, "the last", x, 3, first) {
			t.Error("the last is split at", first)
		}
	}
	x = changed(rightTables, func(x *impl.Tables) { x.Slots[0].Start, x.Slots[0].Len, x.Slots[1].Len = 0, 160, 240 })
	x.Pad, x.Guard = 48, 45
	wantSound(t, "a lesser pad and guard", x, true)
	a, b, c, d = x.Slots[0], x.Slots[1], x.Slots[2], x.Slots[3]
	y, is = impl.Split(x, 1, 100)
	wantSlots(t, "one in the midst", y, is, a, impl.Slot{Part: 1, Start: 160, Len: 100}, impl.Slot{Part: 1, Start: 260, Len: 140}, c, d)
	x.Slots[0].Len = 190
	x.Slots[1].Start, x.Slots[1].Len = 190, 210
	b = x.Slots[1]
	y, is = impl.Split(x, 0, 95)
	wantSlots(t, "the first", y, is, impl.Slot{Part: 0, Start: 0, Len: 95}, impl.Slot{Part: 0, Start: 95, Len: 95}, b, c, d)
	y, is = impl.Split(x, 0, 94)
	wantSlots(t, "the first at its first place", y, is, impl.Slot{Part: 0, Start: 0, Len: 94}, impl.Slot{Part: 0, Start: 94, Len: 96}, b, c, d)
	y, is = impl.Split(x, 0, 96)
	wantSlots(t, "the first at its last place", y, is, impl.Slot{Part: 0, Start: 0, Len: 96}, impl.Slot{Part: 0, Start: 96, Len: 94}, b, c, d)
	for _, first := range []int{93, 97, 190} {
		if wantSplit(t, "the first", x, 0, first) {
			t.Error("the first is split at", first)
		}
	}
}

// Each slot at each first from below 0 to beyond its end.
func TestSplitAtEachFirst(t *testing.T) {
	for _, maker := range []func() impl.Tables{pairTables, func() impl.Tables { return slotsOf(3) }, func() impl.Tables { return roomySlots(3, 5, 60, 3) }, leastTables} {
		x := maker()
		for i, s := range x.Slots {
			for first := -20; first <= min(s.Len+20, 120); first++ {
				is := wantSplit(t, "each first", x, i, first)
				if is != (first > x.Pad+x.Guard && s.Len-first > x.Pad+x.Guard) {
					t.Errorf("slot %d of %d cycles at %d: %v", i, s.Len, first, is)
				}
			}
		}
	}
}

// The first, the last and each other slot at the edges of what can be cut, and the slots that are none.
func TestSplitAtTheEdges(t *testing.T) {
	counts := map[bool]int{}
	for n, maker := range cutMakers() {
		x, what := maker(), fmt.Sprint("tables ", n)
		for i, s := range x.Slots {
			for _, first := range cutsOf(x, s.Len) {
				counts[wantSplit(t, what, x, i, first)]++
			}
		}
		for _, i := range append(oddInts(), -len(x.Slots), -2, -1, len(x.Slots), len(x.Slots)+1, 15, 16, 17) {
			if isBetween(i, 0, len(x.Slots)-1) {
				continue
			}
			for _, first := range cutsOf(x, x.Slots[0].Len) {
				if wantSplit(t, what, x, i, first) {
					t.Errorf("%s: slot %d is split", what, i)
				}
			}
		}
	}
	if counts[true] < 80 || counts[false] < 500 {
		t.Error("too few of one kind:", counts)
	}
}

// With one slot less than MaxSlots there is room for one more; with MaxSlots there is none, wherever it is.
func TestSplitByCountOfSlots(t *testing.T) {
	for count := 1; count <= 16; count++ {
		for _, x := range []impl.Tables{roomySlots(1, count, 60, 0), roomySlots(3, count, 100, 7)} {
			wantSound(t, "slots", x, true)
			for i := range count {
				for _, first := range []int{18, 30, x.Slots[0].Len - 18} {
					if wantSplit(t, "slots", x, i, first) != (count < 16) {
						t.Errorf("slot %d of %d at %d", i, count, first)
					}
				}
				if wantSplit(t, "slots", x, i, 17) || wantSplit(t, "slots", x, i, x.Slots[0].Len-17) {
					t.Errorf("slot %d of %d is split where it is too short", i, count)
				}
			}
		}
	}
}

// What stands ahead of the slot stays where it is, and what stands behind it moves up one place.
func TestSplitMovesTheSlotsBehind(t *testing.T) {
	for count := 1; count < 16; count++ {
		x := roomySlots(4, count, 90, 5)
		for i := range count {
			y, is := impl.Split(x, i, 40)
			if !is || len(y.Slots) != count+1 {
				t.Fatalf("slot %d of %d: %v and %v", i, count, is, y.Slots)
			}
			for k := range count {
				switch {
				case k < i && y.Slots[k] != x.Slots[k]:
					t.Errorf("slot %d became %v, not %v", k, y.Slots[k], x.Slots[k])
				case k > i && y.Slots[k+1] != x.Slots[k]:
					t.Errorf("slot %d moved up is %v, not %v", k, y.Slots[k+1], x.Slots[k])
				}
			}
			if want := [2]impl.Slot{{Part: i % 4, Start: 95 * i, Len: 40}, {Part: i % 4, Start: 95*i + 40, Len: 50}}; [2]impl.Slot(y.Slots[i:i+2]) != want {
				t.Errorf("slot %d is %v, not %v", i, y.Slots[i:i+2], want)
			}
		}
	}
}

func TestMergeByNumbers(t *testing.T) {
	x := pairTables()
	wantSound(t, "pairs", x, true)
	y, is := impl.Merge(x, 0)
	wantSlots(t, "the first two", y, is, append([]impl.Slot{{Part: 1, Start: 0, Len: 58}}, x.Slots[2:]...)...)
	y, is = impl.Merge(y, 0)
	wantSlots(t, "the first three", y, is, append([]impl.Slot{{Part: 1, Start: 0, Len: 88}}, x.Slots[3:]...)...)
	y, is = impl.Merge(x, 1)
	wantSlots(t, "two in the midst", y, is, append([]impl.Slot{x.Slots[0], {Part: 1, Start: 40, Len: 48}}, x.Slots[3:]...)...)
	y, is = impl.Merge(x, 5)
	wantSlots(t, "the last two", y, is, append(slices.Clone(x.Slots[:5]), impl.Slot{Part: 0, Start: 129, Len: 871})...)
	for i, what := range map[int]string{2: "of two partitions", 3: "a gap of one cycle", 4: "of two partitions once more", 6: "the last alone", 7: "one behind the last", -1: "below 0"} {
		if wantMerge(t, what, x, i) {
			t.Error("merged:", what)
		}
	}
}

// Two slots that touch, that are one cycle apart or more, of one partition and of two, in the midst of others.
func TestMergeByGapAndPartition(t *testing.T) {
	for gap := range 12 {
		for _, first := range []int{0, 1, 2} {
			for _, second := range []int{0, 1, 2} {
				x := flowTables(3)
				x.Slots, x.Major = []impl.Slot{{Part: 1, Start: 2, Len: 20}, {Part: first, Start: 30, Len: 21}, {Part: second, Start: 51 + gap, Len: 22}, {Part: 2, Start: 90, Len: 23}}, 120
				if wantMerge(t, "by gap", x, 1) != (gap == 0 && first == second) {
					t.Errorf("%d and %d with a gap of %d", first, second, gap)
				}
				if wantMerge(t, "by gap", x, 0) || wantMerge(t, "by gap", x, 2) || wantMerge(t, "by gap", x, 3) {
					t.Errorf("merged beside %d and %d with a gap of %d", first, second, gap)
				}
			}
		}
	}
}

func TestMergeOfEachSlot(t *testing.T) {
	counts := map[bool]int{}
	for n, maker := range cutMakers() {
		x, what := maker(), fmt.Sprint("tables ", n)
		for _, i := range append(oddInts(), -2, -1, 0, 1, 2, 3, 4, 5, 6, 7, 8, 13, 14, 15, 16, 17, len(x.Slots)-2, len(x.Slots)-1, len(x.Slots), -len(x.Slots)) {
			is := wantMerge(t, what, x, i)
			if is && !isBetween(i, 0, len(x.Slots)-2) {
				t.Errorf("%s: slot %d is merged", what, i)
			}
			counts[is]++
		}
	}
	// Slots of one partition alone, all of which touch: full tables too.
	for count := 1; count <= 16; count++ {
		x := roomySlots(1, count, 20, 0)
		for i := -1; i <= 16; i++ {
			if wantMerge(t, "all touch", x, i) != isBetween(i, 0, count-2) {
				t.Errorf("slot %d of %d", i, count)
			}
		}
	}
	if counts[true] < 10 || counts[false] < 100 {
		t.Error("too few of one kind:", counts)
	}
}

// The two slots on both sides of a frame's border touch in time, and are still not merged.
func TestMergeStaysWithinAFrame(t *testing.T) {
	x := roomySlots(1, 3, 20, 0)
	x.Major = 60
	wantSound(t, "a full frame", x, true)
	if wantMerge(t, "the last with the first", x, 2) {
		t.Error("merged")
	}
}

// Promise 23: a slot that is split and merged is as before, and so is one that is merged and split again at the same cycle.
func TestSplitAndMergeLeadBack(t *testing.T) {
	chance := rand.New(rand.NewSource(2311))
	splits, merges := 0, 0
	for _, x := range promiseTables(2312, 300) {
		x = stretched(chance, x)
		wantSound(t, "stretched", x, true)
		for range 12 {
			i := chance.Intn(len(x.Slots))
			first := x.Pad + x.Guard + chance.Intn(40)
			if y, is := impl.Split(x, i, first); is {
				splits++
				back, isBack := impl.Merge(y, i)
				wantTables(t, "split and merged", back, isBack, x, true)
				x = y
			}
			i = chance.Intn(len(x.Slots))
			if y, is := impl.Merge(x, i); is {
				merges++
				back, isBack := impl.Split(y, i, x.Slots[i].Len)
				wantTables(t, "merged and split", back, isBack, x, true)
				x = y
			}
		}
	}
	if splits < 300 || merges < 100 {
		t.Error("too few:", splits, merges)
	}
}

func TestEvenByNumbers(t *testing.T) {
	x := pairTables()
	s := x.Slots
	y, is := impl.Even(x, 1, 20)
	wantSlots(t, "one that is split once", y, is, append([]impl.Slot{{Part: 1, Start: 0, Len: 20}, {Part: 1, Start: 20, Len: 20}}, s[1:]...)...)
	y, is = impl.Even(x, 1, 18)
	wantSlots(t, "the first cut that does", y, is, append([]impl.Slot{{Part: 1, Start: 0, Len: 18}, {Part: 1, Start: 18, Len: 22}}, s[1:]...)...)
	y, is = impl.Even(x, 1, 22)
	wantSlots(t, "the last cut that does", y, is, append([]impl.Slot{{Part: 1, Start: 0, Len: 22}, {Part: 1, Start: 22, Len: 18}}, s[1:]...)...)
	for _, cut := range []int{math.MinInt, -18, 0, 1, 16, 17, 23, 24, 40, 41, 1000, math.MaxInt} {
		y, is = impl.Even(x, 1, cut)
		wantSlots(t, "nothing is split", y, is, s...)
	}
	y, is = impl.Even(x, 2, 18)
	wantSlots(t, "slots that are too short", y, is, s...)
	y, is = impl.Even(x, 0, 300)
	wantSlots(t, "split twice", y, is, append(slices.Clone(s[:6]), impl.Slot{Part: 0, Start: 149, Len: 300}, impl.Slot{Part: 0, Start: 449, Len: 300}, impl.Slot{Part: 0, Start: 749, Len: 251})...)
	y, is = impl.Even(x, 0, 100)
	want := slices.Clone(s[:6])
	for n := range 8 {
		want = append(want, impl.Slot{Part: 0, Start: 149 + 100*n, Len: 100})
	}
	wantSlots(t, "often", y, is, append(want, impl.Slot{Part: 0, Start: 949, Len: 51})...)
	y, is = impl.Even(x, 0, 40)
	want = slices.Clone(s[:6])
	for n := range 9 {
		want = append(want, impl.Slot{Part: 0, Start: 149 + 40*n, Len: 40})
	}
	wantSlots(t, "until the list is full", y, is, append(want, impl.Slot{Part: 0, Start: 509, Len: 491})...)
}

// A slot that a cut leaves just enough of, and one cycle less and more.
func TestEvenByLengthOfTheSlot(t *testing.T) {
	for length := 18; length <= 330; length++ {
		x := roomySlots(2, 2, length, 0)
		for _, cut := range []int{16, 17, 18, 19, 25, 60, length - 18, length - 17} {
			// As many times as the cut goes into what is ahead of the last 18 cycles.
			times := 0
			if cut > 17 {
				times = min(max(length-18, 0)/cut, 14)
			}
			wantNumber(t, fmt.Sprintf("the slots of %d cycles by %d", length, cut), wantEven(t, "by length", x, 1, cut), 2+times)
		}
	}
}

// Full tables stay as they are; with room for some splits the slots ahead are split, and what stands behind them stays.
func TestEvenUntilTheListIsFull(t *testing.T) {
	for count := 1; count <= 16; count++ {
		x := roomySlots(1, count, 100, 3)
		got := wantEven(t, "by count", x, 0, 20)
		wantNumber(t, "the slots", got, min(5*count, 16))
		y, _ := impl.Even(x, 0, 20)
		if last := y.Slots[len(y.Slots)-1]; count > 4 && last != x.Slots[count-1] {
			t.Errorf("the last of %d slots became %v", count, last)
		}
		z := roomySlots(3, count, 120, 3)
		for p := range 3 {
			for _, cut := range []int{18, 20, 51, 52, 85, 102, 103} {
				wantEven(t, "three partitions", z, p, cut)
			}
		}
	}
	x := roomySlots(1, 13, 100, 0)
	y, is := impl.Even(x, 0, 20)
	want := []impl.Slot{{Start: 0, Len: 20}, {Start: 20, Len: 20}, {Start: 40, Len: 20}, {Start: 60, Len: 40}}
	wantSlots(t, "room for three", y, is, append(want, x.Slots[1:]...)...)
	x = roomySlots(1, 15, 100, 0)
	y, is = impl.Even(x, 0, 60)
	wantSlots(t, "room for one", y, is, append([]impl.Slot{{Start: 0, Len: 60}, {Start: 60, Len: 40}}, x.Slots[1:]...)...)
	x.Slots[0].Part = 1
	x.Parts = append(x.Parts, partsOf(6).Parts[5])
	x.Parts[1].Entry, x.Parts[1].Windows = 128, []impl.Window{win(128, 4, 4)}
	y, is = impl.Even(x, 0, 60)
	wantSlots(t, "room for one, behind another's", y, is, append([]impl.Slot{x.Slots[0], {Start: 100, Len: 60}, {Start: 160, Len: 40}}, x.Slots[2:]...)...)
}

func TestEvenOfEachPartitionAndCut(t *testing.T) {
	split, stay := 0, 0
	for n, maker := range cutMakers() {
		x, what := maker(), fmt.Sprint("tables ", n)
		cuts := []int{}
		for _, s := range x.Slots {
			cuts = append(cuts, cutsOf(x, s.Len)...)
		}
		slices.Sort(cuts)
		for p := range x.Parts {
			for _, cut := range slices.Compact(slices.Clone(cuts)) {
				if wantEven(t, what, x, p, cut) > len(x.Slots) {
					split++
				} else {
					stay++
				}
			}
		}
		for _, p := range append(oddInts(), -2, -1, len(x.Parts), len(x.Parts)+1, 6, 7) {
			for _, cut := range []int{-1, 0, 18, x.Pad + x.Guard + 1, x.Major, math.MaxInt} {
				wantNumber(t, fmt.Sprint(what, ": slots of no partition ", p), wantEven(t, what, x, p, cut), 0)
			}
		}
	}
	if split < 60 || stay < 1000 {
		t.Error("too few of one kind:", split, stay)
	}
}

// A cut that is greater than every slot leaves all as it is, and beside a partition without a slot too.
func TestEvenThatSplitsNothing(t *testing.T) {
	for n, maker := range cutMakers() {
		x, what := maker(), fmt.Sprint("tables ", n)
		for p := range x.Parts {
			for _, cut := range append(oddInts(), x.Major, 5000, 5001, x.Pad+x.Guard, 0, -1) {
				if isBetween(cut, x.Pad+x.Guard+1, x.Major-1) {
					continue
				}
				y, is := impl.Even(x, p, cut)
				wantTables(t, what, y, is, x, true)
			}
		}
	}
	y, is := impl.Even(rightTables(), 2, 111)
	wantTables(t, "no slot", y, is, rightTables(), true)
}

func TestCutsOfTablesThatAreNotSound(t *testing.T) {
	for what, x := range wrongTables() {
		for i := -1; i <= 17; i++ {
			for _, first := range []int{math.MinInt, -1, 0, 18, 111, 112, 150, 190, math.MaxInt} {
				if wantSplit(t, what, x, i, first) || wantMerge(t, what, x, i) || wantEven(t, what, x, i, first) > 0 {
					t.Errorf("%s: cut at %d, %d", what, i, first)
				}
			}
		}
	}
	// Their slots could be split or merged if all else were right.
	for _, x := range []impl.Tables{pairTables(), roomySlots(1, 4, 100, 0)} {
		for _, number := range numbersIn(&x) {
			was := *number
			for _, n := range append(oddInts(), was-4, was-1, was+1, was+4) {
				*number = n
				wantSplit(t, "one number changed", x, 0, 20)
				wantMerge(t, "one number changed", x, 0)
				wantEven(t, "one number changed", x, 0, 20)
			}
			*number = was
		}
	}
}

func TestCutsOfDrawnTables(t *testing.T) {
	chance := rand.New(rand.NewSource(2313))
	counts := [3]map[bool]int{{}, {}, {}}
	for n := range 600 {
		x := stretched(chance, drawnTables(chance))
		if n%3 == 0 {
			disturb(chance, &x)
		}
		for range 4 {
			i := chance.Intn(len(x.Slots)+2) - 1
			first := x.Pad + x.Guard + chance.Intn(60) - 5
			counts[0][wantSplit(t, "drawn", x, i, first)]++
			counts[1][wantMerge(t, "drawn", x, i)]++
			counts[2][wantEven(t, "drawn", x, chance.Intn(len(x.Parts)+1), first) > len(x.Slots)]++
		}
	}
	for n, count := range counts {
		if count[true] < 200 || count[false] < 200 {
			t.Error("too few of one kind:", n, counts)
		}
	}
}

// Promise 26: no list of the tables, and no list within a list, is written into, nor is the room behind it, nor is that looked at.
func TestCutsWriteIntoNothing(t *testing.T) {
	for _, x := range append(tablesOfAllSorts(2314), pairTables(), roomySlots(1, 4, 100, 0), roomySlots(3, 15, 100, 0), roomySlots(1, 16, 100, 0)) {
		given, told := roomyTables(x)
		before := told()
		for _, i := range []int{-1, 0, len(x.Slots) - 2, len(x.Slots) - 1, len(x.Slots)} {
			for _, first := range []int{0, x.Pad + x.Guard + 1} {
				wantSplit(t, "with room behind", given, i, first)
				wantEven(t, "with room behind", given, i, first)
			}
			wantMerge(t, "with room behind", given, i)
			if after := told(); after != before {
				t.Fatalf("%s\nbecame\n%s", before, after)
			}
		}
	}
}

// Every list of an answer is its own, also where the answer is just what was given.
func TestListsOfCutsAreTheirOwn(t *testing.T) {
	counts := [3]int{}
	list := append(promiseTables(2315, 40), pairTables(), roomySlots(1, 4, 100, 0), roomySlots(3, 15, 100, 0), roomySlots(1, 16, 100, 0))
	for n, x := range list {
		what := fmt.Sprint("tables ", n)
		for i := -1; i <= len(x.Slots); i++ {
			for _, first := range []int{0, x.Pad + x.Guard + 1, x.Pad + x.Guard + 20} {
				if wantTablesApart(t, what+", Split", x, func(x impl.Tables) (impl.Tables, bool) { return impl.Split(x, i, first) }) {
					counts[0]++
				}
				if wantTablesApart(t, what+", Even", x, func(x impl.Tables) (impl.Tables, bool) { return impl.Even(x, i, first) }) {
					counts[1]++
				}
			}
			if wantTablesApart(t, what+", Merge", x, func(x impl.Tables) (impl.Tables, bool) { return impl.Merge(x, i) }) {
				counts[2]++
			}
		}
	}
	if min(counts[0], counts[1], counts[2]) < 20 {
		t.Error("too few answers:", counts)
	}
}
