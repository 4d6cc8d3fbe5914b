package tests

import (
	"fmt"
	"math"
	"math/rand"
	"regexp"
	"slices"
	"strings"
	"testing"

	"loop.example/g00076/impl"
)

// rightTables have something of each kind, a partition without a slot, and gaps in memory and in the frame.
func rightTables() impl.Tables {
	return impl.Tables{
		Mem: 1024, Shape: impl.Shape{Sets: 2, Ways: 2, Line: 8}, Tlb: 4,
		Costs: impl.Costs{Base: 1, Mul: 2, Mem: 3, Miss: 4, Walk: 5, Trap: 6, Line: 7},
		Pad:   60, Guard: 50, Major: 1000,
		Parts: []impl.PartRow{
			{Name: "a", Entry: 8, Windows: []impl.Window{win(0, 64, 5), win(128, 32, 3)}},
			{Name: "net", Entry: 256, Policy: impl.Policy{Kind: impl.PolicyRestart, Most: 3}, Windows: []impl.Window{win(256, 128, 7)}},
			{Name: "logwrite", Entry: 516, Policy: impl.Policy{Kind: impl.PolicySkip}, Windows: []impl.Window{win(448, 64, 3), win(512, 64, 4), win(704, 4, 1)}},
		},
		Devs:  []int{1, 0, 1},
		Chans: []impl.ChanRow{{Kind: impl.ChanSample, From: 0, To: 1}, {Kind: impl.ChanQueue, From: 2, To: 0, Depth: 3}},
		Slots: []impl.Slot{{Part: 0, Start: 10, Len: 150}, {Part: 1, Start: 160, Len: 200}, {Part: 0, Start: 400, Len: 111}, {Part: 1, Start: 600, Len: 300}},
	}
}

// leastTables have the least number that is right wherever there is one.
func leastTables() impl.Tables {
	return impl.Tables{
		Mem: 64, Shape: impl.Shape{Sets: 1, Ways: 1, Line: 4}, Tlb: 1, Costs: impl.Costs{Base: 1}, Pad: 16, Guard: 1, Major: 18,
		Parts: []impl.PartRow{{Name: "a", Windows: []impl.Window{win(0, 4, 4)}}},
		Slots: []impl.Slot{{Len: 18}},
	}
}

// mostTables have as many of everything as there may be, the frame full but for its last 8 cycles, and a pad and a guard that only just do.
func mostTables() impl.Tables {
	x := impl.Tables{Mem: 2048, Shape: impl.Shape{Sets: 16, Ways: 4, Line: 32}, Tlb: 8, Costs: impl.Costs{Base: 1, Line: 1}, Pad: 144, Guard: 3, Major: 5000}
	for p := range 6 {
		row := impl.PartRow{Name: strings.Repeat(string(rune('u'+p)), 8), Entry: 320*p + 76, Policy: impl.Policy{Kind: impl.PolicyRestart, Most: 100}}
		for w := range 4 {
			row.Windows = append(row.Windows, win(320*p+80*w, 80, 7))
		}
		x.Parts = append(x.Parts, row)
	}
	for n := range 8 {
		x.Devs = append(x.Devs, n%6)
		x.Chans = append(x.Chans, impl.ChanRow{Kind: impl.ChanQueue, From: n % 6, To: (n + 1) % 6, Depth: 8})
	}
	for n := range 16 {
		x.Slots = append(x.Slots, impl.Slot{Part: n % 6, Start: 312 * n, Len: 312})
	}
	return x
}

// frameTables have one slot that is all of a frame of 5000 cycles, and a pad and a guard that do for every right costs.
func frameTables() impl.Tables {
	x := leastTables()
	x.Pad, x.Guard, x.Major = 1000, 420, 5000
	x.Slots = []impl.Slot{{Len: 5000}}
	return x
}

func tableMakers() []func() impl.Tables {
	return []func() impl.Tables{rightTables, leastTables, mostTables, frameTables}
}

// changed is what a maker gives, with one thing changed.
func changed(maker func() impl.Tables, change func(x *impl.Tables)) impl.Tables {
	x := maker()
	change(&x)
	return x
}

func copyTables(x impl.Tables) impl.Tables {
	x.Parts = slices.Clone(x.Parts)
	for p := range x.Parts {
		x.Parts[p].Windows = slices.Clone(x.Parts[p].Windows)
	}
	x.Devs, x.Chans, x.Slots = slices.Clone(x.Devs), slices.Clone(x.Chans), slices.Clone(x.Slots)
	return x
}

// numbersIn are all numbers of the tables, so that each can be changed by itself.
func numbersIn(x *impl.Tables) []*int {
	c := &x.Costs
	list := []*int{&x.Mem, &x.Shape.Sets, &x.Shape.Ways, &x.Shape.Line, &x.Tlb, &c.Base, &c.Mul, &c.Mem, &c.Miss, &c.Walk, &c.Trap, &c.Line, &x.Pad, &x.Guard, &x.Major}
	for p := range x.Parts {
		row := &x.Parts[p]
		list = append(list, &row.Entry, &row.Policy.Kind, &row.Policy.Most)
		for w := range row.Windows {
			list = append(list, &row.Windows[w].Base, &row.Windows[w].Size, &row.Windows[w].Perm)
		}
	}
	for d := range x.Devs {
		list = append(list, &x.Devs[d])
	}
	for n := range x.Chans {
		r := &x.Chans[n]
		list = append(list, &r.Kind, &r.From, &r.To, &r.Depth)
	}
	for n := range x.Slots {
		s := &x.Slots[n]
		list = append(list, &s.Part, &s.Start, &s.Len)
	}
	return list
}

func isBetween(n int, least int, most int) bool {
	return n >= least && n <= most
}

// farInts are beyond every limit of the tables.
func farInts(others ...int) []int {
	return slices.DeleteFunc(append(oddInts(), others...), func(n int) bool { return isBetween(n, -5000, 5000) })
}

func nameOkByHand(s string) bool {
	return regexp.MustCompile(`\A[a-z]{1,8}\z`).MatchString(s)
}

func costsOkByHand(c impl.Costs) bool {
	right := isBetween(c.Base, 1, 20)
	for _, n := range []int{c.Mul, c.Mem, c.Miss, c.Walk, c.Trap, c.Line} {
		right = right && isBetween(n, 0, 50)
	}
	return right
}

// worstStepByHand is for costs that are right.
func worstStepByHand(c impl.Costs) int {
	return c.Base + max(c.Mul, c.Mem, c.Trap) + 2*(c.Miss+c.Walk+c.Line) + c.Trap
}

func chanOkByHand(r impl.ChanRow) bool {
	return isBetween(r.From, 0, 5) && isBetween(r.To, 0, 5) && r.From != r.To && (r.Kind == 0 && r.Depth == 0 || r.Kind == 1 && isBetween(r.Depth, 1, 8))
}

// worstPadByHand is for costs, a shape and channels that are right.
func worstPadByHand(c impl.Costs, s impl.Shape, chans []impl.ChanRow) int {
	sum := 16 * c.Base
	for range s.Sets * s.Ways {
		sum += c.Line
	}
	for _, r := range chans {
		sum += c.Base * map[int]int{0: 1, 1: r.Depth}[r.Kind]
	}
	return sum
}

func numbersByHand(x impl.Tables) bool {
	right := isWordCount(x.Mem, 16, 512) && slices.Contains(rightShapes(), x.Shape) && isBetween(x.Tlb, 1, 8) && costsOkByHand(x.Costs)
	right = right && isBetween(x.Pad, 1, 5000) && isBetween(x.Guard, 1, 5000) && isBetween(x.Major, 1, 5000)
	return right && x.Guard >= worstStepByHand(x.Costs)
}

// memoryByHand tells for each address whose window has it (-1: nobody's) and with which perm, and whether no two windows have one.
func memoryByHand(x impl.Tables) ([]int, []int, bool) {
	owners, perms, apart := slices.Repeat([]int{-1}, 2048), make([]int, 2048), true
	for p, row := range x.Parts {
		for _, w := range row.Windows {
			for addr := w.Base; addr < w.Base+w.Size; addr++ {
				apart = apart && owners[addr] == -1
				owners[addr], perms[addr] = p, w.Perm
			}
		}
	}
	return owners, perms, apart
}

func partsByHand(x impl.Tables) bool {
	names := map[string]int{}
	for _, row := range x.Parts {
		names[row.Name]++
		if !nameOkByHand(row.Name) || !slices.Contains(rightPolicies(), row.Policy) || !isBetween(len(row.Windows), 1, 4) {
			return false
		}
		for _, w := range row.Windows {
			if !windowOkByHand(w) || w.Base+w.Size > x.Mem {
				return false
			}
		}
	}
	owners, perms, apart := memoryByHand(x)
	for p, row := range x.Parts {
		if !isWordCount(row.Entry, 0, 511) || owners[row.Entry] != p || perms[row.Entry] < 4 {
			return false
		}
	}
	return apart && len(names) == len(x.Parts) && isBetween(len(x.Parts), 1, 6)
}

func crossingsByHand(x impl.Tables) bool {
	last := len(x.Parts) - 1
	right := len(x.Devs) < 9 && len(x.Chans) < 9
	for _, owner := range x.Devs {
		right = right && isBetween(owner, 0, last)
	}
	for _, r := range x.Chans {
		right = right && chanOkByHand(r) && isBetween(r.From, 0, last) && isBetween(r.To, 0, last)
	}
	return right && x.Pad >= worstPadByHand(x.Costs, x.Shape, x.Chans)
}

// frameByHand tells for each cycle of a frame which slot has it (-1: none), and whether no two have one and each follows those ahead of it.
func frameByHand(x impl.Tables) ([]int, bool) {
	holders, ordered, last := slices.Repeat([]int{-1}, x.Major), true, -1
	for n, s := range x.Slots {
		for c := s.Start; c < s.Start+s.Len; c++ {
			ordered = ordered && c > last
			holders[c], last = n, c
		}
	}
	return holders, ordered
}

func slotsByHand(x impl.Tables) bool {
	for _, s := range x.Slots {
		// No slot of a right frame has a greater number, and the sums of these cannot wrap.
		if !isBetween(s.Start, 0, 5000) || !isBetween(s.Len, 1, 5000) || s.Start+s.Len > x.Major || s.Len <= x.Pad+x.Guard || !isBetween(s.Part, 0, len(x.Parts)-1) {
			return false
		}
	}
	_, ordered := frameByHand(x)
	return ordered && isBetween(len(x.Slots), 1, 16)
}

func soundByHand(x impl.Tables) bool {
	return numbersByHand(x) && partsByHand(x) && crossingsByHand(x) && slotsByHand(x)
}

// wantSound asks the model too, so that neither the case nor the model can be wrong alone.
func wantSound(t *testing.T, what string, x impl.Tables, want bool) {
	t.Helper()
	if impl.Sound(x) != want {
		t.Errorf("%s: Sound is not %v of %+v", what, want, x)
	}
	if soundByHand(x) != want {
		t.Errorf("%s: the model is not %v of %+v", what, want, x)
	}
}

func TestTableConstants(t *testing.T) {
	got := []int{impl.MaxSlots, impl.MaxChans, impl.MaxDevs, impl.MaxMajor, impl.MinMem}
	if !slices.Equal(got, []int{16, 8, 8, 5000, 64}) {
		t.Error(got)
	}
}

func TestNameOkByLength(t *testing.T) {
	for n := range 40 {
		for _, letter := range []string{"a", "m", "z"} {
			if impl.NameOk(strings.Repeat(letter, n)) != (n >= 1 && n <= 8) {
				t.Errorf("NameOk of %d letters %s", n, letter)
			}
		}
	}
	if impl.NameOk(strings.Repeat("a", 1<<20)) || impl.NameOk(strings.Repeat("a", 256+1)) || impl.NameOk(strings.Repeat("a", 1<<16+8)) {
		t.Error("a long name")
	}
}

func TestNameOkOfEachByte(t *testing.T) {
	for n := range 256 {
		for length := 1; length <= 8; length++ {
			for at := range length {
				name := []byte("abcxyzqm")[:length]
				name[at] = byte(n)
				if impl.NameOk(string(name)) != (n >= 97 && n <= 122) {
					t.Errorf("NameOk(%q)", name)
				}
			}
		}
	}
	for _, name := range []string{"é", "aé", "éa", "ａ", "a\u0000", "\n", "a\n", "\na", " a", "a ", "A", "aB", "a1", "a-b", "a_b", "a.b", "ſ", "\xff"} {
		if impl.NameOk(name) {
			t.Errorf("NameOk(%q)", name)
		}
	}
}

func wantPad(t *testing.T, c impl.Costs, s impl.Shape, chans []impl.ChanRow, want int) {
	t.Helper()
	if got := impl.WorstPad(c, s, chans); got != want {
		t.Errorf("WorstPad(%v, %v, %v) = %d, not %d", c, s, chans, got, want)
	}
}

func TestWorstPadByNumbers(t *testing.T) {
	c, s := impl.Costs{Base: 3, Mul: 9, Mem: 9, Miss: 9, Walk: 9, Trap: 9, Line: 5}, impl.Shape{Sets: 4, Ways: 3, Line: 32}
	sample, queue := sampleRow(), queueRow(1)
	wantPad(t, impl.Costs{Base: 1}, impl.Shape{Sets: 1, Ways: 1, Line: 4}, nil, 16)
	wantPad(t, impl.Costs{Base: 20}, impl.Shape{Sets: 16, Ways: 4, Line: 32}, nil, 320)
	wantPad(t, impl.Costs{Base: 20, Line: 50}, impl.Shape{Sets: 16, Ways: 4, Line: 4}, nil, 3520)
	wantPad(t, c, s, nil, 108)
	wantPad(t, c, s, []impl.ChanRow{}, 108)
	wantPad(t, c, s, []impl.ChanRow{sample}, 111)
	wantPad(t, c, s, []impl.ChanRow{queue}, 111)
	wantPad(t, c, s, []impl.ChanRow{queueRow(2)}, 114)
	wantPad(t, c, s, []impl.ChanRow{queueRow(8)}, 132)
	wantPad(t, c, s, []impl.ChanRow{sample, queueRow(5)}, 126)
	wantPad(t, c, s, []impl.ChanRow{queueRow(5), sample}, 126)
	wantPad(t, c, s, []impl.ChanRow{sample, sample, queueRow(7), queueRow(7)}, 156)
	wantPad(t, impl.Costs{Base: 20, Line: 50}, impl.Shape{Sets: 16, Ways: 4, Line: 4}, slices.Repeat([]impl.ChanRow{queueRow(8)}, 8), 4800)
}

func TestWorstPadByCountOfChannels(t *testing.T) {
	for _, r := range rowsOfEachDepth() {
		for _, count := range []int{0, 1, 2, 3, 4, 5, 6, 7, 8, 9, 10, 16, 17, 256, 257, 264, 70000} {
			chans := slices.Repeat([]impl.ChanRow{r}, count)
			want := 16*2 + 6*7 + 2*count*max(r.Depth, 1)
			if count > 8 {
				want = -1
			}
			wantPad(t, impl.Costs{Base: 2, Line: 7}, impl.Shape{Sets: 2, Ways: 3, Line: 16}, chans, want)
		}
	}
}

func TestWorstPadOfEachShapeAndCosts(t *testing.T) {
	for _, chans := range [][]impl.ChanRow{nil, rowsOfEachDepth()[:8], rowsOfEachDepth()[1:]} {
		for _, s := range rightShapes() {
			for _, c := range someCosts() {
				wantPad(t, c, s, chans, worstPadByHand(c, s, chans))
			}
		}
	}
}

func TestWorstPadOfWhatIsNotRight(t *testing.T) {
	c, s, few := impl.Costs{Base: 2, Line: 7}, impl.Shape{Sets: 2, Ways: 3, Line: 16}, []impl.ChanRow{sampleRow(), queueRow(4), queueRow(8)}
	for _, wrong := range wrongCosts() {
		wantPad(t, wrong, s, nil, -1)
		wantPad(t, wrong, s, few, -1)
	}
	for _, wrong := range wrongShapes() {
		wantPad(t, c, wrong, nil, -1)
		wantPad(t, c, wrong, few, -1)
		wantPad(t, impl.Costs{Base: 1}, wrong, few, -1)
	}
	for _, wrong := range wrongChanRows() {
		wantPad(t, c, s, []impl.ChanRow{wrong}, -1)
		for at := range 8 {
			chans := append(rowsOfEachDepth()[:at:at], wrong)
			wantPad(t, c, s, append(chans, rowsOfEachDepth()[at+1:8]...), -1)
		}
	}
	wantPad(t, impl.Costs{}, impl.Shape{}, wrongChanRows(), -1)
}

func TestTablesThatAreSound(t *testing.T) {
	for _, maker := range tableMakers() {
		wantSound(t, "as it is", maker(), true)
	}
	wantSound(t, "the zero value", impl.Tables{}, false)
}

func TestSoundByMemory(t *testing.T) {
	for mem := -70; mem <= 2200; mem++ {
		x := changed(leastTables, func(x *impl.Tables) { x.Mem = mem })
		wantSound(t, "least", x, mem >= 64 && mem <= 2048 && mem%4 == 0)
		y := changed(rightTables, func(x *impl.Tables) { x.Mem = mem })
		wantSound(t, "right", y, mem >= 708 && mem <= 2048 && mem%4 == 0)
	}
	for _, mem := range farInts(1<<16+64, 1<<32+64, -1<<32+64, math.MinInt+64) {
		wantSound(t, "far off", changed(leastTables, func(x *impl.Tables) { x.Mem = mem }), false)
	}
}

func TestSoundByShapeAndTableOfPages(t *testing.T) {
	for _, s := range rightShapes() {
		wantSound(t, "a right shape", changed(leastTables, func(x *impl.Tables) { x.Shape = s }), true)
	}
	for _, s := range wrongShapes() {
		wantSound(t, "a wrong shape", changed(leastTables, func(x *impl.Tables) { x.Shape = s }), false)
	}
	for size := 1; size <= 8; size++ {
		wantSound(t, "a right size", changed(leastTables, func(x *impl.Tables) { x.Tlb = size }), true)
	}
	for _, size := range wrongSizes() {
		wantSound(t, "a wrong size", changed(leastTables, func(x *impl.Tables) { x.Tlb = size }), false)
	}
}

// The guard at WorstStep and one less, for each costs.
func TestSoundByCostsAndGuard(t *testing.T) {
	for _, c := range someCosts() {
		wantSound(t, "right costs", changed(frameTables, func(x *impl.Tables) { x.Costs = c }), true)
		worst := impl.WorstStep(c)
		for delta := -3; delta <= 3; delta++ {
			x := changed(frameTables, func(x *impl.Tables) { x.Costs, x.Guard = c, worst+delta })
			wantSound(t, "a guard beside the worst step", x, delta >= 0)
		}
	}
	for _, c := range wrongCosts() {
		wantSound(t, "wrong costs", changed(frameTables, func(x *impl.Tables) { x.Costs = c }), false)
	}
}

// The pad at WorstPad and one less, for each shape and count of channels.
func TestSoundByPad(t *testing.T) {
	joining := []impl.ChanRow{{From: 0, To: 1}, {Kind: 1, From: 1, To: 0, Depth: 1}, {Kind: 1, From: 0, To: 1, Depth: 5}, {Kind: 1, From: 1, To: 0, Depth: 8}, {From: 1, To: 0}}
	for _, s := range rightShapes() {
		for _, c := range []impl.Costs{{Base: 1}, {Base: 20, Line: 50}, {Base: 7, Line: 3}, apart()} {
			for count := range joining {
				x := frameTables()
				x.Parts = append(x.Parts, impl.PartRow{Name: "b", Entry: 4, Windows: []impl.Window{win(4, 4, 4)}})
				x.Shape, x.Costs, x.Chans, x.Guard = s, c, joining[:count], impl.WorstStep(c)
				worst := impl.WorstPad(x.Costs, x.Shape, x.Chans)
				for delta := -2; delta <= 2; delta++ {
					x.Pad = worst + delta
					wantSound(t, "a pad beside the worst one", x, delta >= 0)
				}
			}
		}
	}
}

func TestSoundByPadGuardAndMajor(t *testing.T) {
	beside := append(oddInts(), -5000, -1, 0, 1, 2, 5000, 5001, 5002, 1<<32+16, -1<<32+16)
	for _, n := range beside {
		wantSound(t, "pad", changed(leastTables, func(x *impl.Tables) { x.Pad = n }), false)
		wantSound(t, "guard", changed(leastTables, func(x *impl.Tables) { x.Guard = n }), n == 1)
		wantSound(t, "major", changed(leastTables, func(x *impl.Tables) { x.Major = n }), isBetween(n, 18, 5000))
		wantSound(t, "pad of a full frame", changed(frameTables, func(x *impl.Tables) { x.Pad = n }), isBetween(n, 16, 4579))
		wantSound(t, "guard of a full frame", changed(frameTables, func(x *impl.Tables) { x.Guard = n }), isBetween(n, 1, 3999))
		wantSound(t, "major of a full frame", changed(frameTables, func(x *impl.Tables) { x.Major = n }), n == 5000)
		for _, other := range beside {
			x := changed(frameTables, func(x *impl.Tables) { x.Pad, x.Guard = n, other })
			wantSound(t, "pad and guard", x, isBetween(n, 16, 5000) && isBetween(other, 1, 5000) && n+other < 5000)
		}
	}
	for pad := 4990; pad <= 5001; pad++ {
		x := changed(frameTables, func(x *impl.Tables) { x.Pad, x.Guard = pad, 1 })
		wantSound(t, "the greatest pad", x, pad <= 4998)
		y := changed(frameTables, func(x *impl.Tables) { x.Pad, x.Guard = 16, pad })
		wantSound(t, "the greatest guard", y, pad <= 4983)
	}
}

// partsOf has so many partitions, each with one window.
func partsOf(count int) impl.Tables {
	x := leastTables()
	x.Parts, x.Mem = nil, 2048
	for p := range count {
		x.Parts = append(x.Parts, impl.PartRow{Name: string(rune('a' + p%26)), Entry: 4 * p, Windows: []impl.Window{win(4*p, 4, 4)}})
	}
	return x
}

func TestSoundByCountOfPartitions(t *testing.T) {
	for count := range 27 {
		wantSound(t, "partitions", partsOf(count), count >= 1 && count <= 6)
	}
	for _, count := range []int{256, 257, 262} {
		wantSound(t, "partitions", partsOf(count), false)
	}
	if impl.Sound(impl.Tables{Parts: make([]impl.PartRow, 100000), Slots: make([]impl.Slot, 100000)}) {
		t.Error("100000 partitions")
	}
}

func TestSoundByNames(t *testing.T) {
	for p := range 3 {
		for _, name := range []string{"", "abcdefghi", "A", "a1", "a b", " ", "a\n", "é", "\x00", strings.Repeat("a", 257)} {
			wantSound(t, "a wrong name", changed(rightTables, func(x *impl.Tables) { x.Parts[p].Name = name }), false)
		}
		for _, name := range []string{"b", "zzzzzzzz", "aa", "neta", "ne"} {
			wantSound(t, "a right name", changed(rightTables, func(x *impl.Tables) { x.Parts[p].Name = name }), true)
		}
	}
	for p := range 6 {
		for q := range 6 {
			x := changed(mostTables, func(x *impl.Tables) { x.Parts[p].Name = x.Parts[q].Name })
			wantSound(t, "two names alike", x, p == q)
		}
	}
}

func TestSoundByPolicy(t *testing.T) {
	for p := range 3 {
		for _, policy := range rightPolicies() {
			wantSound(t, "a right policy", changed(rightTables, func(x *impl.Tables) { x.Parts[p].Policy = policy }), true)
		}
		for _, policy := range wrongPolicies() {
			if impl.Sound(changed(rightTables, func(x *impl.Tables) { x.Parts[p].Policy = policy })) {
				t.Errorf("partition %d with %v", p, policy)
			}
		}
	}
}

func TestSoundByCountOfWindows(t *testing.T) {
	for p := range 3 {
		for count := range 12 {
			x := rightTables()
			for len(x.Parts[p].Windows) < count {
				x.Parts[p].Windows = append(x.Parts[p].Windows, win(960+4*len(x.Parts[p].Windows), 4, 7))
			}
			x.Parts[p].Windows = x.Parts[p].Windows[:count]
			want := isBetween(count, 1, 4) && (p != 2 || count != 1)
			wantSound(t, fmt.Sprint("windows of ", p), x, want)
		}
	}
	for p := range 6 {
		x := changed(mostTables, func(x *impl.Tables) { x.Parts[p].Windows = append(x.Parts[p].Windows, win(2044, 4, 7)) })
		wantSound(t, "a fifth window", x, false)
		y := changed(mostTables, func(x *impl.Tables) { x.Parts[p].Windows = nil })
		wantSound(t, "no window", y, false)
	}
}

// The window that is not right stands alone, so that it is held against no other one, and its partition could run in it.
func TestSoundByAWindowAlone(t *testing.T) {
	for what, w := range map[string]impl.Window{"size 6": win(0, 6, 4), "size 5": win(0, 5, 4), "base 2": win(2, 8, 4), "base -4": win(-4, 12, 4), "perm 8": win(0, 8, 12), "perm -1": win(0, 8, -1), "perm far": win(0, 8, 1<<32+4)} {
		x := changed(leastTables, func(x *impl.Tables) { x.Parts[0].Windows, x.Parts[0].Entry = []impl.Window{w}, 4 })
		wantSound(t, what, x, false)
	}
	for perm := -3; perm < 20; perm++ {
		x := changed(leastTables, func(x *impl.Tables) { x.Parts[0].Windows[0].Perm = perm })
		wantSound(t, "perm", x, isBetween(perm, 4, 7))
	}
	for size := -4; size < 80; size++ {
		x := changed(leastTables, func(x *impl.Tables) { x.Parts[0].Windows[0].Size = size })
		wantSound(t, "size", x, isBetween(size, 4, 64) && size%4 == 0)
	}
}

func TestSoundByWrongWindows(t *testing.T) {
	for what, w := range wrongWindows() {
		for p := range 3 {
			last := func(x *impl.Tables) { x.Parts[p].Windows = append(x.Parts[p].Windows, w) }
			wantSound(t, what+" behind the others", changed(rightTables, last), false)
			first := func(x *impl.Tables) { x.Parts[p].Windows = append([]impl.Window{w}, x.Parts[p].Windows...) }
			wantSound(t, what+" ahead of the others", changed(rightTables, first), false)
		}
	}
}

func TestSoundByWindowsAndTheEndOfMemory(t *testing.T) {
	for p := range 3 {
		for _, mem := range []int{720, 900, 1024, 2040, 2044, 2048} {
			for base := mem - 12; base <= mem+8; base += 4 {
				for size := 4; size <= 16; size += 4 {
					x := changed(rightTables, func(x *impl.Tables) {
						x.Mem, x.Parts[p].Windows = mem, append(x.Parts[p].Windows, win(base, size, 7))
					})
					wantSound(t, fmt.Sprint("memory of ", mem), x, base+size <= mem)
				}
			}
		}
	}
}

// A window of each place and of some sizes, for each partition: it may meet no other, neither its own partition's nor another's.
func TestSoundByWindowsThatMeet(t *testing.T) {
	owners, _, _ := memoryByHand(rightTables())
	met := map[[2]int]int{}
	for p := range 3 {
		for base := 0; base < 1024; base += 4 {
			for size := 4; size <= min(48, 1024-base); size += 4 {
				x := rightTables()
				free := true
				for _, owner := range owners[base : base+size] {
					free = free && owner == -1
				}
				if !free {
					met[[2]int{p, slices.Max(owners[base : base+size])}]++
				}
				x.Parts[p].Windows = append(x.Parts[p].Windows, win(base, size, 3))
				wantSound(t, fmt.Sprint("one more window of ", p), x, free)
			}
		}
	}
	if len(met) != 9 {
		t.Error("not each two partitions had windows that met:", met)
	}
}

// Of full tables each two windows: one has the last or the first word of the other.
func TestSoundByEachTwoWindows(t *testing.T) {
	for n := range 24 {
		for m := range 24 {
			for _, at := range []int{0, 40, 76} {
				x := mostTables()
				one := &x.Parts[n/4].Windows[n%4]
				other := x.Parts[m/4].Windows[m%4]
				// Its partition's entry lies in its first window, which only its own place can keep.
				if n%4 == 0 {
					x.Parts[n/4].Entry = 320*(n/4) + 80
				}
				*one = win(1920, 80, 7)
				wantSound(t, "a window elsewhere", x, true)
				*one = win(other.Base+at, 4, 7)
				wantSound(t, "a window on another", x, n == m)
			}
		}
	}
}

func TestSoundByEntry(t *testing.T) {
	for _, maker := range tableMakers() {
		owners, perms, _ := memoryByHand(maker())
		for p := range maker().Parts {
			for entry := -16; entry < 2080; entry++ {
				within := isBetween(entry, 0, 2047) && entry%4 == 0
				want := within && owners[entry] == p && perms[entry]&4 != 0
				x := changed(maker, func(x *impl.Tables) { x.Parts[p].Entry = entry })
				if impl.Sound(x) != want {
					t.Errorf("entry %d of partition %d: not %v", entry, p, want)
				}
			}
			own := maker().Parts[p].Entry
			for _, entry := range farInts(own+1<<32, own-1<<32, own+1<<16, own+math.MinInt) {
				wantSound(t, "an entry far off", changed(maker, func(x *impl.Tables) { x.Parts[p].Entry = entry }), false)
			}
		}
	}
}

func TestSoundByDevices(t *testing.T) {
	for _, count := range []int{0, 1, 2, 3, 4, 5, 6, 7, 8, 9, 10, 16, 256, 257, 264, 70000} {
		for owner := range 3 {
			x := changed(rightTables, func(x *impl.Tables) { x.Devs = slices.Repeat([]int{owner}, count) })
			wantSound(t, fmt.Sprint(count, " devices"), x, count <= 8)
		}
	}
	for at := range 8 {
		for _, owner := range append(oddInts(), -2, -1, 0, 1, 2, 3, 4, 5, 6, 7, 1<<32+2, -1<<32) {
			x := changed(rightTables, func(x *impl.Tables) {
				x.Devs = []int{0, 1, 2, 0, 1, 2, 0, 1}
				x.Devs[at] = owner
			})
			wantSound(t, fmt.Sprint("owner ", owner), x, isBetween(owner, 0, 2))
			y := changed(mostTables, func(x *impl.Tables) { x.Devs[at] = owner })
			wantSound(t, fmt.Sprint("owner of most ", owner), y, isBetween(owner, 0, 5))
		}
	}
}

func TestSoundByCountOfChannels(t *testing.T) {
	for _, count := range []int{0, 1, 2, 3, 4, 5, 6, 7, 8, 9, 10, 16, 256, 257, 264, 70000} {
		for depth := range 9 {
			r := impl.ChanRow{Kind: min(depth, 1), From: 2, To: 1, Depth: depth}
			x := changed(rightTables, func(x *impl.Tables) {
				x.Chans = slices.Repeat([]impl.ChanRow{r}, count)
				x.Pad, x.Major, x.Slots = 108, 200, []impl.Slot{{Start: 10, Len: 190}}
			})
			wantSound(t, fmt.Sprint(count, " channels"), x, count <= 8)
		}
	}
}

func TestSoundByWrongChannels(t *testing.T) {
	for at := range 8 {
		for _, wrong := range wrongChanRows() {
			wantSound(t, "a wrong channel", changed(mostTables, func(x *impl.Tables) { x.Chans[at] = wrong }), false)
		}
	}
	for at := range 2 {
		for from := -1; from < 8; from++ {
			for to := -1; to < 8; to++ {
				x := changed(rightTables, func(x *impl.Tables) { x.Chans[at].From, x.Chans[at].To = from, to })
				wantSound(t, fmt.Sprint("a channel from ", from, " to ", to), x, isBetween(from, 0, 2) && isBetween(to, 0, 2) && from != to)
			}
		}
	}
	x := changed(leastTables, func(x *impl.Tables) {
		x.Pad, x.Major, x.Slots, x.Chans = 50, 100, []impl.Slot{{Len: 100}}, []impl.ChanRow{{To: 1}}
	})
	wantSound(t, "a channel of the only partition", x, false)
}

// slotsOf has so many slots of 20 cycles, one behind the other.
func slotsOf(count int) impl.Tables {
	x := leastTables()
	x.Slots, x.Major = nil, 5000
	for n := range count {
		x.Slots = append(x.Slots, impl.Slot{Start: 20 * n, Len: 20})
	}
	return x
}

func TestSoundByCountOfSlots(t *testing.T) {
	for count := range 250 {
		wantSound(t, "slots", slotsOf(count), count >= 1 && count <= 16)
	}
	wantSound(t, "an empty list", changed(leastTables, func(x *impl.Tables) { x.Slots = []impl.Slot{} }), false)
	wantSound(t, "full tables and one more", changed(mostTables, func(x *impl.Tables) {
		x.Pad, x.Chans, x.Slots[15].Len = 80, nil, 150
		x.Slots = append(x.Slots, impl.Slot{Start: 4830, Len: 150})
	}), false)
}

func TestSoundBySlotsOfEachPartition(t *testing.T) {
	for _, part := range append(oddInts(), -2, -1, 0, 1, 2, 3, 4, 5, 6, 7, 1<<32+2, -1<<32) {
		for at := range 4 {
			x := changed(rightTables, func(x *impl.Tables) { x.Slots[at].Part = part })
			wantSound(t, fmt.Sprint("partition ", part), x, isBetween(part, 0, 2))
		}
		for at := range 16 {
			x := changed(mostTables, func(x *impl.Tables) { x.Slots[at].Part = part })
			wantSound(t, fmt.Sprint("partition of most ", part), x, isBetween(part, 0, 5))
		}
	}
}

// Two slots at each place beside the edges: what is right is told cycle by cycle.
func TestSoundByTwoSlots(t *testing.T) {
	sound := 0
	for start := -2; start <= 2; start++ {
		for length := 16; length <= 20; length++ {
			for next := -1; next <= 24; next++ {
				for rest := 16; rest <= 20; rest++ {
					for major := next + rest - 1; major <= next+rest+1; major++ {
						x := changed(leastTables, func(x *impl.Tables) {
							x.Major, x.Slots = major, []impl.Slot{{Start: start, Len: length}, {Start: next, Len: rest}}
						})
						want := start >= 0 && length > 17 && next >= start+length && rest > 17 && next+rest <= major
						wantSound(t, "two slots", x, want)
						if want {
							sound++
						}
					}
				}
			}
		}
	}
	if sound < 100 {
		t.Error("too few were sound:", sound)
	}
}

func TestSoundByTheLengthOfASlot(t *testing.T) {
	for at := range 4 {
		for length := -200; length <= 500; length++ {
			most := []int{150, 240, 200, 400}[at]
			x := changed(rightTables, func(x *impl.Tables) { x.Slots[at].Len = length })
			wantSound(t, fmt.Sprint("length of slot ", at), x, isBetween(length, 111, most))
		}
	}
}

func TestSoundByTheStartOfASlot(t *testing.T) {
	for at := range 4 {
		for start := -300; start <= 1100; start++ {
			least, most := []int{0, 160, 360, 511}[at], []int{10, 200, 489, 700}[at]
			x := changed(rightTables, func(x *impl.Tables) { x.Slots[at].Start = start })
			wantSound(t, fmt.Sprint("start of slot ", at), x, isBetween(start, least, most))
		}
	}
}

// Slots that lie apart are right in one order alone.
func TestSoundByTheOrderOfSlots(t *testing.T) {
	for a := range 4 {
		for b := range 4 {
			x := changed(rightTables, func(x *impl.Tables) { x.Slots[a], x.Slots[b] = x.Slots[b], x.Slots[a] })
			wantSound(t, fmt.Sprint("slots ", a, " and ", b), x, a == b)
			y := changed(rightTables, func(x *impl.Tables) { x.Slots[a] = x.Slots[b] })
			wantSound(t, fmt.Sprint("slot ", b, " in the place of ", a), y, a == b)
		}
	}
	chance := rand.New(rand.NewSource(31))
	for range 300 {
		x := mostTables()
		order := chance.Perm(16)
		for at, from := range order {
			x.Slots[at] = mostTables().Slots[from]
		}
		wantSound(t, "full tables", x, slices.IsSorted(order))
	}
	wantSound(t, "reversed", changed(mostTables, func(x *impl.Tables) { slices.Reverse(x.Slots) }), false)
}

// Sums that leave 64 bits come back as small numbers, or as numbers below 0; none makes a slot right.
func TestSoundBySlotsWhoseSumsWrap(t *testing.T) {
	far := farInts(math.MaxInt-1, math.MaxInt-10, math.MaxInt-18, math.MaxInt-20, math.MaxInt/2, math.MaxInt/2+1, math.MinInt+18, math.MinInt+5000, 1<<32+20, 1<<16+20, -1<<32+20)
	for at := range 4 {
		for _, n := range far {
			wantSound(t, "a start", changed(rightTables, func(x *impl.Tables) { x.Slots[at].Start = n }), false)
			wantSound(t, "a length", changed(rightTables, func(x *impl.Tables) { x.Slots[at].Len = n }), false)
			for _, m := range far {
				x := changed(rightTables, func(x *impl.Tables) { x.Slots[at].Start, x.Slots[at].Len = n, m })
				wantSound(t, "a start and a length", x, false)
			}
		}
	}
	for _, x := range []impl.Tables{
		changed(rightTables, func(x *impl.Tables) {
			x.Slots = []impl.Slot{{Start: 0, Len: math.MaxInt}, {Start: math.MaxInt, Len: 200}}
		}),
		changed(rightTables, func(x *impl.Tables) { x.Slots = []impl.Slot{{Start: 1, Len: math.MaxInt}, {Start: 0, Len: 200}} }),
		changed(rightTables, func(x *impl.Tables) { x.Slots = []impl.Slot{{Start: math.MaxInt, Len: math.MaxInt}} }),
		changed(rightTables, func(x *impl.Tables) { x.Pad, x.Guard = math.MaxInt, math.MaxInt }),
		changed(rightTables, func(x *impl.Tables) { x.Pad, x.Guard = math.MaxInt, 50 }),
		changed(rightTables, func(x *impl.Tables) { x.Pad, x.Guard = 60, math.MaxInt }),
		changed(rightTables, func(x *impl.Tables) { x.Pad, x.Guard, x.Major = math.MaxInt, math.MaxInt, math.MaxInt }),
	} {
		wantSound(t, "sums that wrap", x, false)
	}
}

// Each number of each tables by itself, a little and far beside what it was.
func TestSoundByEachNumber(t *testing.T) {
	for _, maker := range tableMakers() {
		x := maker()
		for place, number := range numbersIn(&x) {
			was := *number
			beside := append(oddInts(), -was, was+1<<32, was-1<<32, was+math.MinInt)
			for delta := -6; delta <= 6; delta++ {
				beside = append(beside, was+delta)
			}
			for _, n := range beside {
				*number = n
				if got, want := impl.Sound(x), soundByHand(x); got != want {
					t.Errorf("number %d, %d instead of %d: Sound is %v", place, n, was, got)
				}
			}
			*number = was
		}
		wantSound(t, "as it was", x, true)
	}
}

// drawnSlots stand one behind the other, some of them touching, and each is longer than what a switch and the guard take.
func drawnSlots(chance *rand.Rand, parts int, lost int) ([]impl.Slot, int) {
	slots, free := []impl.Slot{}, 0
	for range 1 + chance.Intn(16) {
		s := impl.Slot{Part: chance.Intn(parts), Start: free + chance.Intn(2)*chance.Intn(60), Len: lost + 1 + chance.Intn(2)*chance.Intn(100)}
		if s.Start+s.Len > 5000 {
			break
		}
		slots, free = append(slots, s), s.Start+s.Len
	}
	return slots, free
}

func drawnParts(chance *rand.Rand) []impl.PartRow {
	parts := []impl.PartRow{}
	for p := range 1 + chance.Intn(6) {
		name := []byte{byte('a' + p)}
		for range chance.Intn(8) {
			name = append(name, byte('a'+chance.Intn(26)))
		}
		policies := rightPolicies()
		parts = append(parts, impl.PartRow{Name: string(name), Policy: policies[chance.Intn(len(policies))]})
	}
	windows := drawnWindows(chance, len(parts)+chance.Intn(3*len(parts)+1))
	for n, w := range windows {
		row := &parts[n%len(parts)]
		if len(row.Windows) == 0 {
			w.Perm |= 4
			row.Entry = w.Base + 4*chance.Intn(w.Size/4)
		}
		row.Windows = append(row.Windows, w)
	}
	return parts
}

func drawnChans(chance *rand.Rand, parts int) []impl.ChanRow {
	list := []impl.ChanRow{}
	for range chance.Intn(9) * min(parts-1, 1) {
		ends := chance.Perm(parts)
		depth := chance.Intn(9)
		list = append(list, impl.ChanRow{Kind: min(depth, 1), From: ends[0], To: ends[1], Depth: depth})
	}
	return list
}

// drawnTables are sound.
func drawnTables(chance *rand.Rand) impl.Tables {
	shapes := rightShapes()
	x := impl.Tables{Mem: 64, Shape: shapes[chance.Intn(len(shapes))], Tlb: 1 + chance.Intn(8), Parts: drawnParts(chance)}
	x.Costs = impl.Costs{Base: 1 + chance.Intn(4), Mul: chance.Intn(9), Mem: chance.Intn(9), Miss: chance.Intn(9), Walk: chance.Intn(9), Trap: chance.Intn(9), Line: chance.Intn(9)}
	for _, row := range x.Parts {
		for _, w := range row.Windows {
			x.Mem = max(x.Mem, w.Base+w.Size)
		}
	}
	x.Mem += 4 * chance.Intn((2048-x.Mem)/4+1)
	for range chance.Intn(9) {
		x.Devs = append(x.Devs, chance.Intn(len(x.Parts)))
	}
	x.Chans = drawnChans(chance, len(x.Parts))
	x.Pad = worstPadByHand(x.Costs, x.Shape, x.Chans) + chance.Intn(2)*chance.Intn(50)
	x.Guard = worstStepByHand(x.Costs) + chance.Intn(2)*chance.Intn(50)
	x.Slots, x.Major = drawnSlots(chance, len(x.Parts), x.Pad+x.Guard)
	x.Major += chance.Intn(2) * chance.Intn(5001-x.Major)
	return x
}

// disturb changes one thing; what comes may be sound or not.
func disturb(chance *rand.Rand, x *impl.Tables) {
	switch chance.Intn(8) {
	case 0:
		a, b := chance.Intn(len(x.Slots)), chance.Intn(len(x.Slots))
		x.Slots[a], x.Slots[b] = x.Slots[b], x.Slots[a]
	case 1:
		x.Parts[chance.Intn(len(x.Parts))].Name = x.Parts[chance.Intn(len(x.Parts))].Name
	case 2:
		a, b := chance.Intn(len(x.Parts)), chance.Intn(len(x.Parts))
		x.Parts[a].Windows, x.Parts[b].Windows = x.Parts[b].Windows, x.Parts[a].Windows
	case 3:
		x.Slots = append(x.Slots, x.Slots[chance.Intn(len(x.Slots))])
	default:
		numbers := numbersIn(x)
		number := numbers[chance.Intn(len(numbers))]
		*number += []int{-60, -8, -4, -2, -1, 1, 2, 4, 8, 60}[chance.Intn(10)]
	}
}

func TestSoundOfDrawnTables(t *testing.T) {
	chance := rand.New(rand.NewSource(32))
	sound, wrong := 0, 0
	for range 3000 {
		x := drawnTables(chance)
		wantSound(t, "drawn", x, true)
		disturb(chance, &x)
		want := soundByHand(x)
		wantSound(t, "drawn and disturbed", x, want)
		if want {
			sound++
		} else {
			wrong++
		}
	}
	if sound < 500 || wrong < 500 {
		t.Error("too few of one kind:", sound, wrong)
	}
}

// Promise 13, said by what Sound takes alone: of tables that were disturbed again and again, those that it takes keep the promise.
func TestSoundTablesKeepTheirPromise(t *testing.T) {
	chance := rand.New(rand.NewSource(33))
	taken := 0
	for range 1500 {
		x := drawnTables(chance)
		for range 4 {
			before := copyTables(x)
			disturb(chance, &x)
			if !impl.Sound(x) {
				x = before
				continue
			}
			taken++
			_, _, windowsApart := memoryByHand(x)
			_, slotsApart := frameByHand(x)
			if !windowsApart || !slotsApart {
				t.Fatalf("windows apart %v, slots apart %v: %+v", windowsApart, slotsApart, x)
			}
			if x.Pad < worstPadByHand(x.Costs, x.Shape, x.Chans) || x.Guard < worstStepByHand(x.Costs) {
				t.Fatalf("a pad or a guard that does not cover the worst: %+v", x)
			}
		}
	}
	if taken < 1000 {
		t.Error("too few were sound:", taken)
	}
}

func wantNamed(t *testing.T, x impl.Tables, name string, want int) {
	t.Helper()
	if got := impl.PartNamed(x, name); got != want {
		t.Errorf("PartNamed(%q) = %d, not %d", name, got, want)
	}
}

func wantShare(t *testing.T, x impl.Tables, part int, want int) {
	t.Helper()
	if got := impl.ShareOf(x, part); got != want {
		t.Errorf("ShareOf(%d) = %d, not %d", part, got, want)
	}
}

func wantGap(t *testing.T, x impl.Tables, want int) {
	t.Helper()
	if got := impl.GapOf(x); got != want {
		t.Errorf("GapOf = %d, not %d", got, want)
	}
}

func wantOwner(t *testing.T, x impl.Tables, addr int, want int) {
	t.Helper()
	if got := impl.OwnerOf(x, addr); got != want {
		t.Errorf("OwnerOf(%d) = %d, not %d", addr, got, want)
	}
}

func TestPartNamedByNames(t *testing.T) {
	x := rightTables()
	for want, name := range []string{"a", "net", "logwrite"} {
		wantNamed(t, x, name, want)
	}
	for _, name := range []string{"", "b", "A", "aa", "ne", "neta", "logwrit", "logwrites", "a ", " a", "a\x00", "é", strings.Repeat("a", 1<<16)} {
		wantNamed(t, x, name, -1)
	}
	for p, row := range mostTables().Parts {
		wantNamed(t, mostTables(), row.Name, p)
		wantNamed(t, mostTables(), row.Name[1:], -1)
	}
}

func TestShareAndGapByNumbers(t *testing.T) {
	x := rightTables()
	for part, want := range []int{41, 280, 0} {
		wantShare(t, x, part, want)
	}
	wantGap(t, x, 239)
	wantShare(t, leastTables(), 0, 1)
	wantGap(t, leastTables(), 0)
	wantShare(t, frameTables(), 0, 3580)
	wantGap(t, frameTables(), 0)
	for part, want := range []int{495, 495, 495, 495, 330, 330} {
		wantShare(t, mostTables(), part, want)
	}
	wantGap(t, mostTables(), 8)
	for _, maker := range tableMakers() {
		for _, part := range append(oddInts(), -2, -1, len(maker().Parts), 6, 7, math.MaxInt-1, 1<<32+1, -1<<32+1) {
			wantShare(t, maker(), part, 0)
		}
	}
}

func TestOwnerByNumbers(t *testing.T) {
	x := rightTables()
	for addr, want := range map[int]int{
		0: 0, 1: 0, 63: 0, 64: -1, 127: -1, 128: 0, 159: 0, 160: -1, 255: -1, 256: 1, 383: 1, 384: -1, 447: -1, 448: 2, 511: 2, 512: 2, 575: 2, 576: -1,
		703: -1, 704: 2, 707: 2, 708: -1, 1023: -1, 1024: -1, 2047: -1, 2048: -1, 65535: -1, 65536: -1, -1: -1, -4: -1, -64: -1,
	} {
		wantOwner(t, x, addr, want)
	}
	for _, maker := range tableMakers() {
		owners, _, _ := memoryByHand(maker())
		for addr, want := range owners {
			wantOwner(t, maker(), addr, want)
		}
		for _, addr := range append(oddInts(), -2048, -5, 2048, 2049, 2112, 4096, 1<<16, 1<<32+128, -1<<32+128, math.MinInt+128) {
			if !isBetween(addr, 0, 2047) {
				wantOwner(t, maker(), addr, -1)
			}
		}
	}
}

// What is answered of drawn tables is counted cycle by cycle and address by address.
func TestAnswersOfDrawnTables(t *testing.T) {
	chance := rand.New(rand.NewSource(34))
	for range 300 {
		x := drawnTables(chance)
		holders, _ := frameByHand(x)
		shares, gap := map[int]int{}, 0
		for c, n := range holders {
			if n < 0 {
				gap++
			} else if s := x.Slots[n]; c >= s.Start+x.Pad && c < s.Start+s.Len-x.Guard {
				shares[s.Part]++
			}
		}
		wantGap(t, x, gap)
		for part := -1; part <= 6; part++ {
			wantShare(t, x, part, shares[part])
		}
		for p, row := range x.Parts {
			wantNamed(t, x, row.Name, p)
		}
		owners, _, _ := memoryByHand(x)
		for range 200 {
			addr := chance.Intn(2048)
			wantOwner(t, x, addr, owners[addr])
		}
		for _, row := range x.Parts {
			for _, w := range row.Windows {
				for _, addr := range []int{w.Base, w.Base + w.Size - 1, max(w.Base-1, 0), min(w.Base+w.Size, 2047)} {
					wantOwner(t, x, addr, owners[addr])
				}
			}
		}
	}
}

// wrongTables have one thing wrong each, in each of the five rows.
func wrongTables() map[string]impl.Tables {
	return map[string]impl.Tables{
		"the zero value":            {},
		"memory":                    changed(rightTables, func(x *impl.Tables) { x.Mem = 1026 }),
		"shape":                     changed(rightTables, func(x *impl.Tables) { x.Shape.Sets = 3 }),
		"table of pages":            changed(rightTables, func(x *impl.Tables) { x.Tlb = 9 }),
		"costs":                     changed(rightTables, func(x *impl.Tables) { x.Costs.Base = 0 }),
		"pad":                       changed(rightTables, func(x *impl.Tables) { x.Pad = 47 }),
		"guard":                     changed(rightTables, func(x *impl.Tables) { x.Guard = 44 }),
		"a pad beyond int":          changed(rightTables, func(x *impl.Tables) { x.Pad = math.MaxInt }),
		"major":                     changed(rightTables, func(x *impl.Tables) { x.Major = 5001 }),
		"no partition":              changed(rightTables, func(x *impl.Tables) { x.Parts = nil }),
		"seven partitions":          partsOf(7),
		"a name":                    changed(rightTables, func(x *impl.Tables) { x.Parts[2].Name = "" }),
		"two names alike":           changed(rightTables, func(x *impl.Tables) { x.Parts[2].Name = "a" }),
		"a policy":                  changed(rightTables, func(x *impl.Tables) { x.Parts[1].Policy.Most = 101 }),
		"no window":                 changed(rightTables, func(x *impl.Tables) { x.Parts[1].Windows = nil }),
		"a window":                  changed(rightTables, func(x *impl.Tables) { x.Parts[0].Windows[1].Size = 30 }),
		"windows that meet":         changed(rightTables, func(x *impl.Tables) { x.Parts[0].Windows[1].Size = 132 }),
		"a window beyond memory":    changed(rightTables, func(x *impl.Tables) { x.Parts[2].Windows[2].Size = 324 }),
		"an entry":                  changed(rightTables, func(x *impl.Tables) { x.Parts[1].Entry = 8 }),
		"an owner":                  changed(rightTables, func(x *impl.Tables) { x.Devs[2] = 3 }),
		"nine devices":              changed(rightTables, func(x *impl.Tables) { x.Devs = make([]int, 9) }),
		"a channel":                 changed(rightTables, func(x *impl.Tables) { x.Chans[0].Depth = 1 }),
		"a channel to nobody":       changed(rightTables, func(x *impl.Tables) { x.Chans[0].To = 3 }),
		"nine channels":             changed(mostTables, func(x *impl.Tables) { x.Chans = append(x.Chans, x.Chans[0]) }),
		"no slot":                   changed(rightTables, func(x *impl.Tables) { x.Slots = nil }),
		"seventeen slots":           slotsOf(17),
		"a slot of nobody":          changed(rightTables, func(x *impl.Tables) { x.Slots[3].Part = 3 }),
		"a slot from below 0":       changed(rightTables, func(x *impl.Tables) { x.Slots[0].Start = -1 }),
		"slots that meet":           changed(rightTables, func(x *impl.Tables) { x.Slots[1].Start = 159 }),
		"slots in another order":    changed(rightTables, func(x *impl.Tables) { slices.Reverse(x.Slots) }),
		"a slot in which none runs": changed(rightTables, func(x *impl.Tables) { x.Slots[2].Len = 110 }),
		"a slot beyond the frame":   changed(rightTables, func(x *impl.Tables) { x.Slots[3].Len = 401 }),
		"a slot beyond int":         changed(rightTables, func(x *impl.Tables) { x.Slots[3].Len = math.MaxInt }),
	}
}

func TestAnswersOfTablesThatAreNotSound(t *testing.T) {
	for what, x := range wrongTables() {
		wantSound(t, what, x, false)
		wantGap(t, x, 0)
		for _, name := range []string{"", "a", "b", "net", "logwrite", "uuuuuuuu"} {
			wantNamed(t, x, name, -1)
		}
		for _, part := range append(oddInts(), -1, 0, 1, 2, 3, 5, 6) {
			wantShare(t, x, part, 0)
		}
		for _, addr := range append(oddInts(), -1, 0, 3, 8, 63, 64, 128, 256, 300, 448, 516, 704, 1023, 2047) {
			wantOwner(t, x, addr, -1)
		}
	}
}

// roomed lays a list at the front of a greater one that is filled up with another value.
func roomed[T any](list []T, filler T) ([]T, []T) {
	// Nothing lies behind the filler, so that a look at the whole is one up to the capacity.
	whole := slices.Clip(append(slices.Clone(list), slices.Repeat([]T{filler}, 9)...))
	return whole[:len(list)], whole
}

// roomyTables have each list at the front of a greater one; the function tells all that those have as a text.
func roomyTables(x impl.Tables) (impl.Tables, func() string) {
	wholes := [][]impl.Window{}
	rows := slices.Clone(x.Parts)
	for p := range rows {
		windows, whole := roomed(rows[p].Windows, win(4, 8, 4))
		rows[p].Windows, wholes = windows, append(wholes, whole)
	}
	behind, whole := roomed([]impl.Window{win(4, 8, 4)}, win(8, 8, 4))
	wholes = append(wholes, whole)
	parts, allParts := roomed(rows, impl.PartRow{Name: "behind", Entry: 4, Windows: behind})
	devs, allDevs := roomed(x.Devs, 7)
	chans, allChans := roomed(x.Chans, impl.ChanRow{Kind: 1, From: 7, To: 8, Depth: 9})
	slots, allSlots := roomed(x.Slots, impl.Slot{Part: 7, Start: 8, Len: 9})
	x.Parts, x.Devs, x.Chans, x.Slots = parts, devs, chans, slots
	return x, func() string {
		return fmt.Sprintf("%+v %+v %+v %+v %+v %+v", x, wholes, allParts, allDevs, allChans, allSlots)
	}
}

// tablesOfAllSorts are sound ones, wrong ones, and drawn ones ahead of a change and behind it.
func tablesOfAllSorts(seed int64) []impl.Tables {
	list := []impl.Tables{}
	for _, maker := range tableMakers() {
		list = append(list, maker())
	}
	for _, x := range wrongTables() {
		list = append(list, x)
	}
	chance := rand.New(rand.NewSource(seed))
	for range 200 {
		x := drawnTables(chance)
		list = append(list, copyTables(x))
		disturb(chance, &x)
		list = append(list, x)
	}
	return list
}

// Promise 26: no list of the tables, and no list within a list, is written into, nor is the room behind it.
func TestTablesStayAsTheyWere(t *testing.T) {
	for _, x := range tablesOfAllSorts(35) {
		given, told := roomyTables(x)
		before := told()
		sound := impl.Sound(given)
		impl.WorstPad(given.Costs, given.Shape, given.Chans)
		impl.PartNamed(given, "a")
		impl.PartNamed(given, "behind")
		impl.GapOf(given)
		for part := -1; part < 8; part++ {
			impl.ShareOf(given, part)
			impl.OwnerOf(given, 64*part)
		}
		if after := told(); after != before {
			t.Fatalf("%s\nbecame\n%s", before, after)
		}
		if impl.Sound(x) != sound || impl.PartNamed(given, "behind") != -1 {
			t.Fatalf("what lies behind a list was looked at: %+v", x)
		}
	}
}
