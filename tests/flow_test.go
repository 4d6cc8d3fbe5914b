package tests

import (
	"fmt"
	"math"
	"math/rand"
	"slices"
	"testing"

	"loop.example/g00076/impl"
)

func sampled(from int, to int) impl.ChanRow {
	return impl.ChanRow{Kind: impl.ChanSample, From: from, To: to}
}

func queued(from int, to int, depth int) impl.ChanRow {
	return impl.ChanRow{Kind: impl.ChanQueue, From: from, To: to, Depth: depth}
}

// flowTables have a window, a slot of 20 running cycles and a device for each partition, the last one's device first; each step takes one cycle.
func flowTables(parts int, chans ...impl.ChanRow) impl.Tables {
	x := impl.Tables{Mem: 512, Shape: impl.Shape{Sets: 1, Ways: 1, Line: 4}, Tlb: 1, Costs: impl.Costs{Base: 1}, Pad: 16 + carriesByHand(chans), Guard: 1, Chans: chans}
	for p := range parts {
		x.Parts = append(x.Parts, impl.PartRow{Name: string(rune('a' + p)), Entry: 64 * p, Windows: []impl.Window{win(64*p, 64, 7)}})
		x.Devs = append(x.Devs, parts-1-p)
		x.Slots = append(x.Slots, impl.Slot{Part: p, Start: x.Major, Len: x.Pad + x.Guard + 20})
		x.Major += x.Pad + x.Guard + 20
	}
	x.Major += 5
	return x
}

// joinedByHand is for whatever tables and number; it asks each partition in order whether it reaches p.
func joinedByHand(x impl.Tables, p int) []int {
	list := []int{}
	if !soundByHand(x) || !isBetween(p, 0, len(x.Parts)-1) {
		return list
	}
	among := reachers(x, p)
	for q := range x.Parts {
		if among[q] == 1 {
			list = append(list, q)
		}
	}
	return list
}

// wantJoined asks Joined, and Influence of all that are in it and of others.
func wantJoined(t *testing.T, what string, x impl.Tables, p int, want ...int) {
	t.Helper()
	if got := impl.Joined(x, p); !slices.Equal(got, want) {
		t.Errorf("%s: Joined of %d over %+v is %v, not %v", what, p, x.Chans, got, want)
	}
	for _, q := range append(oddInts(), -2, -1, 0, 1, 2, 3, 4, 5, 6, 7) {
		if got := impl.Influence(x, q, p); got != slices.Contains(want, q) {
			t.Errorf("%s: Influence of %d on %d over %+v is %v", what, q, p, x.Chans, got)
		}
	}
}

// cmdsByHand is for whatever tables, number and commands.
func cmdsByHand(x impl.Tables, p int, cmds []impl.Cmd) []impl.Cmd {
	left := []impl.Cmd{}
	among := joinedByHand(x, p)
	if len(among) == 0 || len(cmds) > 300 {
		return left
	}
	for _, c := range cmds {
		switch c.Kind {
		case 0:
			left = append(left, impl.Cmd{Kind: 0, At: c.At})
		case 1:
			if isBetween(c.At, 0, len(x.Devs)-1) && slices.Contains(among, x.Devs[c.At]) {
				left = append(left, impl.Cmd{Kind: 1, At: c.At, Word: c.Word})
			}
		case 2:
			if isBetween(c.At, 0, len(x.Parts)-1) && slices.Contains(among, c.At) {
				left = append(left, impl.Cmd{Kind: 2, At: c.At})
			}
		}
	}
	return left
}

// wantCmds asks CmdsFor, and once more of what it leaves.
func wantCmds(t *testing.T, what string, x impl.Tables, p int, cmds []impl.Cmd, want ...impl.Cmd) {
	t.Helper()
	got := impl.CmdsFor(x, p, cmds)
	if !slices.Equal(got, want) {
		t.Errorf("%s: CmdsFor of %d over %+v leaves %v of %.200s, not %v", what, p, x.Chans, got, fmt.Sprint(cmds), want)
	}
	if again := impl.CmdsFor(x, p, got); !slices.Equal(again, got) {
		t.Errorf("%s: CmdsFor of what it left leaves %v, not %v", what, again, got)
	}
}

// sameForByHand is for whatever it is given.
func sameForByHand(x impl.Tables, p int, a [][][]byte, m []impl.Cmd, b [][][]byte, n []impl.Cmd) bool {
	if len(a) != len(x.Parts) || len(b) != len(x.Parts) || len(m) > 300 || len(n) > 300 || !isBetween(p, 0, len(x.Parts)-1) {
		return false
	}
	for q := range x.Parts {
		if !imageOkByHand(x, q, a[q]) || !imageOkByHand(x, q, b[q]) {
			return false
		}
	}
	for _, q := range joinedByHand(x, p) {
		if fmt.Sprint(a[q]) != fmt.Sprint(b[q]) {
			return false
		}
	}
	return slices.Equal(cmdsByHand(x, p, m), cmdsByHand(x, p, n))
}

// wantSame asks SameFor both ways round.
func wantSame(t *testing.T, what string, x impl.Tables, p int, a [][][]byte, m []impl.Cmd, b [][][]byte, n []impl.Cmd, want bool) {
	t.Helper()
	if got := impl.SameFor(x, p, a, m, b, n); got != want {
		t.Errorf("%s: SameFor of %d is %v", what, p, got)
	}
	if got := impl.SameFor(x, p, b, n, a, m); got != want {
		t.Errorf("%s: SameFor of %d is %v the other way round", what, p, got)
	}
}

// wantFirst asks FirstDiff both ways round.
func wantFirst(t *testing.T, what string, a []impl.Event, b []impl.Event, want int) {
	t.Helper()
	wantNumber(t, what+": FirstDiff", impl.FirstDiff(a, b), want)
	wantNumber(t, what+": FirstDiff the other way round", impl.FirstDiff(b, a), want)
}

func TestJoinedByHand(t *testing.T) {
	all := []int{0, 1, 2, 3, 4, 5}
	row := []impl.ChanRow{sampled(0, 1), sampled(1, 2), sampled(2, 3), sampled(3, 4), sampled(4, 5)}
	back := []impl.ChanRow{sampled(5, 4), sampled(4, 3), sampled(3, 2), sampled(2, 1), sampled(1, 0)}
	queues := []impl.ChanRow{queued(0, 1, 1), queued(2, 1, 2), queued(2, 3, 3), queued(4, 3, 4), queued(4, 5, 8)}
	rising, falling, each := [][]int{{0}, {0, 1}, {0, 1, 2}, {0, 1, 2, 3}, {0, 1, 2, 3, 4}, all}, [][]int{all, all[1:], all[2:], all[3:], all[4:], all[5:]}, [][]int{all, all, all, all, all, all}
	turned := func(chans []impl.ChanRow) []impl.ChanRow {
		chans = slices.Clone(chans)
		slices.Reverse(chans)
		return chans
	}
	for what, row := range map[string]struct {
		chans []impl.ChanRow
		want  [][]int
	}{
		"no channel":                     {nil, [][]int{{0}, {1}, {2}, {3}, {4}, {5}}},
		"a sampling one":                 {[]impl.ChanRow{sampled(0, 1)}, [][]int{{0}, {0, 1}, {2}, {3}, {4}, {5}}},
		"a sampling one back":            {[]impl.ChanRow{sampled(1, 0)}, [][]int{{0, 1}, {1}, {2}, {3}, {4}, {5}}},
		"a sampling one to the last":     {[]impl.ChanRow{sampled(2, 5)}, [][]int{{0}, {1}, {2}, {3}, {4}, {2, 5}}},
		"a sampling one twice":           {[]impl.ChanRow{sampled(3, 1), sampled(3, 1)}, [][]int{{0}, {1, 3}, {2}, {3}, {4}, {5}}},
		"sampling both ways":             {[]impl.ChanRow{sampled(3, 1), sampled(1, 3)}, [][]int{{0}, {1, 3}, {2}, {1, 3}, {4}, {5}}},
		"a queuing one":                  {[]impl.ChanRow{queued(0, 1, 1)}, [][]int{{0, 1}, {0, 1}, {2}, {3}, {4}, {5}}},
		"a queuing one back":             {[]impl.ChanRow{queued(5, 2, 8)}, [][]int{{0}, {1}, {2, 5}, {3}, {4}, {2, 5}}},
		"both kinds between two":         {[]impl.ChanRow{sampled(0, 1), queued(0, 1, 1), queued(1, 0, 1)}, [][]int{{0, 1}, {0, 1}, {2}, {3}, {4}, {5}}},
		"sampling ones in a row":         {row, rising},
		"the row told from its end":      {turned(row), rising},
		"a row back":                     {back, falling},
		"the row back told from its end": {turned(back), falling},
		"a ring":                         {append(slices.Clone(row), sampled(5, 0)), each},
		"a ring told from its end":       {turned(append(slices.Clone(row), sampled(5, 0))), each},
		"a ring back":                    {append(slices.Clone(back), sampled(0, 5)), each},
		"a ring of three":                {[]impl.ChanRow{sampled(4, 1), sampled(1, 2), sampled(2, 4), sampled(2, 0)}, [][]int{{0, 1, 2, 4}, {1, 2, 4}, {1, 2, 4}, {3}, {1, 2, 4}, {5}}},
		"queuing ones in a row":          {queues, each},
		"the queues told from their end": {turned(queues), each},
		"a ring of queues":               {append(slices.Clone(queues), queued(5, 0, 1)), each},
		"a sample, then a queue":         {[]impl.ChanRow{sampled(0, 1), queued(1, 2, 1)}, [][]int{{0}, {0, 1, 2}, {0, 1, 2}, {3}, {4}, {5}}},
		"a queue, then a sample":         {[]impl.ChanRow{queued(0, 1, 1), sampled(1, 2)}, [][]int{{0, 1}, {0, 1}, {0, 1, 2}, {3}, {4}, {5}}},
		"two samples out of one":         {[]impl.ChanRow{sampled(3, 0), sampled(3, 5)}, [][]int{{0, 3}, {1}, {2}, {3}, {4}, {3, 5}}},
		"two samples into one":           {[]impl.ChanRow{sampled(0, 3), sampled(5, 3)}, [][]int{{0}, {1}, {2}, {0, 3, 5}, {4}, {5}}},
		"to and fro over all":            {[]impl.ChanRow{sampled(0, 5), sampled(5, 1), sampled(1, 4), sampled(4, 2)}, [][]int{{0}, {0, 1, 5}, {0, 1, 2, 4, 5}, {3}, {0, 1, 4, 5}, {0, 5}}},
		"late ones lead on":              {[]impl.ChanRow{queued(5, 4, 1), sampled(3, 5), queued(3, 0, 1), sampled(2, 0), sampled(4, 1)}, [][]int{{0, 2, 3}, {0, 1, 2, 3, 4, 5}, {2}, {0, 2, 3}, {0, 2, 3, 4, 5}, {0, 2, 3, 4, 5}}},
	} {
		x := flowTables(6, row.chans...)
		wantSound(t, what, x, true)
		for p, want := range row.want {
			wantJoined(t, what, x, p, want...)
			if model := joinedByHand(x, p); !slices.Equal(model, want) {
				t.Errorf("%s: the model says %v of %d, not %v", what, model, p, want)
			}
		}
	}
}

// Of two partitions alone, over each kind of channel both ways.
func TestInfluenceOverEachKind(t *testing.T) {
	for _, row := range []struct {
		chans      []impl.ChanRow
		aToB, bToA bool
	}{
		{nil, false, false},
		{[]impl.ChanRow{sampled(0, 1)}, true, false},
		{[]impl.ChanRow{sampled(1, 0)}, false, true},
		{[]impl.ChanRow{queued(0, 1, 1)}, true, true},
		{[]impl.ChanRow{queued(1, 0, 8)}, true, true},
	} {
		x := flowTables(3, row.chans...)
		for p := range 3 {
			if !impl.Influence(x, p, p) {
				t.Errorf("%+v: %d does not reach itself", row.chans, p)
			}
		}
		if impl.Influence(x, 0, 1) != row.aToB || impl.Influence(x, 1, 0) != row.bToA {
			t.Errorf("%+v: %v and back %v", row.chans, impl.Influence(x, 0, 1), impl.Influence(x, 1, 0))
		}
		for p := range 2 {
			if impl.Influence(x, 2, p) || impl.Influence(x, p, 2) {
				t.Errorf("%+v: over no channel", row.chans)
			}
		}
	}
}

func TestJoinedOfNoPartition(t *testing.T) {
	for _, maker := range append(timeMakers(), partTables, crossTables, longTables) {
		x := maker()
		last := len(x.Parts) - 1
		for _, p := range append(oddInts(), -3, -2, -1, last+1, last+2, 6, 7) {
			wantJoined(t, "no partition", x, p)
		}
		for _, p := range []int{0, last} {
			wantJoined(t, "first and last", x, p, joinedByHand(x, p)...)
			if !slices.Contains(impl.Joined(x, p), p) {
				t.Errorf("%d is not in Joined of itself", p)
			}
		}
	}
}

func TestFlowsOfTablesThatAreNotSound(t *testing.T) {
	cmds := []impl.Cmd{runCmd(5), inputCmd(0, 5), restartCmd(0)}
	images := plainImages(rightTables())
	for what, x := range wrongTables() {
		for p := -2; p < 8; p++ {
			wantJoined(t, what, x, p)
			wantCmds(t, what, x, p, cmds)
			wantSame(t, what, x, p, images, cmds, images, cmds, false)
			wantSame(t, what, x, p, nil, nil, nil, nil, false)
			wantNumber(t, what+": Quiet", impl.Quiet(x, p, images, cmds, images, cmds), -2)
			wantNumber(t, what+": Quiet of nothing", impl.Quiet(x, p, nil, nil, nil, nil), -2)
		}
	}
	// Tables that lack one thing alone, with channels that would lead on.
	for what, change := range map[string]func(x *impl.Tables){
		"pad":             func(x *impl.Tables) { x.Pad-- },
		"guard":           func(x *impl.Tables) { x.Guard = 0 },
		"a channel":       func(x *impl.Tables) { x.Chans[1].Depth = 0 },
		"to itself":       func(x *impl.Tables) { x.Chans[0].To = 0 },
		"to nobody":       func(x *impl.Tables) { x.Chans[0].To = 3 },
		"from below 0":    func(x *impl.Tables) { x.Chans[1].From = -1 },
		"a device's part": func(x *impl.Tables) { x.Devs[0] = 3 },
		"a slot's part":   func(x *impl.Tables) { x.Slots[2].Part = -1 },
	} {
		x := changed(func() impl.Tables { return flowTables(3, sampled(0, 1), queued(1, 2, 1)) }, change)
		for p := range 4 {
			wantJoined(t, what, x, p)
			wantCmds(t, what, x, p, cmds)
			wantSame(t, what, x, p, plainImages(x), cmds, plainImages(x), cmds, false)
			wantNumber(t, what, impl.Quiet(x, p, plainImages(x), cmds, plainImages(x), cmds), -2)
		}
	}
}

// What is joined is ascending, has p and no partition twice, and nothing leads into it from outside; who reaches one that reaches p reaches p.
func TestJoinedOfDrawnTables(t *testing.T) {
	chance := rand.New(rand.NewSource(205))
	sizes := [7]int{}
	for range 1500 {
		x := drawnTables(chance)
		if chance.Intn(5) == 0 {
			disturb(chance, &x)
		}
		for p := -1; p < 7; p++ {
			got := impl.Joined(x, p)
			wantJoined(t, "drawn", x, p, joinedByHand(x, p)...)
			sizes[len(got)]++
			for n, q := range got {
				if n > 0 && got[n-1] >= q {
					t.Errorf("not ascending: %v", got)
				}
				for _, r := range impl.Joined(x, q) {
					if !slices.Contains(got, r) {
						t.Errorf("%d reaches %d, which reaches %d: %v", r, q, p, got)
					}
				}
			}
			for _, r := range x.Chans {
				isTo, isFrom := slices.Contains(got, r.To), slices.Contains(got, r.From)
				if isTo && !isFrom || isFrom && !isTo && r.Kind == impl.ChanQueue {
					t.Errorf("%+v leads into %v", r, got)
				}
			}
		}
	}
	if slices.Min(sizes[:]) < 100 {
		t.Error("too few of a size:", sizes)
	}
}

func TestCmdsForByHand(t *testing.T) {
	// Device 3 is of partition 0, device 2 of 1, device 1 of 2 and device 0 of 3.
	x := flowTables(4, sampled(0, 1), queued(2, 1, 1))
	cmds := []impl.Cmd{
		{Kind: 0, At: 5, Word: 3}, {Kind: 1, At: 0, Word: 10}, {Kind: 1, At: 1, Word: 11}, {Kind: 1, At: 2, Word: 12}, {Kind: 1, At: 3, Word: 13},
		{Kind: 2, At: 0, Word: 20}, {Kind: 2, At: 1, Word: 21}, {Kind: 2, At: 2, Word: 22}, {Kind: 2, At: 3, Word: 23},
		{Kind: 0, At: -1, Word: 4}, {Kind: 3, At: 0, Word: 5}, {Kind: -1, At: 0, Word: 6}, {Kind: 1, At: 4, Word: 7}, {Kind: 1, At: -1, Word: 8}, {Kind: 2, At: 4, Word: 9}, {Kind: 2, At: -1}, {Kind: 0, At: 60000, Word: 1},
	}
	wantCmds(t, "of a", x, 0, cmds, runCmd(5), inputCmd(3, 13), restartCmd(0), runCmd(-1), runCmd(60000))
	joined := []impl.Cmd{runCmd(5), inputCmd(1, 11), inputCmd(2, 12), inputCmd(3, 13), restartCmd(0), restartCmd(1), restartCmd(2), runCmd(-1), runCmd(60000)}
	wantCmds(t, "of b", x, 1, cmds, joined...)
	wantCmds(t, "of c", x, 2, cmds, joined...)
	wantCmds(t, "of d", x, 3, cmds, runCmd(5), inputCmd(0, 10), restartCmd(3), runCmd(-1), runCmd(60000))
	for _, p := range append(oddInts(), -2, -1, 4, 5, 6) {
		wantCmds(t, "of no partition", x, p, cmds)
		wantCmds(t, "of no partition", x, p, nil)
	}
	for p := range 4 {
		wantCmds(t, "no command", x, p, nil)
		wantCmds(t, "an empty list", x, p, []impl.Cmd{})
		// The order is that of the list.
		turned := slices.Clone(cmds)
		slices.Reverse(turned)
		want := impl.CmdsFor(x, p, cmds)
		slices.Reverse(want)
		wantCmds(t, "turned", x, p, turned, want...)
		wantCmds(t, "twice", x, p, slices.Concat(cmds, cmds), slices.Concat(impl.CmdsFor(x, p, cmds), impl.CmdsFor(x, p, cmds))...)
	}
}

// Each command alone, of whatever Kind and At; of Word only what is named is kept.
func TestCmdsForOfEachCommand(t *testing.T) {
	x := flowTables(4, sampled(0, 1), queued(2, 1, 1))
	odd := append(oddInts(), -50001, -5, -4, -3, -2, -1, 0, 1, 2, 3, 4, 5, 6, 7, 8, 9, 50000, 50001)
	for p := -1; p < 5; p++ {
		for _, at := range odd {
			for _, w := range []uint32{0, 1, 5, math.MaxUint32} {
				for _, kind := range odd {
					c := impl.Cmd{Kind: kind, At: at, Word: w}
					wantCmds(t, "alone", x, p, []impl.Cmd{c}, cmdsByHand(x, p, []impl.Cmd{c})...)
				}
				if isBetween(p, 0, 3) {
					wantCmds(t, "a run", x, p, []impl.Cmd{{At: at, Word: w}}, runCmd(at))
				}
			}
		}
		for _, w := range someWords() {
			if isBetween(p, 0, 3) {
				wantCmds(t, "a word", x, p, []impl.Cmd{inputCmd(3-p, w), {Kind: 2, At: p, Word: w}}, inputCmd(3-p, w), restartCmd(p))
			}
		}
	}
	// With no device there is none to come to.
	x.Devs = nil
	for _, at := range odd {
		wantCmds(t, "no device", x, 0, []impl.Cmd{inputCmd(at, 5)})
	}
}

// As many commands as there may be are gone through; one more, and nothing is left, whatever would be.
func TestCmdsForByCount(t *testing.T) {
	x := flowTables(3, sampled(0, 1))
	for what, c := range map[string]impl.Cmd{"run": runCmd(1), "input": inputCmd(2, 5), "restart": restartCmd(0), "another's input": inputCmd(1, 5), "another's restart": restartCmd(2), "bad": {Kind: 9}} {
		for _, count := range []int{1, 2, 299, 300, 301, 302, 600, 1<<16 + 1} {
			cmds := slices.Repeat([]impl.Cmd{c}, count)
			want := cmds
			if count > 300 || what != "run" && what != "input" && what != "restart" {
				want = nil
			}
			wantCmds(t, what, x, 0, cmds, want...)
		}
	}
	few := append(slices.Repeat([]impl.Cmd{restartCmd(2)}, 299), runCmd(7))
	wantCmds(t, "few of many", x, 0, few, runCmd(7))
	wantCmds(t, "few of too many", x, 0, append(few, restartCmd(2)))
}

func TestCmdsForOfDrawnCommands(t *testing.T) {
	chance := rand.New(rand.NewSource(206))
	left, out := 0, 0
	for range 400 {
		x := drawnTables(chance)
		cmds := drawnCmds(chance, x, 40, 4*x.Major)
		for n := range cmds {
			if cmds[n].Kind != impl.CmdInput && chance.Intn(2) == 0 {
				cmds[n].Word = chance.Uint32()
			}
		}
		for p := -1; p <= len(x.Parts); p++ {
			want := cmdsByHand(x, p, cmds)
			wantCmds(t, "drawn", x, p, cmds, want...)
			left, out = left+len(want), out+len(cmds)-len(want)
		}
	}
	if left < 5000 || out < 5000 {
		t.Error("too few are left, or left out:", left, out)
	}
}

// turnedImages are the images with one byte turned, at a window of a partition.
func turnedImages(images [][][]byte, p int, window int, at int, by byte) [][][]byte {
	image := copyImage(images[p])
	image[window][at] ^= by
	return withImage(images, p, image)
}

func TestSameForByImages(t *testing.T) {
	x := partTables()
	x.Chans = []impl.ChanRow{sampled(0, 1)}
	images := plainImages(x)
	cmds := []impl.Cmd{runCmd(700), inputCmd(0, 5), restartCmd(2)}
	for p := range 3 {
		wantSame(t, "the same", x, p, images, cmds, images, cmds, true)
		wantSame(t, "a copy", x, p, images, cmds, [][][]byte{copyImage(images[0]), copyImage(images[1]), copyImage(images[2])}, slices.Clone(cmds), true)
		wantSame(t, "no command", x, p, images, nil, images, []impl.Cmd{}, true)
		for q, row := range x.Parts {
			for window, w := range row.Windows {
				for _, at := range []int{0, 1, w.Size / 2, w.Size - 1} {
					for _, by := range []byte{1, 128, 255} {
						turned := turnedImages(images, q, window, at, by)
						wantSame(t, fmt.Sprint("turned at ", q), x, p, images, cmds, turned, cmds, q != p && (p != 1 || q != 0))
						wantSame(t, fmt.Sprint("turned twice at ", q), x, p, turned, cmds, turned, cmds, true)
					}
				}
			}
		}
	}
}

// Wrong images on one side, also where they are of a partition that cannot reach p.
func TestSameForOfWrongImages(t *testing.T) {
	x := partTables()
	x.Chans = []impl.ChanRow{sampled(0, 1)}
	images, cmds := plainImages(x), []impl.Cmd{runCmd(700)}
	wrong := map[string][][][]byte{"none": nil, "one too few": images[:2], "one too many": append(slices.Clone(images), images[0]), "an empty one too many": append(slices.Clone(images), nil)}
	for q := range x.Parts {
		wrong[fmt.Sprint("nothing of ", q)] = withImage(images, q, nil)
		wrong[fmt.Sprint("a list too few of ", q)] = withImage(images, q, images[q][1:])
		wrong[fmt.Sprint("a list too many of ", q)] = withImage(images, q, append(copyImage(images[q]), nil))
		longer := copyImage(images[q])
		longer[0] = append(longer[0], 0)
		wrong[fmt.Sprint("a byte too many of ", q)] = withImage(images, q, longer)
		shorter := copyImage(images[q])
		shorter[0] = shorter[0][1:]
		wrong[fmt.Sprint("a byte too few of ", q)] = withImage(images, q, shorter)
	}
	for what, bad := range wrong {
		for p := -1; p < 4; p++ {
			wantSame(t, what, x, p, images, cmds, bad, cmds, false)
			wantSame(t, what+" on both sides", x, p, bad, cmds, bad, cmds, false)
			wantQuiet(t, what, x, p, images, cmds, bad, cmds, -2)
			wantQuiet(t, what+" on both sides", x, p, bad, cmds, bad, cmds, -2)
		}
	}
	for _, p := range append(oddInts(), -2, -1, 3, 4, 6) {
		wantSame(t, "no partition", x, p, images, cmds, images, cmds, false)
		wantSame(t, "no partition, no command", x, p, images, nil, images, nil, false)
	}
}

func TestSameForByCommands(t *testing.T) {
	// Device 2 is of partition 0, device 1 of 1, device 0 of 2.
	x := flowTables(3, sampled(0, 1))
	images := turningAll(x)
	base := []impl.Cmd{runCmd(50), inputCmd(2, 5), runCmd(30), restartCmd(0), runCmd(7)}
	with := func(at int, c impl.Cmd) []impl.Cmd { return slices.Insert(slices.Clone(base), at, c) }
	for what, row := range map[string]struct {
		cmds []impl.Cmd
		// Whether it is the same for each of the three.
		want [3]bool
	}{
		"as they are":                {base, [3]bool{true, true, true}},
		"another run":                {with(1, runCmd(1)), [3]bool{}},
		"a run of nothing":           {with(1, runCmd(0)), [3]bool{}},
		"a run that is bad":          {with(1, runCmd(-1)), [3]bool{}},
		"a run in two":               {[]impl.Cmd{runCmd(25), runCmd(25), inputCmd(2, 5), runCmd(30), restartCmd(0), runCmd(7)}, [3]bool{}},
		"a word beside a run":        {append(slices.Clone(base[:4]), impl.Cmd{At: 7, Word: 9}), [3]bool{true, true, true}},
		"a word beside a restart":    {[]impl.Cmd{base[0], base[1], base[2], {Kind: 2, At: 0, Word: 9}, base[4]}, [3]bool{true, true, true}},
		"another word comes":         {[]impl.Cmd{base[0], inputCmd(2, 6), base[2], base[3], base[4]}, [3]bool{false, false, true}},
		"a word more of a":           {with(5, inputCmd(2, 5)), [3]bool{false, false, true}},
		"a word less of a":           {append([]impl.Cmd{base[0]}, base[2:]...), [3]bool{false, false, true}},
		"a restart more of a":        {with(0, restartCmd(0)), [3]bool{false, false, true}},
		"a restart less of a":        {append(slices.Clone(base[:3]), base[4]), [3]bool{false, false, true}},
		"a word of b":                {with(3, inputCmd(1, 5)), [3]bool{true, false, true}},
		"a restart of b":             {with(2, restartCmd(1)), [3]bool{true, false, true}},
		"a word of c":                {with(0, inputCmd(0, 5)), [3]bool{true, true, false}},
		"a restart of c":             {with(5, restartCmd(2)), [3]bool{true, true, false}},
		"no kind":                    {with(1, impl.Cmd{Kind: 3, At: 0, Word: 5}), [3]bool{true, true, true}},
		"a kind below 0":             {with(1, impl.Cmd{Kind: -1, At: 0, Word: 5}), [3]bool{true, true, true}},
		"no device":                  {with(1, inputCmd(3, 5)), [3]bool{true, true, true}},
		"a device below 0":           {with(1, inputCmd(-1, 5)), [3]bool{true, true, true}},
		"no partition":               {with(1, restartCmd(3)), [3]bool{true, true, true}},
		"in another order":           {[]impl.Cmd{base[1], base[0], base[2], base[3], base[4]}, [3]bool{false, false, true}},
		"none":                       {nil, [3]bool{}},
		"the beginning of them":      {base[:4], [3]bool{}},
		"as many as there may be":    {slices.Concat(base, slices.Repeat([]impl.Cmd{{Kind: 7}}, 295)), [3]bool{true, true, true}},
		"one more than there may be": {slices.Concat(base, slices.Repeat([]impl.Cmd{{Kind: 7}}, 296)), [3]bool{}},
	} {
		for p, want := range row.want {
			wantSame(t, what, x, p, images, base, images, row.cmds, want)
			wantSame(t, what+" on both sides", x, p, images, row.cmds, images, row.cmds, len(row.cmds) <= 300)
			if model := sameForByHand(x, p, images, base, images, row.cmds); model != want {
				t.Errorf("%s: the model says %v of %d", what, model, p)
			}
			if want && impl.Quiet(x, p, images, base, images, row.cmds) != -1 {
				t.Errorf("%s: %d sees what it must not", what, p)
			}
		}
	}
	// Too many are too many also where none of them would be left, as on the other side.
	for p := range 3 {
		for _, none := range [][]impl.Cmd{nil, {{Kind: 7}}, {restartCmd(3)}} {
			wantSame(t, "none that matters", x, p, images, none, images, slices.Repeat([]impl.Cmd{{Kind: 7}}, 300), true)
			wantSame(t, "too many of which none matters", x, p, images, none, images, slices.Repeat([]impl.Cmd{{Kind: 7}}, 301), false)
		}
	}
}

// someEvents are as many events, no two alike.
func someEvents(count int) []impl.Event {
	list := []impl.Event{}
	for n := range count {
		list = append(list, impl.Event{At: 3 * n, Cost: 1 + n%3, PC: uint32(4 * n), Op: n % 33, Fault: n % 10, Cause: n % 34, Sum: uint32(7 * n)})
	}
	return list
}

// eventChange changes one field alone.
type eventChange struct {
	field string
	turn  func(e *impl.Event)
}

func eventChanges() []eventChange {
	return []eventChange{
		{"At", func(e *impl.Event) { e.At++ }}, {"At far", func(e *impl.Event) { e.At += 1 << 32 }},
		{"Cost", func(e *impl.Event) { e.Cost-- }}, {"Cost far", func(e *impl.Event) { e.Cost ^= math.MinInt }},
		{"PC", func(e *impl.Event) { e.PC += 4 }}, {"PC far", func(e *impl.Event) { e.PC ^= 1 << 31 }},
		{"Op", func(e *impl.Event) { e.Op = -1 }}, {"Op far", func(e *impl.Event) { e.Op += 256 }},
		{"Fault", func(e *impl.Event) { e.Fault++ }}, {"Fault far", func(e *impl.Event) { e.Fault = -e.Fault - 1 }},
		{"Cause", func(e *impl.Event) { e.Cause++ }}, {"Cause far", func(e *impl.Event) { e.Cause += 1 << 16 }},
		{"Sum", func(e *impl.Event) { e.Sum++ }}, {"Sum far", func(e *impl.Event) { e.Sum ^= 1 << 31 }},
	}
}

func TestFirstDiffOfEachField(t *testing.T) {
	for _, count := range []int{1, 2, 3, 17} {
		list := someEvents(count)
		for _, change := range eventChanges() {
			for at := range count {
				field, other := change.field, slices.Clone(list)
				change.turn(&other[at])
				wantFirst(t, fmt.Sprint(field, " at ", at, " of ", count), list, other, at)
				wantFirst(t, fmt.Sprint(field, " at ", at, ", and one is longer"), list, append(slices.Clone(other), impl.Event{}), at)
				// The first place counts, whatever differs behind it.
				for behind := at + 1; behind < count; behind++ {
					two := slices.Clone(other)
					change.turn(&two[behind])
					wantFirst(t, fmt.Sprint(field, " at ", at, " and ", behind), list, two, at)
				}
			}
		}
	}
}

func TestFirstDiffByLength(t *testing.T) {
	wantFirst(t, "two that are nil", nil, nil, -1)
	wantFirst(t, "nil and an empty one", nil, []impl.Event{}, -1)
	wantFirst(t, "two empty ones", []impl.Event{}, []impl.Event{}, -1)
	list := someEvents(40)
	for count := range 41 {
		wantFirst(t, fmt.Sprint(count, " and as many"), list[:count], slices.Clone(list[:count]), -1)
		for more := count + 1; more <= 40; more++ {
			wantFirst(t, fmt.Sprint(count, " are the beginning of ", more), list[:count], list[:more], count)
		}
	}
	// An event that is the zero value is one too.
	wantFirst(t, "a zero value more", list[:5], append(slices.Clone(list[:5]), impl.Event{}), 5)
	wantFirst(t, "a zero value alone", nil, make([]impl.Event, 1), 0)
}

func TestFirstDiffAtItsLimit(t *testing.T) {
	most := someEvents(50000)
	wantFirst(t, "the most", most, slices.Clone(most), -1)
	wantFirst(t, "the most and none", most, nil, 0)
	wantFirst(t, "the most and one less", most, most[:49999], 49999)
	last := slices.Clone(most)
	last[49999].Sum++
	wantFirst(t, "the last of the most", most, last, 49999)
	beyond := append(slices.Clone(most), impl.Event{})
	wantFirst(t, "one beyond, and the most", most, beyond, -1)
	wantFirst(t, "one beyond, and none", nil, beyond, -1)
	wantFirst(t, "one beyond, and another", beyond[:7], beyond, -1)
	wantFirst(t, "both beyond, the same", beyond, slices.Clone(beyond), -1)
	other := slices.Clone(beyond)
	other[0].At = 9
	wantFirst(t, "both beyond", beyond, other, -1)
	wantFirst(t, "one beyond, and others", other[:3], beyond, -1)
	wantFirst(t, "far beyond", nil, make([]impl.Event, 120000), -1)
}

func TestFirstDiffOfDrawnEvents(t *testing.T) {
	chance := rand.New(rand.NewSource(207))
	changes := eventChanges()
	for range 3000 {
		a := someEvents(chance.Intn(30))
		b := slices.Clone(a[:chance.Intn(len(a)+1)])
		for _, change := range changes {
			if len(b) > 0 && chance.Intn(20) == 0 {
				change.turn(&b[chance.Intn(len(b))])
			}
		}
		want := 0
		for want < len(a) && want < len(b) && fmt.Sprint(a[want]) == fmt.Sprint(b[want]) {
			want++
		}
		if want == len(a) && want == len(b) {
			want = -1
		}
		wantFirst(t, "drawn", a, b, want)
	}
}
