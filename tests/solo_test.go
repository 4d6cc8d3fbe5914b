package tests

import (
	"fmt"
	"math/rand"
	"runtime"
	"slices"
	"testing"
	"time"

	"loop.example/g00076/impl"
)

// rowByHand does what one right row says.
func rowByHand(x impl.Tables, p int, s impl.PartState, f impl.Feed) impl.PartState {
	after := copyPart(s)
	switch f.Kind {
	case 0:
		if after.Ins[f.At].Ready = slices.Clone(f.Words); x.Chans[f.At].Kind == 1 {
			all := slices.Concat(s.Ins[f.At].Ready, f.Words)
			after.Ins[f.At].Ready = all[:min(len(all), x.Chans[f.At].Depth)]
		}
	case 1:
		after.Outs[f.At] = impl.OutEnd{Held: f.Held}
	case 2:
		after, _ = inputByHand(s, f.At, f.Words[0])
	case 3:
		after = restartByHand(x, p, s)
	}
	return after
}

// soloByHand goes over a painted chart cycle by cycle; the image and the feed are right.
func soloByHand(x impl.Tables, p int, image [][]byte, feed []impl.Feed, cycles int) ([]impl.Event, impl.PartState) {
	chart, s, events := chartUpTo(x, cycles), bootByHand(x, p, image), []impl.Event{}
	for c := 0; ; c++ {
		for len(feed) > 0 && feed[0].Cycle == c {
			s, feed = rowByHand(x, p, s, feed[0]), feed[1:]
		}
		if c == cycles {
			return events, s
		}
		own := chart[c].part == p
		if own && chart[c].first {
			s = slotByHand(x, p, s, c)
		}
		if own && chart[c].phase == impl.PhaseRun && s.Next <= c && !s.Idle && !s.Health.Halted {
			after, e := partStepByHand(x, p, s, c)
			s, events = after, append(events, e)
		}
	}
}

// wantStepsInSlots holds promise 18 of one run: no two steps overlap, each is in a slot of the partition from its first cycle to its last, and all but one at most have ended.
func wantStepsInSlots(t *testing.T, what string, x impl.Tables, p int, events []impl.Event, cycles int) {
	t.Helper()
	chart, free := chartUpTo(x, cycles), 0
	for n, e := range events {
		if e.At < free || e.At >= cycles || e.Cost < 1 {
			t.Fatalf("%s: event %d begins too soon or too late: %+v", what, n, e)
		}
		free = e.At + e.Cost
		now, last := chart[e.At], chart[free-1]
		if now.part != p || now.phase != impl.PhaseRun || last.slot != now.slot || last.frame != now.frame {
			t.Fatalf("%s: event %d is not in one slot of partition %d: %+v", what, n, p, e)
		}
	}
	if !impl.InSlots(x, p, events) {
		t.Errorf("%s: not InSlots", what)
	}
	if left := len(events) - impl.Retired(events, cycles); !isBetween(left, 0, 1) {
		t.Errorf("%s: %d steps have not ended", what, left)
	}
}

// wantSolo holds a machine alone against the model and against its promise.
func wantSolo(t *testing.T, what string, x impl.Tables, p int, image [][]byte, feed []impl.Feed, cycles int) ([]impl.Event, impl.PartState) {
	t.Helper()
	events, s, is := impl.Solo(x, p, image, feed, cycles)
	want, state := soloByHand(x, p, image, feed, cycles)
	if !slices.Equal(events, want) {
		t.Errorf("%s: %d cycles of partition %d: %+v\nnot\n%+v", what, cycles, p, events, want)
	}
	wantPart(t, what, s, is, state, true)
	wantPartOk(t, what, x, p, s, true)
	wantStepsInSlots(t, what, x, p, events, cycles)
	return events, s
}

// imageWith has these lines from the partition's Entry on.
func imageWith(t *testing.T, x impl.Tables, p int, lines ...string) [][]byte {
	t.Helper()
	return running(t, x, p, lines...).Guest.Ram
}

// drawnImage has instructions wherever it may be run.
func drawnImage(chance *rand.Rand, ws []impl.Window) [][]byte {
	g := drawnGuest(chance, ws)
	layDrawn(chance, ws, g)
	return g.Ram
}

// talking reads and sends over and over, on all that partition 0 of partTables has.
func talking(t *testing.T) [][]byte {
	t.Helper()
	return imageWith(t, partTables(), 0, "again:", "recv r1 r2 2", "recv r3 r4 3", "rdev r5 r6 0", "rdev r7 r8 2", "send r9 r2 0", "send r10 r4 1", "send r11 r6 6", "rdc r12", "sw r12 r13 128", "jal r0 again")
}

// counting is a loop of two instructions on one line: once it is near, a step takes one cycle.
func counting(t *testing.T, x impl.Tables, p int) [][]byte {
	t.Helper()
	return imageWith(t, x, p, "again:", "addi r1 r1 1", "jal r0 again")
}

// handling takes interrupts: its handler reads device 2.
func handling(t *testing.T) [][]byte {
	t.Helper()
	return imageWith(t, partTables(), 0, "addi r1 r0 40", "csrw r1 1", "addi r2 r0 1", "csrw r2 0", "jal r0 -1", "nop", "nop", "nop", "rdev r3 r4 2", "csrr r5 3", "iret")
}

// someMachines are images of partition 0 of partTables: those that go on, one that halts, one that rests until its next slot, and one that faults at once.
func someMachines(t *testing.T) map[string][][]byte {
	t.Helper()
	x := partTables()
	return map[string][][]byte{
		"talking": talking(t), "counting": counting(t, x, 0), "handling": handling(t),
		"halting": imageWith(t, x, 0, "send r1 r0 0", "recv r2 r3 2", "trap 1"),
		"resting": imageWith(t, x, 0, "again:", "rdev r1 r2 0", "send r3 r2 6", "yield", "jal r0 again"),
		"faulty":  imageWith(t, x, 0, ".word 4294967295"),
	}
}

// soloEdges are cycles of partTables at which something changes for partition 0, and some between them.
func soloEdges() []int {
	return []int{0, 1, 129, 130, 131, 161, 162, 166, 250, 339, 340, 341, 499, 500, 900, 1399, 1400, 1401, 1530, 1531, 1540, 1999, 2000, 2001, 2130}
}

func TestSoloByNumbers(t *testing.T) {
	x := partTables()
	image := counting(t, x, 0)
	events, s := wantSolo(t, "counting", x, 0, image, nil, 2000)
	// From 130 on a step that misses and walks, then one in each cycle up to 339; of the second slot a step that ends behind its last cycle to begin one.
	if len(events) != 181 || impl.BusyOf(events) != 31+179+31 || s.Guest.Regs[1] != 91 || s.Next != 1561 || s.Idle {
		t.Error(len(events), impl.BusyOf(events), partText(s))
	}
	regs := make([]uint32, 16)
	regs[1] = 1
	for n, want := range map[int]impl.Event{
		0: {At: 130, Cost: 31, PC: 8, Op: impl.OpAddi, Sum: impl.FoldWords(regs)},
		1: {At: 161, Cost: 1, PC: 12, Op: impl.OpJal, Sum: impl.FoldWords(regs)},
	} {
		if events[n] != want {
			t.Errorf("event %d: %+v, not %+v", n, events[n], want)
		}
	}
	if events[179].At != 339 || events[180].At != 1530 || events[180].Cost != 31 {
		t.Error(events[179:])
	}
	for cycles, count := range map[int]int{0: 0, 1: 0, 130: 0, 131: 1, 161: 1, 162: 2, 163: 3, 339: 179, 340: 180, 341: 180, 1530: 180, 1531: 181, 2130: 181, 2131: 182, 2162: 183} {
		events, _ := wantSolo(t, "counting", x, 0, image, nil, cycles)
		wantNumber(t, fmt.Sprint("events in ", cycles), len(events), count)
	}
}

func TestSoloOfNoCycles(t *testing.T) {
	x := partTables()
	for p, row := range x.Parts {
		image := imageOver(row.Windows)
		for _, feed := range [][]impl.Feed{nil, {}} {
			events, s, is := impl.Solo(x, p, image, feed, 0)
			wantPart(t, "no cycles", s, is, bootByHand(x, p, image), true)
			wantNumber(t, "no events", len(events), 0)
		}
		for _, f := range eachRow(x, p, 0) {
			events, s, is := impl.Solo(x, p, image, []impl.Feed{f}, 0)
			wantPart(t, "no cycles", s, is, rowByHand(x, p, bootByHand(x, p, image), f), true)
			wantNumber(t, "no events", len(events), 0)
		}
	}
}

// Each kind of row, with each channel and device, at each edge of a slot and at the last cycles of all, on machines of each kind.
func TestSoloWithEachRowAtEachEdge(t *testing.T) {
	x := partTables()
	machines := someMachines(t)
	for _, what := range []string{"talking", "handling", "halting", "resting"} {
		image := machines[what]
		for _, cycle := range soloEdges() {
			for _, f := range eachRow(x, 0, cycle) {
				feed := []impl.Feed{f}
				if cycle > 0 {
					// What was there ahead of the row is to be seen too.
					feed = []impl.Feed{inRow(0, 2, 91, 92), inRow(0, 3, 93), heldRow(0, 0, 1), devRow(0, 0, 94), f}
				}
				for _, cycles := range []int{cycle, cycle + 1, cycle + 170} {
					wantSolo(t, fmt.Sprintf("%s, %+v", what, f), x, 0, image, feed, cycles)
				}
			}
		}
		if t.Failed() {
			return
		}
	}
}

// A row is done ahead of the start of a slot and ahead of a step at its cycle; a cycle later it is too late for both.
func TestSoloDoesRowsAheadOfAllElse(t *testing.T) {
	x := partTables()
	image := imageWith(t, x, 0, "rdev r1 r2 0", "recv r3 r4 2", "recv r5 r6 3", "yield")
	for _, row := range []struct {
		at   int
		seen uint32
	}{{0, 77}, {1, 0}, {129, 0}} {
		_, s := wantSolo(t, "a device", x, 0, image, []impl.Feed{devRow(row.at, 0, 77)}, 400)
		wantNumber(t, fmt.Sprint("seen from ", row.at), int(s.Guest.Regs[2]), int(row.seen))
	}
	// The steps begin at 130 and at 166: 31 and Trap for the first one, which brings the line of both.
	events, _ := wantSolo(t, "when they begin", x, 0, image, nil, 400)
	if events[1].At != 166 || events[1].Op != impl.OpRecv || events[2].Op != impl.OpRecv {
		t.Fatal(events)
	}
	for _, at := range []int{0, 130, 165, 166} {
		_, s := wantSolo(t, "words", x, 0, image, []impl.Feed{inRow(at, 2, 5, 6)}, 400)
		if s.Guest.Regs[3] != impl.ChanDone || s.Guest.Regs[4] != 5 || !slices.Equal(s.Ins[2].Ready, []uint32{6}) {
			t.Error("words at", at, partText(s))
		}
	}
	_, s := wantSolo(t, "words", x, 0, image, []impl.Feed{inRow(167, 2, 5, 6)}, 400)
	if s.Guest.Regs[3] != impl.ChanEmpty || s.Guest.Regs[4] != 0 || !slices.Equal(s.Ins[2].Ready, []uint32{5, 6}) {
		t.Error("words behind the step", partText(s))
	}
	at := events[2].At
	_, s = wantSolo(t, "shown", x, 0, image, []impl.Feed{inRow(at, 3, 8)}, 400)
	wantNumber(t, "shown at the step", int(s.Guest.Regs[6]), 8)
	_, s = wantSolo(t, "shown", x, 0, image, []impl.Feed{inRow(at+1, 3, 8)}, 400)
	wantNumber(t, "shown behind the step", int(s.Guest.Regs[6]), 0)
}

// At the last cycle a row comes ahead of the step there; at cycles itself behind it, and no slot starts any more.
func TestSoloAtTheLastCycles(t *testing.T) {
	x := partTables()
	image := counting(t, x, 0)
	for _, row := range []struct {
		at, cycles, events int
		idle               bool
	}{
		{130, 131, 0, true}, {131, 131, 1, true}, {161, 162, 1, true}, {162, 162, 2, true}, {339, 340, 179, true}, {340, 340, 180, true},
		{0, 1, 0, false}, {0, 0, 0, true}, {1400, 1401, 180, false}, {1400, 1400, 180, true}, {2000, 2001, 181, false}, {2000, 2000, 181, true},
	} {
		events, s := wantSolo(t, "a restart", x, 0, image, []impl.Feed{restartRow(row.at)}, row.cycles)
		if len(events) != row.events || s.Idle != row.idle || s.Guest.Regs[1] != 0 || s.Guest.PC != 8 {
			t.Error(row, len(events), partText(s))
		}
	}
	for _, start := range []int{0, 1400, 2000, 3400} {
		_, s := wantSolo(t, "ahead of a slot", x, 0, image, []impl.Feed{devRow(start, 2, 7)}, start)
		if !sameDev(s.Devs[2], impl.DevState{Latch: []uint32{7}}) || s.Virt.Pend != 0 {
			t.Error("seen ahead of its slot", partText(s))
		}
		_, s = wantSolo(t, "at a slot", x, 0, image, []impl.Feed{devRow(start, 2, 7)}, start+1)
		if !sameDev(s.Devs[2], impl.DevState{Seen: []uint32{7}}) || s.Virt.Pend != 4 || s.Next != start+130 {
			t.Error("not seen in its slot", partText(s))
		}
	}
}

func TestSoloDoesRowsInTheirOrder(t *testing.T) {
	x := partTables()
	image := counting(t, x, 0)
	for _, at := range []int{0, 130, 400, 1400, 2001} {
		_, s := wantSolo(t, "several rows", x, 0, image, []impl.Feed{
			inRow(at, 2, 1), inRow(at, 3, 11), inRow(at, 2, 2, 3), heldRow(at, 0, 2), heldRow(at, 0, 1), inRow(at, 3, 12), inRow(at, 2, 4),
			devRow(at, 4, 21), devRow(at, 2, 31), devRow(at, 4, 22), restartRow(at), devRow(at, 4, 23), heldRow(at, 6, 7), heldRow(at, 6, 8),
		}, at)
		if !slices.Equal(s.Ins[2].Ready, []uint32{1, 2, 3}) || !slices.Equal(s.Ins[3].Ready, []uint32{12}) {
			t.Error(s.Ins)
		}
		if s.Outs[0].Held != 1 || s.Outs[6].Held != 8 || !slices.Equal(s.Devs[4].Latch, []uint32{21, 22, 23}) || !slices.Equal(s.Devs[2].Latch, []uint32{31}) {
			t.Error(s.Outs, s.Devs)
		}
	}
}

// Of what is fed beyond Depth the first words stay, however they came.
func TestSoloFeedsNoMoreThanDepth(t *testing.T) {
	x := partTables()
	image := imageOver(x.Parts[2].Windows)
	for first := range 9 {
		for second := 1; second < 9; second++ {
			for _, between := range []int{0, 1} {
				feed := []impl.Feed{inRow(0, 6, numbered(1, max(first, 1))...), inRow(between, 6, numbered(100, second)...), inRow(between, 4, 5), inRow(between, 4, 6)}
				if first == 0 {
					feed = feed[1:]
				}
				_, s := wantSolo(t, "beyond Depth", x, 2, image, feed, 1)
				want := slices.Concat(numbered(1, first), numbered(100, second))
				if !slices.Equal(s.Ins[6].Ready, want[:min(len(want), 8)]) || !slices.Equal(s.Ins[4].Ready, []uint32{5}) {
					t.Error(first, second, s.Ins)
				}
			}
		}
	}
}

// What the guest takes out of a full channel makes room for what is fed behind it.
func TestSoloFeedsWhatHasRoom(t *testing.T) {
	x := partTables()
	image := imageWith(t, x, 0, "recv r1 r2 2", "recv r1 r3 2", "recv r1 r4 2", "recv r1 r5 2", "recv r1 r6 2", "yield")
	feed := []impl.Feed{inRow(0, 2, 1, 2, 3), inRow(0, 2, 4), inRow(140, 2, 5, 6)}
	_, s := wantSolo(t, "room", x, 0, image, feed, 500)
	// 4 found no room; one word was taken ahead of cycle 140, so 5 found some and 6 none.
	if !slices.Equal(s.Guest.Regs[1:7], []uint32{impl.ChanEmpty, 1, 2, 3, 5, 0}) || len(s.Ins[2].Ready) != 0 {
		t.Error(partText(s))
	}
}

func TestSoloOfADeviceThatIsFull(t *testing.T) {
	x := partTables()
	image := counting(t, x, 0)
	feed := []impl.Feed{}
	for n := range uint32(10) {
		feed = append(feed, devRow(600, 0, 50+n))
	}
	_, s := wantSolo(t, "full", x, 0, image, feed, 600)
	if !sameDev(s.Devs[0], impl.DevState{Latch: numbered(50, 8)}) {
		t.Error(s.Devs)
	}
	// A slot makes room for as many as are seen, and for no more.
	feed = append(feed, devRow(1400, 0, 60), devRow(1401, 0, 61), devRow(1402, 0, 62), restartRow(1403), devRow(1403, 0, 63))
	_, s = wantSolo(t, "full twice", x, 0, image, feed, 2100)
	if !sameDev(s.Devs[0], impl.DevState{Latch: []uint32{61, 62, 63}, Seen: numbered(50, 8)}) {
		t.Error(s.Devs)
	}
}

func TestSoloHolds(t *testing.T) {
	x := partTables()
	// Two words fit into channel 0 less those that are held.
	image := imageWith(t, x, 0, "send r1 r9 0", "send r2 r9 0", "send r3 r9 0", "send r4 r9 1", "yield")
	for held, codes := range [][]uint32{{0, 0, 2, 0}, {0, 2, 2, 0}, {2, 2, 2, 0}} {
		_, s := wantSolo(t, "held", x, 0, image, []impl.Feed{heldRow(0, 0, held)}, 500)
		if !slices.Equal(s.Guest.Regs[1:5], codes) || s.Outs[0].Held != held || len(s.Outs[0].Sent) != 2-held || len(s.Outs[1].Sent) != 1 {
			t.Error(held, partText(s))
		}
		_, s = wantSolo(t, "held", x, 0, image, []impl.Feed{heldRow(0, 0, held), heldRow(400, 0, 2), heldRow(400, 1, 0)}, 500)
		if !sameOut(s.Outs[0], impl.OutEnd{Held: 2}) || !sameOut(s.Outs[1], impl.OutEnd{}) {
			t.Error("what was sent is not gone", s.Outs)
		}
	}
}

func TestSoloRestarts(t *testing.T) {
	x := partTables()
	halts := imageWith(t, x, 0, "addi r1 r1 1", "trap 1")
	events, s := wantSolo(t, "halted", x, 0, halts, nil, 4000)
	if len(events) != 2 || !s.Health.Halted || s.Health.Faults != 1 || s.Guest.Regs[1] != 1 {
		t.Error(events, partText(s))
	}
	// While it is Halted: it goes on in the next slot that is its own, and halts there again.
	events, s = wantSolo(t, "restarted", x, 0, halts, []impl.Feed{restartRow(200)}, 1399)
	if len(events) != 2 || s.Health != (impl.Health{Faults: 1}) || !s.Idle || s.Guest.Regs[1] != 0 {
		t.Error(events, partText(s))
	}
	events, s = wantSolo(t, "restarted", x, 0, halts, []impl.Feed{restartRow(200)}, 4000)
	if len(events) != 4 || events[2].At != 1530 || events[3].At != 2130 || events[3].Cost != 1+5+30+5 || s.Health != (impl.Health{Faults: 2, Last: impl.FaultTrap, Halted: true}) {
		t.Error(events, partText(s))
	}
	// While it runs: none of this slot's cycles are left to it.
	runs := counting(t, x, 0)
	events, s = wantSolo(t, "while it runs", x, 0, runs, []impl.Feed{restartRow(170)}, 2000)
	if len(events) != 1+9+1 || events[9].At != 169 || events[10].At != 1530 || events[10].PC != 8 || s.Guest.Regs[1] != 1 || s.Health != (impl.Health{}) {
		t.Error(events, partText(s))
	}
	// In the midst of a step: that one is done, and its registers are gone.
	events, s = wantSolo(t, "within a step", x, 0, runs, []impl.Feed{restartRow(140)}, 1400)
	if len(events) != 1 || s.Guest.Regs[1] != 0 || s.Guest.PC != 8 || s.Next != 161 {
		t.Error(events, partText(s))
	}
}

// Who rests or halts begins no step until its next slot; a halt lasts beyond it.
func TestSoloOfOneThatRests(t *testing.T) {
	x := partTables()
	image := imageWith(t, x, 0, "again:", "addi r1 r1 1", "yield", "jal r0 again")
	events, s := wantSolo(t, "resting", x, 0, image, nil, 4000)
	ats := []int{}
	for _, e := range events {
		ats = append(ats, e.At)
	}
	// The yield takes Base and Trap at 161; in the short slot the loop's jump alone begins, as it must be brought anew.
	if !slices.Equal(ats, []int{130, 161, 1530, 2130, 2161, 3530}) || s.Guest.Regs[1] != 2 || s.Idle {
		t.Error(ats, partText(s))
	}
	_, s = wantSolo(t, "resting", x, 0, image, nil, 400)
	if !s.Idle || s.Health.Halted {
		t.Error(partText(s))
	}
	_, s = wantSolo(t, "at first", x, 0, image, nil, 0)
	if !s.Idle {
		t.Error("not Idle at first")
	}
}

// A partition without a slot does nothing, but is fed all the same.
func TestSoloOfOneWithoutASlot(t *testing.T) {
	x := rightTables()
	image := imageOver(x.Parts[2].Windows)
	events, s := wantSolo(t, "no slot", x, 2, image, []impl.Feed{heldRow(0, 1, 3), restartRow(0), heldRow(3000, 1, 2)}, 3000)
	if len(events) != 0 || !s.Idle || s.Outs[1].Held != 2 {
		t.Error(events, partText(s))
	}
}

func TestSoloHandlesInterrupts(t *testing.T) {
	x := partTables()
	image := handling(t)
	events, s := wantSolo(t, "handling", x, 0, image, []impl.Feed{devRow(0, 2, 4321), devRow(700, 2, 1234)}, 4000)
	causes := []int{}
	for _, e := range events {
		if e.Cause != 0 {
			causes = append(causes, e.At)
		}
	}
	if len(causes) != 2 || causes[1] != 1530 || s.Guest.Regs[4] != 1234 || s.Guest.Regs[5] != 4 || s.Virt.Inside {
		t.Error(causes, partText(s))
	}
}

// An image that is wrong and a feed that is wrong, each alone: neither is run.
func TestSoloThatIsRefused(t *testing.T) {
	x := partTables()
	for p, row := range x.Parts {
		right := imageOver(row.Windows)
		feed := eachRow(x, p, 3)
		wantSolo(t, "both right", x, p, right, feed, 10)
		wantNoSolo(t, "no list", x, p, nil, feed, 10)
		wantNoSolo(t, "a list too few", x, p, right[:len(right)-1], feed, 10)
		wantNoSolo(t, "a list too many", x, p, append(copyImage(right), []byte{}), feed, 10)
		for at := range right {
			for _, size := range []int{0, row.Windows[at].Size - 1, row.Windows[at].Size + 1} {
				image := copyImage(right)
				image[at] = make([]byte, size)
				wantNoSolo(t, "a list of another length", x, p, image, feed, 10)
			}
		}
		wantNoSolo(t, "a row behind the last cycle", x, p, right, feed, 2)
		wantNoSolo(t, "no such kind", x, p, right, []impl.Feed{{Kind: 4}}, 10)
		wantNoSolo(t, "both wrong", x, p, nil, []impl.Feed{{Kind: 4}}, 10)
		for _, cycles := range noCycles() {
			wantNoSolo(t, "no such cycles", x, p, right, nil, cycles)
		}
		for other := range x.Parts {
			if other != p {
				wantNoSolo(t, "another's image", x, other, right, nil, 10)
			}
		}
	}
	for what, wrong := range wrongTables() {
		for p := range wrong.Parts {
			wantNoSolo(t, what, wrong, p, plainImage(wrong, p), nil, 10)
		}
		wantNoSolo(t, what, wrong, 0, nil, nil, 0)
	}
}

// drawnAlone are tables, a partition and an image; it talks in half of all draws, and goes on behind a fault for the most part.
func drawnAlone(t *testing.T, chance *rand.Rand) (impl.Tables, int, [][]byte) {
	t.Helper()
	x, p := partTables(), 0
	if chance.Intn(2) == 0 {
		machines := someMachines(t)
		names := []string{"talking", "handling", "resting", "halting"}
		return x, p, machines[names[chance.Intn(len(names))]]
	}
	if chance.Intn(3) > 0 {
		x = drawnTables(chance)
	}
	p = chance.Intn(len(x.Parts))
	if policies := rightPolicies(); chance.Intn(4) > 0 {
		x = withPolicy(x, p, policies[chance.Intn(len(policies))])
	}
	return x, p, drawnImage(chance, x.Parts[p].Windows)
}

func TestSoloOfDrawnMachines(t *testing.T) {
	chance := rand.New(rand.NewSource(185))
	steps, kinds := 0, map[int]int{}
	for range 300 {
		x, p, image := drawnAlone(t, chance)
		cycles := chance.Intn(3 * x.Major)
		feed := drawnFeed(chance, x, p, 30, cycles)
		events, _ := wantSolo(t, "drawn", x, p, image, feed, cycles)
		steps += len(events)
		for _, f := range feed {
			kinds[f.Kind]++
		}
		if t.Failed() {
			return
		}
	}
	if steps < 5000 || kinds[0] < 500 || kinds[1] < 500 || kinds[2] < 500 || kinds[3] < 200 {
		t.Error("too few steps or rows:", steps, kinds)
	}
}

// rowsUpTo are those that a machine of so many cycles may be fed.
func rowsUpTo(feed []impl.Feed, cycles int) []impl.Feed {
	list := []impl.Feed{}
	for _, f := range feed {
		if f.Cycle <= cycles {
			list = append(list, f)
		}
	}
	return list
}

// Promise 18: what a machine alone did in fewer cycles is how more begin, and what comes behind it begins at none of those.
func wantBegins(t *testing.T, x impl.Tables, p int, image [][]byte, feed []impl.Feed, fewer int, more int) {
	t.Helper()
	first, _, isFirst := impl.Solo(x, p, image, rowsUpTo(feed, fewer), fewer)
	all, _, isAll := impl.Solo(x, p, image, rowsUpTo(feed, more), more)
	if !isFirst || !isAll || len(first) > len(all) || !slices.Equal(first, all[:len(first)]) {
		t.Fatalf("%d cycles are not how %d begin: %+v\n%+v", fewer, more, first, all)
	}
	if len(all) > len(first) && all[len(first)].At < fewer {
		t.Fatalf("%d cycles: a step that begins at %d lacks", fewer, all[len(first)].At)
	}
}

func TestFewerCyclesAreHowMoreBegin(t *testing.T) {
	x := partTables()
	feed := []impl.Feed{inRow(0, 2, 1, 2, 3), devRow(0, 0, 4), heldRow(140, 0, 2), inRow(200, 3, 5), devRow(300, 2, 6), inRow(300, 2, 7), restartRow(320), devRow(1400, 0, 9), heldRow(2000, 0, 0), inRow(2000, 2, 8)}
	for _, image := range someMachines(t) {
		for fewer := 0; fewer <= 2300; fewer += 1 + fewer%7 {
			wantBegins(t, x, 0, image, feed, fewer, 2300)
		}
		for _, fewer := range soloEdges() {
			wantBegins(t, x, 0, image, feed, fewer, fewer)
			wantBegins(t, x, 0, image, feed, fewer, fewer+1)
		}
	}
}

func TestFewerCyclesOfDrawnMachines(t *testing.T) {
	chance := rand.New(rand.NewSource(186))
	for range 80 {
		x, p, image := drawnAlone(t, chance)
		more := 1 + chance.Intn(4*x.Major)
		feed := drawnFeed(chance, x, p, 30, more)
		for range 8 {
			wantBegins(t, x, p, image, feed, chance.Intn(more+1), more)
		}
		for _, f := range feed {
			wantBegins(t, x, p, image, feed, f.Cycle, more)
		}
	}
}

// Rows that come later change nothing of what was done ahead of them.
func TestRowsChangeNothingAheadOfThem(t *testing.T) {
	chance := rand.New(rand.NewSource(187))
	for range 100 {
		x, p, image := drawnAlone(t, chance)
		cycles := 1 + chance.Intn(4*x.Major)
		feed := drawnFeed(chance, x, p, 20, cycles)
		at := chance.Intn(cycles + 1)
		other := append(slices.DeleteFunc(copyFeed(feed), func(f impl.Feed) bool { return f.Cycle >= at }), drawnRow(chance, x, p, at))
		a, _, _ := impl.Solo(x, p, image, feed, cycles)
		b, _, is := impl.Solo(x, p, image, other, cycles)
		ahead := func(events []impl.Event) []impl.Event {
			return slices.DeleteFunc(slices.Clone(events), func(e impl.Event) bool { return e.At >= at })
		}
		if !is || !slices.Equal(ahead(a), ahead(b)) {
			t.Fatalf("rows at %d changed what was done ahead of them", at)
		}
	}
}

// longTables have one slot, at whose cycles to begin a step MaxCycle stands too; a step of theirs takes many cycles.
func longTables() impl.Tables {
	return changed(frameTables, func(x *impl.Tables) {
		x.Costs = impl.Costs{Base: 20, Mul: 50, Mem: 50, Miss: 50, Walk: 50, Trap: 50, Line: 50}
		x.Pad, x.Guard, x.Major, x.Slots[0].Len = 370, 420, 3000, 3000
		x.Parts[0].Policy = impl.Policy{Kind: impl.PolicySkip}
	})
}

// The last step of all may end behind MaxCycle; its slot goes on there.
func TestSoloOfAsManyCyclesAsThereAre(t *testing.T) {
	long := longTables()
	wantSound(t, "long", long, true)
	events, s := wantSolo(t, "long", long, 0, [][]byte{impl.BytesOf(wordByHand(opRows()[0].right(0, 0, 0, 0)))}, nil, 50000)
	if last := events[len(events)-1]; last.At+last.Cost <= 50000 || s.Next <= 50000 || impl.Retired(events, 50000) != len(events)-1 {
		t.Error("the last step does not end behind MaxCycle:", last)
	}
	for _, maker := range []func() impl.Tables{leastTables, touchTables, roomTables, partTables, mostTables} {
		x := maker()
		for p := range min(len(x.Parts), 2) {
			wantSolo(t, "all cycles", x, p, turning(x, p), eachRow(x, p, 50000), 50000)
		}
	}
}

// turning is one instruction at Entry that leads to itself, for windows that may have room for no more.
func turning(x impl.Tables, p int) [][]byte {
	g := impl.Guest{Ram: imageOver(x.Parts[p].Windows)}
	w, _ := impl.Encode(impl.Instr{Op: impl.OpJal, A: 1, Imm: -1})
	layWord(x.Parts[p].Windows, g, x.Parts[p].Entry, w)
	return g.Ram
}

// As many rows as there may be, all at one cycle, and spread over all cycles.
func TestSoloOfAsManyRowsAsThereMayBe(t *testing.T) {
	x := partTables()
	image := imageWith(t, x, 0, "again:", "recv r1 r2 2", "add r3 r3 r2", "rdev r4 r5 0", "add r6 r6 r5", "jal r0 again")
	once, spread := []impl.Feed{}, []impl.Feed{}
	for n := range 30000 {
		row := inRow(0, 2, uint32(n), uint32(n+1))
		if n%3 == 0 {
			row = devRow(0, 0, uint32(n))
		}
		once = append(once, row)
		row.Cycle = n
		spread = append(spread, row)
	}
	_, s := wantSolo(t, "at one cycle", x, 0, image, once, 2400)
	// The first three words and the first eight of the device, which are 0, 3, 6 and so on, found room.
	if s.Guest.Regs[3] != 1+2+2 || s.Guest.Regs[6] != 84 || s.Guest.Regs[4] != impl.DevEmpty {
		t.Error(partText(s))
	}
	events, _ := wantSolo(t, "spread", x, 0, image, spread, 30000)
	if len(events) < 300 {
		t.Error("too few steps:", len(events))
	}
}

// Nothing waits behind a call: neither where all rows were done nor where they were refused.
func TestSoloLeavesNoGoroutine(t *testing.T) {
	x := partTables()
	image := talking(t)
	before := runtime.NumGoroutine()
	for n := range 100 {
		feed := slices.Repeat([]impl.Feed{restartRow(n), devRow(n, 0, 5), inRow(n, 2, 1, 2, 3)}, n)
		impl.Solo(x, 0, image, feed, n)
		impl.Solo(x, 0, image, feed, n+400)
		impl.Solo(x, 0, image, feed, n-1)
		impl.Solo(x, 0, nil, feed, n)
		impl.Solo(x, 1, image, feed, n)
		impl.FeedOk(x, 0, feed, n)
	}
	// Who has closed its channel may need a moment to end.
	for n := 0; n < 200 && runtime.NumGoroutine() > before; n++ {
		time.Sleep(10 * time.Millisecond)
	}
	if after := runtime.NumGoroutine(); after > before {
		t.Errorf("%d goroutines became %d", before, after)
	}
}

func lookEvents(events []impl.Event) listLook {
	show := func(e impl.Event) int {
		return e.At + 3*e.Cost + 5*int(e.PC) + 7*e.Op + 11*e.Fault + 13*e.Cause + 17*int(e.Sum)
	}
	return lookAt(events, func(n int) impl.Event { return impl.Event{At: n, Cost: n, Op: n} }, show)
}

// lookFeed has the outer list and each list of words, also those behind its end.
func lookFeed(feed []impl.Feed) []listLook {
	show := func(f impl.Feed) int { return f.Cycle + 3*f.Kind + 5*f.At + 7*f.Held + 11*len(f.Words) }
	list := []listLook{lookAt(feed, func(n int) impl.Feed { return impl.Feed{Cycle: n, Kind: n, Words: numbered(1, n)} }, show)}
	for _, f := range feed[:cap(feed)] {
		list = append(list, lookWords(f.Words))
	}
	return list
}

// roomyFeed has each list at the front of a greater one.
func roomyFeed(feed []impl.Feed) []impl.Feed {
	list := copyFeed(feed)
	for n := range list {
		list[n].Words, _ = roomed(list[n].Words, 0x5a5a)
	}
	list, _ = roomed(list, impl.Feed{Cycle: 1, Words: []uint32{8, 9}})
	return list
}

// givenAlone is what Solo is handed.
type givenAlone struct {
	x      impl.Tables
	p      int
	image  [][]byte
	feed   []impl.Feed
	cycles int
}

func (g givenAlone) solo() ([]impl.Event, impl.PartState, bool) {
	return impl.Solo(g.x, g.p, g.image, g.feed, g.cycles)
}

func (g givenAlone) isAnswered(t *testing.T, what string, events []impl.Event, s impl.PartState, is bool) {
	t.Helper()
	want, state, wantIs := g.solo()
	if is != wantIs || !slices.Equal(events, want) || !samePart(s, state) {
		t.Fatalf("%s: %+v", what, g.feed)
	}
}

// memoryAlone are machines of each kind with each row, drawn ones, and wrong ones.
func memoryAlone(t *testing.T, chance *rand.Rand) []givenAlone {
	t.Helper()
	list := []givenAlone{}
	for _, image := range someMachines(t) {
		for _, at := range []int{0, 200, 1400} {
			x := partTables()
			list = append(list, givenAlone{x, 0, image, append(eachRow(x, 0, 0), eachRow(x, 0, at)...), at}, givenAlone{x, 0, image, slices.Concat(eachRow(x, 0, 0)[1:], eachRow(x, 0, at)[1:]), at + 200})
		}
	}
	for range 60 {
		x, p, image := drawnAlone(t, chance)
		cycles := chance.Intn(3 * x.Major)
		feed := drawnFeed(chance, x, p, 15, cycles)
		list = append(list, givenAlone{x, p, image, feed, cycles}, givenAlone{x, p, image, disturbFeed(chance, feed), cycles}, givenAlone{x, p, image[1:], feed, cycles})
	}
	return append(list, givenAlone{}, givenAlone{partTables(), 3, nil, nil, 0}, givenAlone{partTables(), 0, talking(t), nil, -1})
}

func (g givenAlone) roomy() (givenAlone, func() string) {
	tables, told := roomyTables(g.x)
	g.x, g.image, g.feed = tables, roomyImage(g.image), roomyFeed(g.feed)
	looks := slices.Concat(lookImage(g.image), lookFeed(g.feed))
	return g, func() string { return told() + toldOf(looks) }
}

// Promise 26: no list that is handed in, and none within it, is written into or looked at behind its end.
func TestMachinesWriteIntoNothing(t *testing.T) {
	for _, g := range memoryAlone(t, rand.New(rand.NewSource(188))) {
		roomy, told := g.roomy()
		before := told()
		ok := impl.FeedOk(roomy.x, roomy.p, roomy.feed, roomy.cycles)
		events, s, is := roomy.solo()
		if after := told(); after != before {
			t.Fatalf("%s\nbecame\n%s", before, after)
		}
		g.isAnswered(t, "what lies behind a list was looked at", events, s, is)
		if ok != impl.FeedOk(g.x, g.p, g.feed, g.cycles) {
			t.Fatal("what lies behind a list was looked at")
		}
		long, whole := roomed(events, impl.Event{At: 1, Cost: 2})
		look := lookEvents(whole)
		told = look.told
		before = told()
		retired, busy, in := impl.Retired(long, 300), impl.BusyOf(long), impl.InSlots(roomy.x, roomy.p, long)
		if told() != before || retired != impl.Retired(events, 300) || busy != impl.BusyOf(events) || in != impl.InSlots(g.x, g.p, events) {
			t.Fatal("events were written into, or looked at behind their end")
		}
	}
}

// Promise 26: an answer is new memory: what is written into it is seen in no argument, and the other way round.
func TestMachinesAreNewMemory(t *testing.T) {
	for _, g := range memoryAlone(t, rand.New(rand.NewSource(189))) {
		roomy, told := g.roomy()
		before := told()
		events, s, _ := roomy.solo()
		for _, look := range append(partLooks(s), lookEvents(events)) {
			look.scribble(77)
		}
		if told() != before {
			t.Fatal("an answer shares memory with an argument")
		}
		events, s, is := roomy.solo()
		for _, look := range slices.Concat(lookImage(roomy.image), lookFeed(roomy.feed)) {
			look.scribble(77)
		}
		g.isAnswered(t, "an argument shares memory with an answer", events, s, is)
	}
}

// No two lists of one answer share memory, also where lists of what was handed in do.
func TestListsOfAMachineAreItsOwn(t *testing.T) {
	words := numbered(40, 8)
	for _, g := range memoryAlone(t, rand.New(rand.NewSource(190))) {
		g.feed = copyFeed(g.feed)
		for n, f := range g.feed {
			g.feed[n].Words = words[:min(len(f.Words), 8)]
		}
		events, s, _ := g.solo()
		wantLooksApart(t, "a machine alone", append(partLooks(s), lookEvents(events)))
	}
}

// Nothing is kept from call to call: what was asked in between changes no answer.
func TestMachinesKeepNothing(t *testing.T) {
	list := memoryAlone(t, rand.New(rand.NewSource(191)))
	events, states := [][]impl.Event{}, []impl.PartState{}
	for _, g := range list {
		e, s, _ := g.solo()
		events, states = append(events, e), append(states, s)
	}
	for n, g := range slices.Backward(list) {
		if e, s, _ := g.solo(); !slices.Equal(e, events[n]) || !samePart(s, states[n]) {
			t.Fatal("another answer the second time")
		}
	}
}
