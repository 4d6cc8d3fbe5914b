package tests

import (
	"bytes"
	"fmt"
	"math/rand"
	"slices"
	"testing"

	"loop.example/g00076/impl"
)

func runCmd(cycles int) impl.Cmd {
	return impl.Cmd{Kind: impl.CmdRun, At: cycles}
}

func inputCmd(dev int, w uint32) impl.Cmd {
	return impl.Cmd{Kind: impl.CmdInput, At: dev, Word: w}
}

func restartCmd(p int) impl.Cmd {
	return impl.Cmd{Kind: impl.CmdRestart, At: p}
}

func sameRow(a impl.Feed, b impl.Feed) bool {
	return a.Cycle == b.Cycle && a.Kind == b.Kind && a.At == b.At && a.Held == b.Held && slices.Equal(a.Words, b.Words)
}

func sameFeed(a []impl.Feed, b []impl.Feed) bool {
	return slices.EqualFunc(a, b, sameRow)
}

// sameStanding leaves out the codes: it is whether two systems stand alike in the end.
func sameStanding(a impl.Told, b impl.Told) bool {
	traces := slices.EqualFunc(a.Traces, b.Traces, slices.Equal[[]impl.Event])
	return a.Clock == b.Clock && traces && slices.EqualFunc(a.Feeds, b.Feeds, sameFeed) && slices.EqualFunc(a.Parts, b.Parts, samePart)
}

func sameTold(a impl.Told, b impl.Told) bool {
	return slices.Equal(a.Codes, b.Codes) && sameStanding(a, b)
}

// handSystem is all partitions as a model plays them over a painted chart, by functions that are written out by hand.
type handSystem struct {
	impl.Told
	x     impl.Tables
	chart []moment
}

func (h *handSystem) feed(p int, f impl.Feed) {
	h.Feeds[p] = append(h.Feeds[p], f)
}

func (h *handSystem) border() {
	for n, r := range h.x.Chans {
		from, to := &h.Parts[r.From], &h.Parts[r.To]
		words, held := from.Outs[n].Sent, 0
		switch {
		case r.Kind == 1:
			to.Ins[n].Ready = slices.Concat(to.Ins[n].Ready, words)
			held = len(to.Ins[n].Ready)
		case len(words) == 1:
			to.Ins[n].Ready = slices.Clone(words)
		}
		from.Outs[n] = impl.OutEnd{Held: held}
		h.feed(r.From, heldRow(h.Clock, n, held))
		if len(words) > 0 {
			h.feed(r.To, inRow(h.Clock, n, words...))
		}
	}
}

func (h *handSystem) cycle() {
	now := h.chart[h.Clock]
	if h.Clock == 0 || h.chart[h.Clock-1].frame != now.frame {
		h.border()
	}
	for p, s := range h.Parts {
		if now.part != p {
			continue
		}
		if now.first {
			h.Parts[p] = slotByHand(h.x, p, s, h.Clock)
		}
		if now.phase == impl.PhaseRun && s.Next <= h.Clock && !s.Idle && !s.Health.Halted {
			after, e := partStepByHand(h.x, p, s, h.Clock)
			h.Parts[p], h.Traces[p] = after, append(h.Traces[p], e)
		}
	}
	h.Clock++
}

func (h *handSystem) command(c impl.Cmd) int {
	switch {
	case c.Kind == 0 && c.At < 0, c.Kind == 1 && !isBetween(c.At, 0, len(h.x.Devs)-1), c.Kind == 2 && !isBetween(c.At, 0, len(h.x.Parts)-1), !isBetween(c.Kind, 0, 2):
		return 2
	case c.Kind == 0 && c.At > 50000-h.Clock:
		return 1
	case c.Kind == 0:
		for range c.At {
			h.cycle()
		}
	case c.Kind == 1:
		owner := h.x.Devs[c.At]
		after, taken := inputByHand(h.Parts[owner], c.At, c.Word)
		if !taken {
			return 3
		}
		h.Parts[owner] = after
		h.feed(owner, devRow(h.Clock, c.At, c.Word))
	case c.Kind == 2:
		h.Parts[c.At] = restartByHand(h.x, c.At, h.Parts[c.At])
		h.feed(c.At, restartRow(h.Clock))
	}
	return 0
}

// playByHand is for images that are right, and for commands that are not too many.
func playByHand(x impl.Tables, images [][][]byte, cmds []impl.Cmd) impl.Told {
	h := &handSystem{x: x, chart: chartUpTo(x, clockByHand(cmds))}
	for p, image := range images {
		h.Parts = append(h.Parts, bootByHand(x, p, image))
		h.Traces, h.Feeds = append(h.Traces, nil), append(h.Feeds, nil)
	}
	for _, c := range cmds {
		h.Codes = append(h.Codes, h.command(c))
	}
	return h.Told
}

// clockByHand counts in steps that cannot wrap.
func clockByHand(cmds []impl.Cmd) int {
	left := 50000
	for _, c := range cmds {
		if c.Kind == 0 && isBetween(c.At, 0, left) {
			left -= c.At
		}
	}
	return 50000 - left
}

// wantCrossings holds promise 19 of what crossed: rows of channels come at the first cycle of a frame alone, of each frame that has begun, in the order of the channels.
func wantCrossings(t *testing.T, what string, x impl.Tables, told impl.Told) {
	t.Helper()
	for p, feed := range told.Feeds {
		held := []impl.Feed{}
		for n, f := range feed {
			if f.Kind == impl.FeedIn || f.Kind == impl.FeedHeld {
				if f.Cycle%x.Major != 0 || f.Cycle >= told.Clock {
					t.Fatalf("%s: row %d of partition %d crossed at no border: %+v", what, n, p, f)
				}
			}
			if f.Kind == impl.FeedHeld {
				f.Held = 0
				held = append(held, f)
			}
		}
		want := []impl.Feed{}
		for c := 0; c < told.Clock; c += x.Major {
			for n, r := range x.Chans {
				if r.From == p {
					want = append(want, heldRow(c, n, 0))
				}
			}
		}
		if !sameFeed(held, want) {
			t.Fatalf("%s: of partition %d these were told what is held: %+v\nnot\n%+v", what, p, held, want)
		}
	}
}

// wantLikeAlone holds promise 19 of each partition: it did what a machine of its own does that is fed what crossed, each step in a slot of its own.
func wantLikeAlone(t *testing.T, what string, x impl.Tables, images [][][]byte, told impl.Told) {
	t.Helper()
	for p, image := range images {
		events, s, is := impl.Solo(x, p, image, told.Feeds[p], told.Clock)
		if !is || !slices.Equal(events, told.Traces[p]) || !samePart(s, told.Parts[p]) {
			t.Fatalf("%s: partition %d alone: %v\n%+v\n%s\nnot\n%+v\n%s", what, p, is, events, partText(s), told.Traces[p], partText(told.Parts[p]))
		}
		wantPartOk(t, what, x, p, told.Parts[p], true)
		wantStepsInSlots(t, what, x, p, told.Traces[p], told.Clock)
		for _, e := range told.Traces[p] {
			if e.Cost > worstStepByHand(x.Costs) {
				t.Fatalf("%s: a step of partition %d costs more than the worst: %+v", what, p, e)
			}
		}
	}
}

// healthOfTrace goes through steps and restarts by hand in the order of their cycles, a restart ahead of a step; it tells also whether a step came behind a halt.
func healthOfTrace(policy impl.Policy, trace []impl.Event, feed []impl.Feed) (impl.Health, bool) {
	h, still := impl.Health{}, true
	for c, left := 0, slices.Clone(feed); len(trace) > 0 || len(left) > 0; c++ {
		for len(left) > 0 && left[0].Cycle == c {
			if left[0].Kind == impl.FeedRestart {
				h.Halted, h.Last = false, 0
			}
			left = left[1:]
		}
		if len(trace) > 0 && trace[0].At == c {
			still = still && !h.Halted
			if trace[0].Fault != 0 {
				h, _ = onFaultByHand(policy, h, trace[0].Fault)
			}
			trace = trace[1:]
		}
	}
	return h, still
}

// wantMemoryAndFaults holds promise 25: memory that may not be written is as its image has it, and faults are counted one by one.
func wantMemoryAndFaults(t *testing.T, what string, x impl.Tables, images [][][]byte, told impl.Told) {
	t.Helper()
	for p, row := range x.Parts {
		s := told.Parts[p]
		for at, w := range row.Windows {
			if w.Perm&impl.KindWrite == 0 && !bytes.Equal(s.Guest.Ram[at], images[p][at]) || !bytes.Equal(s.Boot[at], images[p][at]) {
				t.Fatalf("%s: window %d of partition %d is not as it was", what, at, p)
			}
		}
		faults := 0
		for _, e := range told.Traces[p] {
			if e.Fault != 0 {
				faults++
			}
		}
		h, still := healthOfTrace(row.Policy, told.Traces[p], told.Feeds[p])
		if s.Health != h || s.Health.Faults != faults || !still {
			t.Fatalf("%s: partition %d had %d faults, %+v, no step behind a halt %v: %+v", what, p, faults, h, still, s.Health)
		}
		if row.Policy.Kind == impl.PolicySkip && s.Health.Halted || s.Health.Restarts > row.Policy.Most {
			t.Fatalf("%s: partition %d, %+v: %+v", what, p, row.Policy, s.Health)
		}
	}
}

// wantPlayed holds a system against the model, and against the promises that are made of every one.
func wantPlayed(t *testing.T, what string, x impl.Tables, images [][][]byte, cmds ...impl.Cmd) impl.Told {
	t.Helper()
	told, is := impl.Play(x, images, cmds)
	if want := playByHand(x, images, cmds); !is || !sameTold(told, want) {
		t.Fatalf("%s: %v %+v\nnot\n%+v", what, is, told, want)
	}
	wantNumber(t, what+": ClockAfter", impl.ClockAfter(cmds), told.Clock)
	wantCrossings(t, what, x, told)
	wantLikeAlone(t, what, x, images, told)
	wantMemoryAndFaults(t, what, x, images, told)
	return told
}

// crossTables have steps of one cycle each, from 25 to 43 of a frame of partition 0 and from 70 to 88 of partition 1; partition 2 has no slot.
func crossTables() impl.Tables {
	return impl.Tables{
		Mem: 256, Shape: impl.Shape{Sets: 1, Ways: 1, Line: 4}, Tlb: 1, Costs: impl.Costs{Base: 1}, Pad: 20, Guard: 1, Major: 100,
		Parts: []impl.PartRow{
			{Name: "a", Entry: 0, Windows: []impl.Window{win(0, 64, 7)}},
			{Name: "b", Entry: 64, Windows: []impl.Window{win(64, 64, 7)}},
			{Name: "c", Entry: 128, Windows: []impl.Window{win(128, 64, 7)}},
		},
		Devs:  []int{0, 1, 2},
		Chans: []impl.ChanRow{{Kind: impl.ChanQueue, From: 0, To: 1, Depth: 2}, {Kind: impl.ChanSample, From: 0, To: 1}},
		Slots: []impl.Slot{{Part: 0, Start: 5, Len: 40}, {Part: 1, Start: 50, Len: 40}},
	}
}

// plainImages are right, and hold no instruction for the most part.
func plainImages(x impl.Tables) [][][]byte {
	images := [][][]byte{}
	for p := range x.Parts {
		images = append(images, plainImage(x, p))
	}
	return images
}

// turningAll go round at their Entry for ever.
func turningAll(x impl.Tables) [][][]byte {
	images := [][][]byte{}
	for p := range x.Parts {
		images = append(images, turning(x, p))
	}
	return images
}

// talkingAll read and send over and over, on all channels and devices of partTables.
func talkingAll(t *testing.T) [][][]byte {
	t.Helper()
	x := partTables()
	return [][][]byte{
		talking(t),
		imageWith(t, x, 1, "again:", "recv r1 r2 0", "recv r3 r4 1", "recv r5 r6 5", "rdev r7 r8 1", "add r9 r2 r8", "send r10 r9 2", "send r11 r9 4", "addi r9 r9 1", "jal r0 again"),
		imageWith(t, x, 2, "again:", "recv r1 r2 4", "recv r3 r4 6", "rdev r5 r6 3", "send r7 r6 3", "send r8 r2 5", "jal r0 again"),
	}
}

// roomToRun is how many words fit in from a partition's Entry on.
func roomToRun(x impl.Tables, p int) int {
	row := x.Parts[p]
	for _, w := range row.Windows {
		if isBetween(row.Entry, w.Base, w.Base+w.Size-1) {
			return (w.Base + w.Size - row.Entry) / 4
		}
	}
	return 0
}

// sendingOn sends what counts up on each channel that a partition has, over and over, and reads all that comes, as far as there is room for it.
func sendingOn(t *testing.T, x impl.Tables, p int) [][]byte {
	t.Helper()
	lines := []string{"again:", "addi r1 r1 1"}
	for n, r := range x.Chans {
		if r.From == p {
			lines = append(lines, fmt.Sprint("send r2 r1 ", n))
		}
		if r.To == p {
			lines = append(lines, fmt.Sprint("recv r3 r4 ", n), "add r5 r5 r4")
		}
	}
	for n, owner := range x.Devs {
		if owner == p {
			lines = append(lines, fmt.Sprint("rdev r3 r6 ", n), "add r7 r7 r6")
		}
	}
	lines = lines[:min(len(lines), roomToRun(x, p))]
	return imageWith(t, x, p, append(lines, "jal r0 again")...)
}

// drawnCmds are of every kind, some of them refused; runs lead to the edges of slots and frames for the most part.
func drawnCmds(chance *rand.Rand, x impl.Tables, most int, cycles int) []impl.Cmd {
	cmds, clock := []impl.Cmd{}, 0
	edges := edgesOf(x)
	for range chance.Intn(most + 1) {
		switch kind := chance.Intn(12); {
		case kind < 5:
			ahead := chance.Intn(max(cycles/4, 1))
			if chance.Intn(2) == 0 {
				ahead = edges[chance.Intn(len(edges))] - clock%x.Major
			}
			ahead = min(max(ahead, chance.Intn(3)), cycles-clock)
			cmds, clock = append(cmds, runCmd(ahead)), clock+ahead
		case kind < 9 && len(x.Devs) > 0:
			dev, w := chance.Intn(len(x.Devs)), chance.Uint32()
			for range 1 + chance.Intn(2)*chance.Intn(11) {
				cmds = append(cmds, inputCmd(dev, w))
			}
		case kind < 10:
			cmds = append(cmds, restartCmd(chance.Intn(len(x.Parts))))
		case kind < 11:
			refused := refusedCmds(x, clock)
			cmds = append(cmds, refused[chance.Intn(len(refused))])
		}
	}
	return cmds[:min(len(cmds), 300)]
}

// refusedCmds do nothing at that Clock, whatever stands.
func refusedCmds(x impl.Tables, clock int) []impl.Cmd {
	list := []impl.Cmd{runCmd(50001 - clock), inputCmd(len(x.Devs), 5), restartCmd(len(x.Parts)), {Kind: 3}, {Kind: -1}}
	for _, n := range oddInts() {
		if !isBetween(n, 0, 50000) {
			list = append(list, runCmd(n), inputCmd(n, 5), restartCmd(n), impl.Cmd{Kind: n, At: 0, Word: 5})
		}
	}
	return append(list, runCmd(-1), inputCmd(-1, 5), restartCmd(-1), impl.Cmd{Kind: 3, At: 100})
}

// drawnSystem are tables and an image of each partition; in half of all draws they talk, and go on behind a fault for the most part.
func drawnSystem(t *testing.T, chance *rand.Rand) (impl.Tables, [][][]byte) {
	t.Helper()
	x := partTables()
	if chance.Intn(3) > 0 {
		x = drawnTables(chance)
	}
	images := [][][]byte{}
	for p := range x.Parts {
		if policies := rightPolicies(); chance.Intn(4) > 0 {
			x = withPolicy(x, p, policies[chance.Intn(len(policies))])
		}
		images = append(images, drawnMachine(t, chance, x, p))
	}
	return x, images
}

// drawnMachine is an image of one partition; it talks in half of all draws.
func drawnMachine(t *testing.T, chance *rand.Rand, x impl.Tables, p int) [][]byte {
	t.Helper()
	if chance.Intn(2) == 0 && roomToRun(x, p) > 2 {
		return sendingOn(t, x, p)
	}
	return drawnImage(chance, x.Parts[p].Windows)
}

// crossed counts the rows of each kind in all feeds.
func crossed(told impl.Told) [4]int {
	counts := [4]int{}
	for _, feed := range told.Feeds {
		for _, f := range feed {
			counts[f.Kind]++
		}
	}
	return counts
}

func TestPlayOfDrawnSystems(t *testing.T) {
	chance := rand.New(rand.NewSource(195))
	steps, faults, rows, codes := 0, 0, [4]int{}, [4]int{}
	for range 250 {
		x, images := drawnSystem(t, chance)
		told := wantPlayed(t, "drawn", x, images, drawnCmds(chance, x, 40, 4*x.Major)...)
		for p, trace := range told.Traces {
			steps += len(trace)
			faults += told.Parts[p].Health.Faults
		}
		for kind, count := range crossed(told) {
			rows[kind] += count
		}
		for _, code := range told.Codes {
			codes[code]++
		}
	}
	if steps < 10000 || faults < 1000 || rows[0] < 500 || rows[1] < 1000 || rows[2] < 1000 || rows[3] < 300 {
		t.Error("too few steps, faults or rows:", steps, faults, rows)
	}
	if codes[0] < 3000 || codes[1] < 5 || codes[2] < 200 || codes[3] < 50 {
		t.Error("too few codes of a kind:", codes)
	}
}

// Promise 19: cycles go by in one command as in many, wherever they are cut.
func TestCyclesGoByInOneCommandOrInMany(t *testing.T) {
	x, images := partTables(), talkingAll(t)
	ahead := []impl.Cmd{inputCmd(0, 5), inputCmd(1, 6), inputCmd(3, 7), runCmd(700), inputCmd(4, 8), restartCmd(1)}
	whole := wantPlayed(t, "in one", x, images, append(slices.Clone(ahead), runCmd(5000))...)
	for _, cut := range []int{0, 1, 2, 99, 199, 200, 201, 700, 1299, 1300, 1301, 1302, 2500, 3299, 3300, 3301, 4999, 5000} {
		told, _ := impl.Play(x, images, append(slices.Clone(ahead), runCmd(cut), runCmd(5000-cut)))
		if !sameStanding(told, whole) {
			t.Errorf("cut at %d they go by in another way", cut)
		}
	}
	for _, piece := range []int{20, 100, 250, 1000} {
		cmds := slices.Clone(ahead)
		for left := 5000; left > 0; left -= piece {
			cmds = append(cmds, runCmd(min(left, piece)))
		}
		if told, _ := impl.Play(x, images, cmds); !sameStanding(told, whole) {
			t.Errorf("in pieces of %d they go by in another way", piece)
		}
	}
}

func TestCyclesOfDrawnSystemsInManyCommands(t *testing.T) {
	chance := rand.New(rand.NewSource(196))
	for range 80 {
		x, images := drawnSystem(t, chance)
		cmds, cut := drawnCmds(chance, x, 20, 4*x.Major), []impl.Cmd{}
		for _, c := range cmds {
			if c.Kind != 0 || !isBetween(c.At, 0, 4*x.Major) {
				cut = append(cut, c)
				continue
			}
			for left, pieces := c.At, chance.Intn(5); pieces >= 0; pieces-- {
				piece := left
				if pieces > 0 {
					piece = chance.Intn(left + 1)
				}
				cut, left = append(cut, runCmd(piece)), left-piece
			}
		}
		if len(cut) > 300 {
			continue
		}
		a, isA := impl.Play(x, images, cmds)
		b, isB := impl.Play(x, images, cut)
		if !isA || !isB || !sameStanding(a, b) {
			t.Fatalf("%v go by in another way than %v", cmds, cut)
		}
	}
}

// Promise 19: with one step in each cycle of each slot, at every cycle of some frames, each partition is as a machine of its own.
func TestPlayAtEachClock(t *testing.T) {
	x := crossTables()
	images := [][][]byte{sendingOn(t, x, 0), sendingOn(t, x, 1), sendingOn(t, x, 2)}
	for cycles := range 310 {
		wantPlayed(t, fmt.Sprint(cycles, " cycles"), x, images, inputCmd(0, 9), inputCmd(1, 8), runCmd(cycles), inputCmd(1, 7), restartCmd(cycles%3))
	}
	parts, talk := partTables(), talkingAll(t)
	for _, cycles := range soloEdges() {
		wantPlayed(t, fmt.Sprint(cycles, " cycles"), parts, talk, runCmd(cycles), inputCmd(2, 5), restartCmd(1), runCmd(170), inputCmd(1, 5))
	}
}

// All cycles that there are, of tables of each sort.
func TestPlayOfAsManyCyclesAsThereAre(t *testing.T) {
	for _, maker := range []func() impl.Tables{leastTables, touchTables, roomTables, mostTables, rightTables} {
		x := maker()
		told := wantPlayed(t, "all cycles", x, turningAll(x), runCmd(50000))
		wantNumber(t, "the clock", told.Clock, 50000)
	}
	x := partTables()
	told := wantPlayed(t, "all cycles", x, talkingAll(t), inputCmd(0, 5), runCmd(25000), inputCmd(1, 6), restartCmd(0), runCmd(25000), inputCmd(2, 7))
	if counts := crossed(told); counts[0] < 50 || counts[1] != 7*25 {
		t.Error("too little crossed:", counts)
	}
	long := longTables()
	told = wantPlayed(t, "long", long, [][][]byte{{impl.BytesOf(wordByHand(opRows()[0].right(0, 0, 0, 0)))}}, runCmd(49999), runCmd(1))
	// The last step of all may end behind MaxCycle.
	if last := told.Traces[0][len(told.Traces[0])-1]; last.At+last.Cost <= 50000 || told.Parts[0].Next <= 50000 {
		t.Error(last)
	}
}

// The most rows that a feed can come to are still a feed: frames as short as eight channels allow, of which one partition has an end each.
func TestFeedsOfShortFramesAreRight(t *testing.T) {
	x := partsOf(2)
	x.Chans, x.Devs = nil, []int{1}
	for range 8 {
		x.Chans = append(x.Chans, impl.ChanRow{Kind: impl.ChanSample, From: 0, To: 1})
	}
	x.Pad, x.Guard, x.Major = 24, 1, 26
	x.Slots = []impl.Slot{{Part: 0, Len: 26}}
	wantSound(t, "short frames", x, true)
	cmds := []impl.Cmd{runCmd(50000)}
	for len(cmds) < 300 {
		cmds = append(cmds, restartCmd(0))
	}
	told := wantPlayed(t, "short frames", x, turningAll(x), cmds...)
	wantNumber(t, "rows", len(told.Feeds[0]), 8*1924+299)
}

// Promise 25, over policies of each kind: guests that fault at once, over and over, in each way.
func TestFaultsOfASystemAreCounted(t *testing.T) {
	x := partTables()
	policies := []impl.Policy{{Kind: impl.PolicyHalt}, {Kind: impl.PolicyRestart}, {Kind: impl.PolicyRestart, Most: 1}, {Kind: impl.PolicyRestart, Most: 100}, {Kind: impl.PolicySkip}}
	wrong := []string{".word 4294967295", "trap 1", "iret", "csrr r1 9", "csrw r1 3", "div r1 r2 r0", "lw r1 r0 1", "lw r1 r0 2044", "sw r1 r0 0", "jr r0 1"}
	for _, policy := range policies {
		for _, line := range wrong {
			images := plainImages(x)
			for p := range x.Parts {
				x = withPolicy(x, p, policy)
				images[p] = imageWith(t, x, p, "addi r1 r1 1", line, line, "nop", line)
			}
			told := wantPlayed(t, fmt.Sprint(line, policy), x, images, runCmd(4200), restartCmd(0), runCmd(2100), restartCmd(0), restartCmd(2), runCmd(4100), restartCmd(1))
			for p, s := range told.Parts {
				if len(told.Traces[p]) > 1 && s.Health.Faults == 0 {
					t.Errorf("%s: partition %d never faulted", line, p)
				}
			}
		}
	}
}

func TestFaultsOfASystemByNumbers(t *testing.T) {
	x := crossTables()
	lines := []string{"addi r1 r1 1", "trap 1", "trap 2", "jal r0 -4"}
	for _, row := range []struct {
		policy impl.Policy
		steps  int
		health impl.Health
	}{
		{impl.Policy{Kind: impl.PolicyHalt}, 2, impl.Health{Faults: 1, Last: 6, Halted: true}},
		{impl.Policy{Kind: impl.PolicyRestart}, 2, impl.Health{Faults: 1, Last: 6, Halted: true}},
		{impl.Policy{Kind: impl.PolicyRestart, Most: 3}, 8, impl.Health{Faults: 4, Restarts: 3, Last: 6, Halted: true}},
		{impl.Policy{Kind: impl.PolicyRestart, Most: 100}, 57, impl.Health{Faults: 28, Restarts: 28, Last: 6}},
		// 57 steps of four each, of which two fault.
		{impl.Policy{Kind: impl.PolicySkip}, 57, impl.Health{Faults: 28, Last: 6}},
	} {
		x = withPolicy(x, 0, row.policy)
		images := plainImages(x)
		images[0] = imageWith(t, x, 0, lines...)
		told := wantPlayed(t, "faults", x, images, runCmd(300))
		if len(told.Traces[0]) != row.steps || told.Parts[0].Health != row.health {
			t.Errorf("%+v: %d steps, %+v", row.policy, len(told.Traces[0]), told.Parts[0].Health)
		}
	}
}

// Guests that write wherever they can reach and beyond: only what may be written changes, and nobody else's memory.
func TestMemoryThatMayNotBeWrittenStays(t *testing.T) {
	x := partTables()
	for p := range x.Parts {
		x = withPolicy(x, p, impl.Policy{Kind: impl.PolicySkip})
	}
	images := plainImages(x)
	for p := range x.Parts {
		// r1 goes through all of memory by bytes, r2 by words.
		images[p] = imageWith(t, x, p, "again:", "sb r3 r1 0", "sw r3 r2 0", "addi r3 r3 -1", "addi r1 r1 1", "addi r2 r2 4", "jal r0 again")
	}
	told := wantPlayed(t, "writing everywhere", x, images, runCmd(50000))
	for p, row := range x.Parts {
		for at, w := range row.Windows {
			if wrote := !bytes.Equal(told.Parts[p].Guest.Ram[at], images[p][at]); wrote && w.Perm&impl.KindWrite == 0 {
				t.Errorf("window %d of partition %d was written", at, p)
			}
		}
		if told.Parts[p].Health.Faults < 20 {
			t.Errorf("partition %d faulted %d times alone", p, told.Parts[p].Health.Faults)
		}
	}
	if bytes.Equal(told.Parts[0].Guest.Ram[1], images[0][1]) {
		t.Error("what may be written was not")
	}
}

// reachers are the partitions that may reach p: over and over, the senders of a channel to one of them, and the receivers of what one of them queues.
func reachers(x impl.Tables, p int) map[int]int {
	all := map[int]int{p: 1}
	for range x.Parts {
		for _, r := range x.Chans {
			if all[r.To] == 1 {
				all[r.From] = 1
			}
			if r.Kind == impl.ChanQueue && all[r.From] == 1 {
				all[r.To] = 1
			}
		}
	}
	return all
}

// withoutOthers are the commands but for the inputs and restarts of partitions that are not among these.
func withoutOthers(x impl.Tables, among map[int]int, cmds []impl.Cmd) []impl.Cmd {
	return slices.DeleteFunc(slices.Clone(cmds), func(c impl.Cmd) bool {
		isInput := c.Kind == impl.CmdInput && isBetween(c.At, 0, len(x.Devs)-1)
		isRestart := c.Kind == impl.CmdRestart && isBetween(c.At, 0, len(x.Parts)-1)
		return isInput && among[x.Devs[c.At]] == 0 || isRestart && among[c.At] == 0
	})
}

// amidst are the commands with others put in anywhere among them.
func amidst(chance *rand.Rand, cmds []impl.Cmd, others []impl.Cmd) []impl.Cmd {
	list := slices.Clone(cmds)
	for _, c := range others {
		list = slices.Insert(list, chance.Intn(len(list)+1), c)
	}
	return list[:min(len(list), 300)]
}

// Promise 20, as far as it can be seen here: what partitions that cannot reach p are, are told and are restarted, p sees nothing of.
func wantUnseen(t *testing.T, chance *rand.Rand, x impl.Tables, images [][][]byte, cmds []impl.Cmd) int {
	t.Helper()
	differ := 0
	for p := range x.Parts {
		among := reachers(x, p)
		others, mine := slices.Clone(images), withoutOthers(x, among, cmds)
		theirs := []impl.Cmd{}
		for q := range x.Parts {
			if among[q] == 0 {
				others[q] = drawnMachine(t, chance, x, q)
				theirs = append(theirs, restartCmd(q))
			}
		}
		for dev, owner := range x.Devs {
			if among[owner] == 0 {
				theirs = append(theirs, inputCmd(dev, chance.Uint32()))
			}
		}
		a, isA := impl.Play(x, images, cmds)
		b, isB := impl.Play(x, others, amidst(chance, mine, theirs))
		if !isA || !isB {
			t.Fatal("a system that is refused")
		}
		if a.Clock != b.Clock {
			continue
		}
		if !slices.Equal(a.Traces[p], b.Traces[p]) || !samePart(a.Parts[p], b.Parts[p]) || !sameFeed(a.Feeds[p], b.Feeds[p]) {
			t.Fatalf("partition %d of %+v sees what it must not: %+v\n%+v", p, x.Chans, a.Traces[p], b.Traces[p])
		}
		if !sameStanding(a, b) {
			differ++
		}
	}
	return differ
}

func TestOthersAreNotSeen(t *testing.T) {
	chance := rand.New(rand.NewSource(197))
	differ := 0
	for range 120 {
		x, images := drawnSystem(t, chance)
		differ += wantUnseen(t, chance, x, images, drawnCmds(chance, x, 30, 4*x.Major))
	}
	if differ < 100 {
		t.Error("too few systems differed:", differ)
	}
}

// A sampling channel leads one way alone: who reads it is not seen by who writes it, though who writes it is by who reads.
func TestOnlyASamplingChannelLeadsOneWay(t *testing.T) {
	chance := rand.New(rand.NewSource(198))
	x := crossTables()
	x.Chans = []impl.ChanRow{{Kind: impl.ChanSample, From: 0, To: 1}}
	images := [][][]byte{sendingOn(t, x, 0), sendingOn(t, x, 1), sendingOn(t, x, 2)}
	cmds := []impl.Cmd{inputCmd(0, 5), runCmd(60), inputCmd(1, 6), runCmd(140), restartCmd(1), runCmd(100), inputCmd(2, 7)}
	for range 20 {
		if wantUnseen(t, chance, x, images, cmds) == 0 {
			t.Error("nothing differed")
		}
	}
	idle := slices.Clone(images)
	idle[0] = turning(x, 0)
	a, b := wantPlayed(t, "one", x, images, cmds...), wantPlayed(t, "another", x, idle, cmds...)
	if samePart(a.Parts[1], b.Parts[1]) {
		t.Error("what was shown is not seen")
	}
	// Of a queuing channel who sends sees by what is full whether the other one reads.
	x = crossTables()
	images = [][][]byte{sendingOn(t, x, 0), sendingOn(t, x, 1), sendingOn(t, x, 2)}
	idle = slices.Clone(images)
	idle[1] = turning(x, 1)
	a, b = wantPlayed(t, "one", x, images, cmds...), wantPlayed(t, "another", x, idle, cmds...)
	if samePart(a.Parts[0], b.Parts[0]) {
		t.Error("what is held is not seen")
	}
}
