package tests

import (
	"fmt"
	"math"
	"math/rand"
	"slices"
	"testing"

	"loop.example/g00076/impl"
)

// wantNoPlayed is for systems that are refused: nothing is told of them, whatever the commands.
func wantNoPlayed(t *testing.T, what string, x impl.Tables, images [][][]byte, cmds ...impl.Cmd) {
	t.Helper()
	told, is := impl.Play(x, images, cmds)
	if is || !sameTold(told, impl.Told{}) {
		t.Errorf("%s: Play of %d images and %d commands: %v %+v", what, len(images), len(cmds), is, told)
	}
}

// wantImages asks ImagesOk, and Play with and without commands where the images are wrong.
func wantImages(t *testing.T, what string, x impl.Tables, images [][][]byte, want bool) {
	t.Helper()
	if got := impl.ImagesOk(x, images); got != want {
		t.Errorf("%s: ImagesOk is %v", what, got)
	}
	if !want {
		wantNoPlayed(t, what, x, images)
		wantNoPlayed(t, what, x, images, runCmd(10), inputCmd(0, 5), restartCmd(0))
		return
	}
	wantPlayed(t, what, x, images)
}

// withImage are the images with another one for a partition.
func withImage(images [][][]byte, p int, image [][]byte) [][][]byte {
	images = slices.Clone(images)
	images[p] = image
	return images
}

func wantCodes(t *testing.T, what string, told impl.Told, want ...int) {
	t.Helper()
	if !slices.Equal(told.Codes, want) {
		t.Errorf("%s: codes %v, not %v", what, told.Codes, want)
	}
}

func wantRows(t *testing.T, what string, got []impl.Feed, want ...impl.Feed) {
	t.Helper()
	if !sameFeed(got, want) {
		t.Errorf("%s: rows %+v, not %+v", what, got, want)
	}
}

func TestKernelConstants(t *testing.T) {
	got := []int{impl.MaxCmds, impl.CmdRun, impl.CmdInput, impl.CmdRestart, impl.PlayDone, impl.PlayClock, impl.PlayBad, impl.PlayFull}
	if !slices.Equal(got, []int{300, 0, 1, 2, 0, 1, 2, 3}) {
		t.Error(got)
	}
}

func TestImagesOkOfEachTable(t *testing.T) {
	for _, maker := range append(timeMakers(), partTables, crossTables, longTables) {
		x := maker()
		images := plainImages(x)
		wantImages(t, "as many as partitions", x, images, true)
		wantImages(t, "none", x, nil, false)
		wantImages(t, "an empty list", x, [][][]byte{}, false)
		wantImages(t, "one too few", x, images[:len(images)-1], false)
		wantImages(t, "the first one lacks", x, images[1:], false)
		wantImages(t, "one too many", x, append(slices.Clone(images), images[0]), false)
		wantImages(t, "an empty one too many", x, append(slices.Clone(images), nil), false)
	}
}

func TestImagesOkWithOneThatIsWrong(t *testing.T) {
	x := partTables()
	images := plainImages(x)
	for p, row := range x.Parts {
		right := images[p]
		wantImages(t, "nil", x, withImage(images, p, nil), false)
		wantImages(t, "no list", x, withImage(images, p, [][]byte{}), false)
		wantImages(t, "a list too few", x, withImage(images, p, right[:len(right)-1]), false)
		wantImages(t, "a list too many", x, withImage(images, p, append(copyImage(right), []byte{})), false)
		for at, w := range row.Windows {
			for _, size := range []int{0, 1, w.Size - 1, w.Size + 1, w.Size + 256} {
				image := copyImage(right)
				image[at] = make([]byte, size)
				wantImages(t, "a list of another length", x, withImage(images, p, image), false)
			}
		}
		for other := range x.Parts {
			wantImages(t, "another's image", x, withImage(images, p, images[other]), p == other)
		}
	}
	turned := slices.Clone(images)
	slices.Reverse(turned)
	wantImages(t, "in another order", x, turned, false)
}

func TestImagesOkOfTablesThatAreNotSound(t *testing.T) {
	for what, x := range wrongTables() {
		wantImages(t, what, x, nil, false)
		wantImages(t, what, x, [][][]byte{}, false)
		images := [][][]byte{}
		for _, row := range x.Parts {
			image := [][]byte{}
			for _, w := range row.Windows {
				image = append(image, make([]byte, min(w.Size, 4096)))
			}
			images = append(images, image)
		}
		wantImages(t, what, x, images, false)
		wantImages(t, what, x, plainImages(rightTables()), false)
	}
}

func TestPlayOfNoCommand(t *testing.T) {
	for _, maker := range append(timeMakers(), partTables, crossTables) {
		x := maker()
		images := plainImages(x)
		for _, cmds := range [][]impl.Cmd{nil, {}} {
			told := wantPlayed(t, "no command", x, images, cmds...)
			if told.Clock != 0 || len(told.Codes) != 0 || len(told.Parts) != len(x.Parts) || len(told.Traces) != len(x.Parts) || len(told.Feeds) != len(x.Parts) {
				t.Errorf("%+v", told)
			}
			for p := range x.Parts {
				boot, _ := impl.PartBoot(x, p, images[p])
				if len(told.Traces[p]) != 0 || len(told.Feeds[p]) != 0 || !samePart(told.Parts[p], boot) {
					t.Errorf("partition %d is not as it starts: %s", p, partText(told.Parts[p]))
				}
			}
		}
	}
}

// As many commands as there may be are played; one more, and none is.
func TestPlayByCountOfCommands(t *testing.T) {
	x := crossTables()
	images := turningAll(x)
	for what, c := range map[string]impl.Cmd{"run": runCmd(1), "run 0": runCmd(0), "input": inputCmd(1, 5), "restart": restartCmd(2), "bad": {Kind: 9}, "late": runCmd(50001)} {
		for _, count := range []int{1, 299, 300} {
			told := wantPlayed(t, what, x, images, slices.Repeat([]impl.Cmd{c}, count)...)
			wantNumber(t, what, len(told.Codes), count)
		}
		for _, count := range []int{301, 302, 600, 1<<16 + 1} {
			wantNoPlayed(t, what, x, images, slices.Repeat([]impl.Cmd{c}, count)...)
			wantNumber(t, what, impl.ClockAfter(slices.Repeat([]impl.Cmd{c}, count)), 0)
		}
	}
	// Wrong images are refused beside too many commands as beside few.
	wantNoPlayed(t, "both wrong", x, images[1:], slices.Repeat([]impl.Cmd{runCmd(1)}, 301)...)
}

func TestPlayByNumbers(t *testing.T) {
	x := crossTables()
	images := plainImages(x)
	images[0] = imageWith(t, x, 0, "addi r1 r0 7", "send r2 r1 0", "addi r1 r1 1", "send r3 r1 0", "send r4 r1 0", "send r5 r1 1", "yield", "send r6 r1 0", "yield", "send r7 r1 0", "yield")
	images[1] = imageWith(t, x, 1, "recv r1 r2 0", "recv r3 r4 1", "yield", "recv r5 r6 0", "recv r7 r8 1", "yield", "recv r9 r10 0", "recv r11 r12 1", "yield")
	told := wantPlayed(t, "two that talk", x, images, runCmd(90), runCmd(10), runCmd(1), runCmd(199), inputCmd(2, 4), restartCmd(0))
	wantCodes(t, "two that talk", told, 0, 0, 0, 0, 0, 0)
	wantNumber(t, "the clock", told.Clock, 300)
	// In the first frame seven steps; in the second and the third two each.
	starts := []int{}
	for _, e := range told.Traces[0] {
		starts = append(starts, e.At)
	}
	if !slices.Equal(starts, []int{25, 26, 27, 28, 29, 30, 31, 125, 126, 225, 226}) {
		t.Error(starts)
	}
	wantRows(t, "of a", told.Feeds[0], heldRow(0, 0, 0), heldRow(0, 1, 0), heldRow(100, 0, 2), heldRow(100, 1, 0), heldRow(200, 0, 1), heldRow(200, 1, 0), restartRow(300))
	wantRows(t, "of b", told.Feeds[1], inRow(100, 0, 7, 8), inRow(100, 1, 8))
	wantRows(t, "of c", told.Feeds[2], devRow(300, 2, 4))
	// What was read is gone from the channel at the next border, and not sooner: in the second frame it is full still.
	if got := told.Parts[1].Guest.Regs[1:13]; !slices.Equal(got, []uint32{1, 0, 1, 0, 0, 7, 0, 8, 0, 8, 0, 8}) {
		t.Error(got)
	}
	if len(told.Traces[2]) != 0 || !told.Parts[2].Idle || !sameDev(told.Parts[2].Devs[2], impl.DevState{Latch: []uint32{4}}) {
		t.Error("one that has no slot ran", partText(told.Parts[2]))
	}
}

// Codes that tell what is full: of two words that fit, of what is held in the next frame, and of what room was made by then.
func TestPlayOfAChannelThatIsFull(t *testing.T) {
	x := crossTables()
	images := plainImages(x)
	images[0] = imageWith(t, x, 0, "again:", "send r1 r9 0", "send r2 r9 0", "send r3 r9 0", "send r4 r9 1", "send r5 r9 1", "yield", "jal r0 again")
	images[1] = imageWith(t, x, 1, "yield", "yield", "recv r1 r2 0", "yield", "yield")
	for cycles, codes := range map[int][]uint32{100: {0, 0, 2, 0, 0}, 200: {2, 2, 2, 0, 0}, 300: {2, 2, 2, 0, 0}, 400: {0, 2, 2, 0, 0}, 500: {2, 2, 2, 0, 0}} {
		told := wantPlayed(t, "full", x, images, runCmd(cycles))
		if !slices.Equal(told.Parts[0].Guest.Regs[1:6], codes) {
			t.Error(cycles, told.Parts[0].Guest.Regs[1:6])
		}
	}
	told := wantPlayed(t, "full", x, images, runCmd(401))
	wantRows(t, "of a", told.Feeds[0], heldRow(0, 0, 0), heldRow(0, 1, 0), heldRow(100, 0, 2), heldRow(100, 1, 0), heldRow(200, 0, 2), heldRow(200, 1, 0), heldRow(300, 0, 1), heldRow(300, 1, 0), heldRow(400, 0, 2), heldRow(400, 1, 0))
	wantRows(t, "of b", told.Feeds[1], inRow(100, 0, 0, 0), inRow(100, 1, 0), inRow(200, 1, 0), inRow(300, 1, 0), inRow(400, 0, 0), inRow(400, 1, 0))
}

// The border is done at the first cycle of each frame that goes by, cycle 0 too, and at no other: not ahead of it, and not by commands.
func TestTheBorderIsAtTheFirstCycleOfAFrame(t *testing.T) {
	x := crossTables()
	images := plainImages(x)
	images[0] = sendingOn(t, x, 0)
	for cycles := range 420 {
		told := wantPlayed(t, "borders", x, images, runCmd(cycles))
		want, words := []impl.Feed{}, []int{}
		for c := 0; c < cycles; c += 100 {
			held := map[bool]int{true: 0, false: 2}[c == 0]
			want = append(want, heldRow(c, 0, held), heldRow(c, 1, 0))
			if c > 0 {
				words = append(words, c)
			}
		}
		wantRows(t, fmt.Sprint("a, ", cycles), told.Feeds[0], want...)
		got := []int{}
		for _, f := range told.Feeds[1] {
			if f.At == 1 {
				got = append(got, f.Cycle)
			}
		}
		if !slices.Equal(got, words) {
			t.Errorf("%d cycles: words came at %v, not %v", cycles, got, words)
		}
	}
}

// A run of no cycles has no border, also where the Clock stands at one.
func TestNoBorderWhereNoCycleGoesBy(t *testing.T) {
	x, images := partTables(), talkingAll(t)
	told := wantPlayed(t, "no cycle", x, images, runCmd(0), runCmd(0), inputCmd(0, 5), restartCmd(1), runCmd(0))
	wantRows(t, "a", told.Feeds[0], devRow(0, 0, 5))
	wantRows(t, "b", told.Feeds[1], restartRow(0))
	wantRows(t, "c", told.Feeds[2])
	told = wantPlayed(t, "one cycle", x, images, runCmd(0), runCmd(1), runCmd(0))
	wantRows(t, "a", told.Feeds[0], heldRow(0, 0, 0), heldRow(0, 1, 0), heldRow(0, 6, 0))
	wantRows(t, "b", told.Feeds[1], heldRow(0, 2, 0), heldRow(0, 4, 0))
	wantRows(t, "c", told.Feeds[2], heldRow(0, 3, 0), heldRow(0, 5, 0))
	a := wantPlayed(t, "up to the border", x, images, runCmd(2000))
	b := wantPlayed(t, "up to the border, and on", x, images, runCmd(2000), runCmd(0), runCmd(0))
	if !sameStanding(a, b) || len(a.Feeds[0]) != 3 {
		t.Error("a border without a cycle", a.Feeds)
	}
	b = wantPlayed(t, "over the border", x, images, runCmd(2000), runCmd(1))
	if got := len(b.Feeds[0]); got <= 6 || b.Feeds[0][3].Cycle != 2000 {
		t.Error("no border at the second frame", b.Feeds[0])
	}
}

// Commands at one Clock are done in the order of the list, ahead of the border at that cycle where more go by, and behind the last one where none do.
func TestCommandsAtOneClock(t *testing.T) {
	x := crossTables()
	images := plainImages(x)
	images[0] = imageWith(t, x, 0, "send r1 r0 0", "send r2 r0 1", "yield", "nop", "yield")
	few := []impl.Cmd{inputCmd(0, 1), restartCmd(0), inputCmd(0, 2), restartCmd(0), restartCmd(2), inputCmd(2, 3)}
	fewAt := func(c int) []impl.Feed {
		return []impl.Feed{devRow(c, 0, 1), restartRow(c), devRow(c, 0, 2), restartRow(c)}
	}
	told := wantPlayed(t, "ahead of the first run", x, images, append(slices.Clone(few), runCmd(1))...)
	wantRows(t, "ahead of the first run", told.Feeds[0], append(fewAt(0), heldRow(0, 0, 0), heldRow(0, 1, 0))...)
	wantRows(t, "ahead of the first run", told.Feeds[2], restartRow(0), devRow(0, 2, 3))
	told = wantPlayed(t, "behind the last run", x, images, append([]impl.Cmd{runCmd(1)}, few...)...)
	wantRows(t, "behind the last run", told.Feeds[0], append([]impl.Feed{heldRow(0, 0, 0), heldRow(0, 1, 0)}, fewAt(1)...)...)
	told = wantPlayed(t, "with no run", x, images, few...)
	wantRows(t, "with no run", told.Feeds[0], fewAt(0)...)
	// A restart at a border comes ahead of it: what was sent does not cross, but what crossed before stays held.
	told = wantPlayed(t, "between two runs", x, images, slices.Concat([]impl.Cmd{runCmd(100)}, few, []impl.Cmd{runCmd(100)})...)
	wantRows(t, "between two runs", told.Feeds[0], slices.Concat([]impl.Feed{heldRow(0, 0, 0), heldRow(0, 1, 0)}, fewAt(100), []impl.Feed{heldRow(100, 0, 0), heldRow(100, 1, 0)})...)
	wantRows(t, "between two runs", told.Feeds[1])
	told = wantPlayed(t, "behind the border", x, images, slices.Concat([]impl.Cmd{runCmd(101)}, few, []impl.Cmd{runCmd(300)})...)
	wantRows(t, "behind the border", told.Feeds[1], inRow(100, 0, 0), inRow(100, 1, 0), inRow(200, 0, 0), inRow(200, 1, 0))
	if told.Parts[0].Outs[0].Held != 2 || told.Feeds[0][2].Held != 1 {
		t.Error("what crossed is not held", told.Feeds[0])
	}
	told = wantPlayed(t, "behind all", x, images, append([]impl.Cmd{runCmd(50000)}, few...)...)
	if rows := told.Feeds[0]; !sameFeed(rows[len(rows)-4:], fewAt(50000)) {
		t.Error("behind MaxCycle", rows[len(rows)-4:])
	}
}

// CmdRun at each edge: below 0 it is bad, up to MaxCycle it is done, beyond it is too late, behind whatever went by.
func TestRunsAtTheirEdges(t *testing.T) {
	x := crossTables()
	images := plainImages(x)
	for _, row := range []struct{ before, at, code int }{
		{0, -1, 2}, {0, 0, 0}, {0, 1, 0}, {0, 49999, 0}, {0, 50000, 0}, {0, 50001, 1}, {0, math.MaxInt, 1}, {0, math.MinInt, 2}, {0, 1 << 32, 1}, {0, -1 << 32, 2},
		{1, -1, 2}, {1, 0, 0}, {1, 1, 0}, {1, 49998, 0}, {1, 49999, 0}, {1, 50000, 1}, {1, math.MaxInt - 1, 1}, {1, math.MaxInt, 1}, {1, math.MinInt, 2},
		{100, -100, 2}, {100, -101, 2}, {100, 49900, 0}, {100, 49901, 1}, {100, math.MaxInt - 99, 1}, {100, math.MaxInt - 100, 1}, {100, 50000, 1},
		{49999, -1, 2}, {49999, 0, 0}, {49999, 1, 0}, {49999, 2, 1}, {49999, -49999, 2}, {49999, math.MaxInt - 49998, 1},
		{50000, -1, 2}, {50000, 0, 0}, {50000, 1, 1}, {50000, 50000, 1}, {50000, -50000, 2}, {50000, math.MaxInt, 1}, {50000, math.MinInt, 2},
	} {
		what := fmt.Sprint(row.at, " cycles behind ", row.before)
		told := wantPlayed(t, what, x, images, runCmd(row.before), runCmd(row.at), inputCmd(0, 5))
		wantCodes(t, what, told, 0, row.code, 0)
		clock := row.before
		if row.code == impl.PlayDone {
			clock += row.at
		}
		wantNumber(t, "the clock of "+what, told.Clock, clock)
		wantRows(t, what, told.Feeds[0][len(told.Feeds[0])-1:], devRow(clock, 0, 5))
	}
	told := wantPlayed(t, "many", x, images, runCmd(20000), runCmd(20000), runCmd(20000), runCmd(10001), runCmd(10000), runCmd(1), runCmd(0))
	wantCodes(t, "many", told, 0, 0, 1, 1, 0, 1, 0)
}

func TestInputsAtTheirEdges(t *testing.T) {
	x := partTables()
	images := turningAll(x)
	for dev, code := range map[int]int{-1: 2, -2: 2, 0: 0, 1: 0, 2: 0, 3: 0, 4: 0, 5: 2, 6: 2, 8: 2, 1 << 32: 2, math.MinInt: 2, math.MaxInt: 2} {
		for _, before := range []int{0, 1, 900, 2000} {
			told := wantPlayed(t, "a device", x, images, runCmd(before), inputCmd(dev, 77))
			wantCodes(t, fmt.Sprint("device ", dev), told, 0, code)
			for p := range x.Parts {
				last := append([]impl.Feed{{}}, told.Feeds[p]...)
				is := sameRow(last[len(last)-1], devRow(before, dev, 77))
				if is != (code == 0 && x.Devs[dev] == p) {
					t.Errorf("device %d, a row of partition %d: %v", dev, p, is)
				}
			}
		}
	}
	none := changed(crossTables, func(x *impl.Tables) { x.Devs = nil })
	told := wantPlayed(t, "no device", none, turningAll(none), inputCmd(0, 1), inputCmd(-1, 1), inputCmd(7, 1))
	wantCodes(t, "no device", told, 2, 2, 2)
	most := mostTables()
	told = wantPlayed(t, "eight devices", most, turningAll(most), inputCmd(7, 1), inputCmd(8, 1))
	wantCodes(t, "eight devices", told, 0, 2)
}

// Eight words fit in; the start of a slot of the owner makes room for as many as it sees.
func TestInputsToADeviceThatIsFull(t *testing.T) {
	x := crossTables()
	images := turningAll(x)
	nine := []impl.Cmd{}
	for n := range uint32(9) {
		nine = append(nine, inputCmd(0, 50+n))
	}
	codes := []int{0, 0, 0, 0, 0, 0, 0, 0, 3}
	told := wantPlayed(t, "nine", x, images, nine...)
	wantCodes(t, "nine", told, codes...)
	if !sameDev(told.Parts[0].Devs[0], impl.DevState{Latch: numbered(50, 8)}) || len(told.Feeds[0]) != 8 {
		t.Error("what found no room is there", told.Feeds[0])
	}
	// Up to cycle 5 nothing is seen; there eight words are, and eight more come, of which none is seen as nothing is read.
	for cycles, full := range map[int]int{1: 3, 5: 3, 6: 0, 50: 0, 105: 0, 106: 0} {
		told = wantPlayed(t, "nine, and one more", x, images, append(slices.Clone(nine), runCmd(cycles), inputCmd(0, 70))...)
		wantCodes(t, fmt.Sprint(cycles), told, append(slices.Clone(codes), 0, full)...)
	}
	told = wantPlayed(t, "twice nine", x, images, slices.Concat(nine, []impl.Cmd{runCmd(50)}, nine, []impl.Cmd{runCmd(100)}, nine)...)
	wantCodes(t, "twice nine", told, slices.Concat(codes, []int{0}, codes, []int{0}, []int{3, 3, 3, 3, 3, 3, 3, 3, 3})...)
	if !sameDev(told.Parts[0].Devs[0], impl.DevState{Latch: numbered(50, 8), Seen: numbered(50, 8)}) {
		t.Error(told.Parts[0].Devs)
	}
	// Another device has room all the same, and one whose owner has no slot is full for good.
	told = wantPlayed(t, "another", x, images, append(slices.Clone(nine), inputCmd(1, 1), inputCmd(2, 2))...)
	wantCodes(t, "another", told, append(slices.Clone(codes), 0, 0)...)
	other := slices.Repeat([]impl.Cmd{inputCmd(2, 9)}, 9)
	told = wantPlayed(t, "no slot", x, images, append(slices.Clone(other), runCmd(5000), restartCmd(2), inputCmd(2, 9))...)
	wantCodes(t, "no slot", told, append(slices.Clone(codes), 0, 0, 3)...)
}

func TestRestartsAtTheirEdges(t *testing.T) {
	for _, maker := range []func() impl.Tables{leastTables, crossTables, partTables, mostTables} {
		x := maker()
		images := turningAll(x)
		for p := -2; p < 9; p++ {
			told := wantPlayed(t, "a partition", x, images, runCmd(40), restartCmd(p))
			wantCodes(t, fmt.Sprint("partition ", p), told, 0, map[bool]int{true: 0, false: 2}[isBetween(p, 0, len(x.Parts)-1)])
		}
		for _, p := range oddInts() {
			if !isBetween(p, 0, 5) {
				wantCodes(t, "far", wantPlayed(t, "far", x, images, restartCmd(p)), 2)
			}
		}
	}
}

// One that runs stops until its next slot; one that rests starts afresh there; one that is halted goes on there.
func TestRestartsOfEachState(t *testing.T) {
	x := crossTables()
	for what, row := range map[string]struct {
		lines []string
		// How many steps it had by cycle 35, by cycle 100 and by cycle 200, with a restart at cycle 35 and without one.
		by35, by100, by200, without int
	}{
		"runs":   {[]string{"again:", "addi r1 r1 1", "jal r0 again"}, 10, 10, 29, 38},
		"rests":  {[]string{"nop", "yield", "addi r1 r1 1", "trap 1"}, 2, 2, 4, 4},
		"halted": {[]string{"addi r1 r1 1", "trap 1"}, 2, 2, 4, 2},
	} {
		images := turningAll(x)
		images[0] = imageWith(t, x, 0, row.lines...)
		told := wantPlayed(t, what, x, images, runCmd(35), restartCmd(0))
		wantNumber(t, what+" by 35", len(told.Traces[0]), row.by35)
		s := told.Parts[0]
		if !s.Idle || s.Health.Halted || s.Health.Last != 0 || s.Guest.PC != 0 || s.Guest.Regs[1] != 0 {
			t.Error(what, partText(s))
		}
		told = wantPlayed(t, what, x, images, runCmd(35), restartCmd(0), runCmd(65))
		wantNumber(t, what+" by 100", len(told.Traces[0]), row.by100)
		told = wantPlayed(t, what, x, images, runCmd(35), restartCmd(0), runCmd(165))
		wantNumber(t, what+" by 200", len(told.Traces[0]), row.by200)
		told = wantPlayed(t, what, x, images, runCmd(200))
		wantNumber(t, what+" without", len(told.Traces[0]), row.without)
		// Ahead of its first slot a restart changes nothing but the feed.
		a, b := wantPlayed(t, what, x, images, runCmd(200)), wantPlayed(t, what, x, images, runCmd(5), restartCmd(0), runCmd(195))
		if !slices.Equal(a.Traces[0], b.Traces[0]) {
			t.Error(what, "a restart ahead of its first slot")
		}
		wantPlayed(t, what, x, images, runCmd(6), restartCmd(0), restartCmd(0), runCmd(300), restartCmd(0), runCmd(30), restartCmd(1))
	}
}

func TestCommandsOfNoKind(t *testing.T) {
	x := crossTables()
	images := turningAll(x)
	for _, kind := range append(oddInts(), -2, -1, 3, 4, 9, 256, 1<<32, 1<<32+1) {
		if isBetween(kind, 0, 2) {
			continue
		}
		for _, at := range []int{-1, 0, 1, 100} {
			told := wantPlayed(t, "no kind", x, images, impl.Cmd{Kind: kind, At: at, Word: 5}, runCmd(40), impl.Cmd{Kind: kind, At: at})
			wantCodes(t, fmt.Sprint("kind ", kind), told, 2, 0, 2)
		}
	}
}

// Word is not looked at where no word is named.
func TestWordsThatAreNotNamed(t *testing.T) {
	x, images := partTables(), talkingAll(t)
	cmds := []impl.Cmd{runCmd(300), restartCmd(0), runCmd(1700), inputCmd(1, 5), restartCmd(1), runCmd(3000), runCmd(-1), restartCmd(9), {Kind: 7}, runCmd(50000)}
	want := wantPlayed(t, "without words", x, images, cmds...)
	for _, w := range someWords() {
		worded := slices.Clone(cmds)
		for n, c := range worded {
			if c.Kind != impl.CmdInput {
				worded[n].Word = w
			}
		}
		if got, is := impl.Play(x, images, worded); !is || !sameTold(got, want) {
			t.Errorf("with %d beside commands that name no word something else is told", w)
		}
	}
	for _, w := range someWords() {
		told := wantPlayed(t, "a word", x, images, inputCmd(3, w))
		wantRows(t, "a word", told.Feeds[2], devRow(0, 3, w))
	}
}

// A command whose code is not PlayDone changes nothing, wherever it stands among others.
func TestRefusedCommandsChangeNothing(t *testing.T) {
	x, images := partTables(), talkingAll(t)
	cmds := []impl.Cmd{inputCmd(0, 5), runCmd(130), restartCmd(0), runCmd(570), inputCmd(1, 6), inputCmd(3, 7), runCmd(1300), restartCmd(2), runCmd(2500), inputCmd(4, 8)}
	want := wantPlayed(t, "without them", x, images, cmds...)
	for at := range len(cmds) + 1 {
		for _, refused := range refusedCmds(x, clockByHand(cmds[:at])) {
			told, is := impl.Play(x, images, slices.Insert(slices.Clone(cmds), at, refused))
			if !is || told.Codes[at] == impl.PlayDone || !sameStanding(told, want) {
				t.Fatalf("%+v at place %d: code %d, and something changed", refused, at, told.Codes[at])
			}
			if codes := slices.Delete(slices.Clone(told.Codes), at, at+1); !slices.Equal(codes, want.Codes) {
				t.Fatalf("%+v at place %d: other codes %v", refused, at, told.Codes)
			}
		}
	}
	// And a device that is full: what comes to it is not there, and nobody is told of it.
	full := append(slices.Repeat([]impl.Cmd{inputCmd(2, 9)}, 8), runCmd(1399))
	want = wantPlayed(t, "full", x, images, slices.Concat(full, slices.Repeat([]impl.Cmd{inputCmd(2, 9)}, 8), []impl.Cmd{runCmd(700)})...)
	told := wantPlayed(t, "more than full", x, images, slices.Concat(full, slices.Repeat([]impl.Cmd{inputCmd(2, 9)}, 11), []impl.Cmd{runCmd(700)})...)
	if !sameStanding(told, want) || !slices.Equal(told.Codes[17:20], []int{3, 3, 3}) {
		t.Error("what found no room changed something", told.Codes)
	}
}

// A run past MaxCycle is told PlayClock and changes nothing; one that meets it is done.
func TestRunsPastMaxCycle(t *testing.T) {
	x, images := partTables(), talkingAll(t)
	some := []impl.Cmd{runCmd(100), inputCmd(0, 1), runCmd(47900), inputCmd(1, 2), restartCmd(2)}
	want := wantPlayed(t, "up to 48000", x, images, some...)
	for _, past := range []int{2001, 2002, 50000, 50001, math.MaxInt - 48000, math.MaxInt - 47999, math.MaxInt} {
		told := wantPlayed(t, "past", x, images, append(slices.Clone(some), runCmd(past))...)
		if told.Codes[5] != impl.PlayClock || !sameStanding(told, want) {
			t.Errorf("%d past MaxCycle: %v", past, told.Codes)
		}
	}
	met := wantPlayed(t, "met", x, images, append(slices.Clone(some), runCmd(2001), runCmd(2000), runCmd(1))...)
	wantCodes(t, "met", met, 0, 0, 0, 0, 0, 1, 0, 1)
	wantNumber(t, "met", met.Clock, 50000)
}

func TestClockAfterByNumbers(t *testing.T) {
	for _, row := range []struct {
		cmds  []impl.Cmd
		clock int
	}{
		{nil, 0}, {[]impl.Cmd{}, 0}, {[]impl.Cmd{runCmd(0)}, 0}, {[]impl.Cmd{runCmd(1)}, 1}, {[]impl.Cmd{runCmd(-1)}, 0}, {[]impl.Cmd{runCmd(50000)}, 50000}, {[]impl.Cmd{runCmd(50001)}, 0},
		{[]impl.Cmd{runCmd(50000), runCmd(1)}, 50000}, {[]impl.Cmd{runCmd(50001), runCmd(1)}, 1}, {[]impl.Cmd{runCmd(30000), runCmd(30000), runCmd(20000)}, 50000}, {[]impl.Cmd{runCmd(30000), runCmd(20001), runCmd(-5), runCmd(7)}, 30007},
		{[]impl.Cmd{runCmd(5), runCmd(math.MaxInt), runCmd(math.MaxInt - 4), runCmd(math.MinInt), runCmd(6)}, 11},
		{[]impl.Cmd{inputCmd(7, 7), restartCmd(7), {Kind: 3, At: 7}, {Kind: -1, At: 7}, runCmd(3), inputCmd(99, 7), restartCmd(-1)}, 3},
		{slices.Repeat([]impl.Cmd{runCmd(1)}, 300), 300}, {slices.Repeat([]impl.Cmd{runCmd(1)}, 301), 0}, {slices.Repeat([]impl.Cmd{runCmd(200)}, 300), 50000}, {append(slices.Repeat([]impl.Cmd{{Kind: 9}}, 299), runCmd(9)), 9}, {append(slices.Repeat([]impl.Cmd{{Kind: 9}}, 300), runCmd(9)), 0},
	} {
		wantNumber(t, fmt.Sprintf("ClockAfter of %d: %.80s", len(row.cmds), fmt.Sprint(row.cmds)), impl.ClockAfter(row.cmds), row.clock)
	}
}

// It is the Clock that Play tells, whatever the tables.
func TestClockAfterIsTheClockOfPlay(t *testing.T) {
	chance := rand.New(rand.NewSource(200))
	makers := append(timeMakers(), partTables, crossTables)
	kinds := []int{0, 0, 0, 0, 0, 0, 1, 2, -1, 3}
	refused := 0
	for range 150 {
		cmds := []impl.Cmd{}
		for range chance.Intn(12) {
			left := 50000 - clockByHand(cmds)
			ahead := []int{chance.Intn(60000), chance.Intn(900), chance.Intn(9000), -1, 0, left, left + 1}
			cmds = append(cmds, impl.Cmd{Kind: kinds[chance.Intn(len(kinds))], At: ahead[chance.Intn(len(ahead))], Word: chance.Uint32()})
		}
		x := makers[chance.Intn(len(makers))]()
		told, is := impl.Play(x, plainImages(x), cmds)
		if !is || told.Clock != impl.ClockAfter(cmds) || told.Clock != clockByHand(cmds) {
			t.Fatalf("%v: the clock is %d, and %d behind them", cmds, told.Clock, impl.ClockAfter(cmds))
		}
		refused += len(slices.DeleteFunc(told.Codes, func(code int) bool { return code != impl.PlayClock }))
	}
	if refused < 100 {
		t.Error("too few runs were refused:", refused)
	}
}

// A step that has begun goes on over the end of a command; the next one begins when it has ended.
func TestAStepOverTheEndOfACommand(t *testing.T) {
	x := partTables()
	images := turningAll(x)
	images[0] = counting(t, x, 0)
	whole := wantPlayed(t, "whole", x, images, runCmd(400))
	if whole.Traces[0][0].At != 130 || whole.Traces[0][1].At != 161 {
		t.Fatal(whole.Traces[0][:2])
	}
	for cut := 130; cut < 164; cut++ {
		told := wantPlayed(t, "cut", x, images, runCmd(cut), inputCmd(0, 5), runCmd(400-cut))
		if !slices.Equal(told.Traces[0], whole.Traces[0]) {
			t.Errorf("cut at %d", cut)
		}
	}
}

// toldLooks are all lists of an answer, those within others too.
func toldLooks(told impl.Told) []listLook {
	list := []listLook{lookAt(told.Codes, func(n int) int { return n }, func(n int) int { return n })}
	list = append(list, lookAt(told.Parts, func(n int) impl.PartState { return impl.PartState{Next: n} }, func(s impl.PartState) int { return s.Next }))
	list = append(list, lookAt(told.Traces, func(n int) []impl.Event { return make([]impl.Event, n) }, func(e []impl.Event) int { return len(e) }))
	list = append(list, lookAt(told.Feeds, func(n int) []impl.Feed { return make([]impl.Feed, n) }, func(f []impl.Feed) int { return len(f) }))
	for _, s := range told.Parts {
		list = append(list, partLooks(s)...)
	}
	for _, trace := range told.Traces {
		list = append(list, lookEvents(trace))
	}
	for _, feed := range told.Feeds {
		list = append(list, lookFeed(feed)...)
	}
	return list
}

// copyTold shares nothing with what it is given.
func copyTold(told impl.Told) impl.Told {
	told.Codes, told.Parts, told.Traces, told.Feeds = slices.Clone(told.Codes), slices.Clone(told.Parts), slices.Clone(told.Traces), slices.Clone(told.Feeds)
	for p := range told.Parts {
		told.Parts[p], told.Traces[p], told.Feeds[p] = copyPart(told.Parts[p]), slices.Clone(told.Traces[p]), copyFeed(told.Feeds[p])
	}
	return told
}

// givenSystem is what Play is handed.
type givenSystem struct {
	x      impl.Tables
	images [][][]byte
	cmds   []impl.Cmd
}

// looks are the lists of the images and of the commands, up to their capacity.
func (g givenSystem) looks() []listLook {
	list := []listLook{lookAt(g.cmds, func(n int) impl.Cmd { return impl.Cmd{Kind: n, At: n} }, func(c impl.Cmd) int { return c.Kind + 3*c.At + 5*int(c.Word) })}
	list = append(list, lookAt(g.images, func(n int) [][]byte { return make([][]byte, n) }, func(i [][]byte) int { return len(i) }))
	for _, image := range g.images[:cap(g.images)] {
		list = append(list, lookImage(image)...)
	}
	return list
}

// roomy has each list at the front of a greater one; the function tells all that those have.
func (g givenSystem) roomy() (givenSystem, func() string) {
	tables, told := roomyTables(g.x)
	images := [][][]byte{}
	for _, image := range g.images {
		images = append(images, roomyImage(image))
	}
	images, _ = roomed(images, [][]byte{{7, 7}})
	cmds, _ := roomed(g.cmds, runCmd(3))
	g = givenSystem{tables, images, cmds}
	looks := g.looks()
	return g, func() string { return told() + toldOf(looks) }
}

// memorySystems are right ones that talk, that fault and that are restarted, drawn ones, and wrong ones.
func memorySystems(t *testing.T, chance *rand.Rand) []givenSystem {
	t.Helper()
	x, talk := partTables(), talkingAll(t)
	cmds := []impl.Cmd{inputCmd(0, 5), inputCmd(1, 6), runCmd(2100), inputCmd(2, 7), restartCmd(0), runCmd(2100), inputCmd(3, 8), {Kind: 5}, runCmd(60000), restartCmd(1)}
	list := []givenSystem{{x, talk, cmds}, {x, talk, nil}, {x, talk, cmds[:2]}, {x, talk[1:], cmds}, {x, nil, cmds}, {impl.Tables{}, talk, cmds}, {x, talk, slices.Repeat(cmds, 31)}, {}}
	for range 40 {
		x, images := drawnSystem(t, chance)
		list = append(list, givenSystem{x, images, drawnCmds(chance, x, 15, 3*x.Major)})
	}
	return list
}

// Promise 26: no list that is handed in, and none within it, is written into or looked at behind its end.
func TestSystemsWriteIntoNothing(t *testing.T) {
	for _, g := range memorySystems(t, rand.New(rand.NewSource(201))) {
		roomy, told := g.roomy()
		before := told()
		ok, clock := impl.ImagesOk(roomy.x, roomy.images), impl.ClockAfter(roomy.cmds)
		got, is := impl.Play(roomy.x, roomy.images, roomy.cmds)
		if after := told(); after != before {
			t.Fatalf("%s\nbecame\n%s", before, after)
		}
		want, wantIs := impl.Play(g.x, g.images, g.cmds)
		if ok != impl.ImagesOk(g.x, g.images) || clock != impl.ClockAfter(g.cmds) || is != wantIs || !sameTold(got, want) {
			t.Fatal("what lies behind a list was looked at")
		}
	}
}

// Promise 26: an answer is new memory: what is written into it is seen in no argument, and the other way round.
func TestSystemsAreNewMemory(t *testing.T) {
	for _, g := range memorySystems(t, rand.New(rand.NewSource(202))) {
		roomy, told := g.roomy()
		before := told()
		got, _ := impl.Play(roomy.x, roomy.images, roomy.cmds)
		for _, look := range toldLooks(got) {
			look.scribble(77)
		}
		if told() != before {
			t.Fatal("an answer shares memory with an argument")
		}
		got, is := impl.Play(roomy.x, roomy.images, roomy.cmds)
		for _, look := range roomy.looks() {
			look.scribble(77)
		}
		if want, wantIs := impl.Play(g.x, g.images, g.cmds); is != wantIs || !sameTold(got, want) {
			t.Fatal("an argument shares memory with an answer")
		}
	}
}

// No two lists of one answer share memory, also where the images of two partitions do.
func TestListsOfASystemAreItsOwn(t *testing.T) {
	for _, g := range memorySystems(t, rand.New(rand.NewSource(203))) {
		told, _ := impl.Play(g.x, g.images, g.cmds)
		wantLooksApart(t, "a system", toldLooks(told))
	}
	x := crossTables()
	image := sendingOn(t, x, 0)
	told, is := impl.Play(x, [][][]byte{image, image, image}, []impl.Cmd{runCmd(250), inputCmd(0, 1), restartCmd(1)})
	if !is {
		t.Fatal("one image for all is refused")
	}
	wantLooksApart(t, "one image for all", toldLooks(told))
}

// Nothing is kept from call to call: what was asked in between, and what was written into an answer, changes none.
func TestSystemsKeepNothing(t *testing.T) {
	list, first := memorySystems(t, rand.New(rand.NewSource(204))), []impl.Told{}
	for _, g := range list {
		told, _ := impl.Play(g.x, g.images, g.cmds)
		first = append(first, copyTold(told))
		for _, look := range toldLooks(told) {
			look.scribble(78)
		}
	}
	for n, g := range slices.Backward(list) {
		if told, _ := impl.Play(g.x, g.images, g.cmds); !sameTold(told, first[n]) {
			t.Fatal("another answer the second time")
		}
	}
}
