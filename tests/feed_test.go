package tests

import (
	"fmt"
	"math"
	"math/rand"
	"slices"
	"testing"

	"loop.example/g00076/impl"
)

func inRow(cycle int, at int, words ...uint32) impl.Feed {
	return impl.Feed{Cycle: cycle, Kind: impl.FeedIn, At: at, Words: words}
}

func heldRow(cycle int, at int, held int) impl.Feed {
	return impl.Feed{Cycle: cycle, Kind: impl.FeedHeld, At: at, Held: held}
}

func devRow(cycle int, at int, w uint32) impl.Feed {
	return impl.Feed{Cycle: cycle, Kind: impl.FeedDev, At: at, Words: []uint32{w}}
}

func restartRow(cycle int) impl.Feed {
	return impl.Feed{Cycle: cycle, Kind: impl.FeedRestart}
}

// fedRow is a row with one thing changed, its words new ones.
func fedRow(f impl.Feed, change func(f *impl.Feed)) impl.Feed {
	f.Words = slices.Clone(f.Words)
	change(&f)
	return f
}

func copyFeed(feed []impl.Feed) []impl.Feed {
	list := []impl.Feed{}
	for _, f := range feed {
		list = append(list, fedRow(f, func(*impl.Feed) {}))
	}
	return list
}

// rowOkByHand is for a partition that there is.
func rowOkByHand(x impl.Tables, p int, f impl.Feed) bool {
	row, owner := impl.ChanRow{From: -1, To: -1}, -1
	if isBetween(f.At, 0, len(x.Chans)-1) {
		row = x.Chans[f.At]
	}
	if isBetween(f.At, 0, len(x.Devs)-1) {
		owner = x.Devs[f.At]
	}
	words := len(f.Words)
	switch f.Kind {
	case 0:
		return row.To == p && f.Held == 0 && isBetween(words, 1, max(row.Depth, 1))
	case 1:
		return row.From == p && words == 0 && isBetween(f.Held, 0, row.Depth)
	case 2:
		return owner == p && f.Held == 0 && words == 1
	case 3:
		return f.At == 0 && f.Held == 0 && words == 0
	}
	return false
}

func feedOkByHand(x impl.Tables, p int, feed []impl.Feed, cycles int) bool {
	if !soundByHand(x) || !isBetween(p, 0, len(x.Parts)-1) || !isBetween(cycles, 0, 50000) || len(feed) > 30000 {
		return false
	}
	right := true
	for n, f := range feed {
		right = right && rowOkByHand(x, p, f) && isBetween(f.Cycle, 0, cycles) && (n == 0 || feed[n-1].Cycle <= f.Cycle)
	}
	return right
}

// eachRow are right rows of a partition at a cycle: each kind with each channel and device of its own, with the fewest words and the most.
func eachRow(x impl.Tables, p int, cycle int) []impl.Feed {
	list := []impl.Feed{restartRow(cycle)}
	for n, r := range x.Chans {
		if r.To == p {
			list = append(list, inRow(cycle, n, uint32(100*n)), inRow(cycle, n, numbered(uint32(100*n), max(r.Depth, 1))...))
		}
		if r.From == p {
			list = append(list, heldRow(cycle, n, 0), heldRow(cycle, n, r.Depth))
		}
	}
	for n, owner := range x.Devs {
		if owner == p {
			list = append(list, devRow(cycle, n, uint32(7000+n)))
		}
	}
	return list
}

// drawnRow is a right one.
func drawnRow(chance *rand.Rand, x impl.Tables, p int, cycle int) impl.Feed {
	rows := eachRow(x, p, cycle)
	if len(rows) > 1 && chance.Intn(8) > 0 {
		rows = rows[1:]
	}
	f := rows[chance.Intn(len(rows))]
	switch f.Kind {
	case impl.FeedIn:
		f.Words = numbered(chance.Uint32(), 1+chance.Intn(max(x.Chans[f.At].Depth, 1)))
	case impl.FeedHeld:
		f.Held = chance.Intn(x.Chans[f.At].Depth + 1)
	case impl.FeedDev:
		f.Words = []uint32{chance.Uint32()}
	}
	return f
}

// drawnFeed is right; many of its rows come at one cycle, at the start of a slot, at the first cycle of all or at the last one.
func drawnFeed(chance *rand.Rand, x impl.Tables, p int, most int, cycles int) []impl.Feed {
	at := []int{0, cycles, max(cycles-1, 0)}
	for _, edge := range edgesOf(x) {
		at = append(at, min(max(edge, 0), cycles), min(max(edge, 0)+x.Major, cycles))
	}
	feed := []impl.Feed{}
	for range chance.Intn(most + 1) {
		cycle := chance.Intn(cycles + 1)
		if chance.Intn(2) == 0 {
			cycle = at[chance.Intn(len(at))]
		}
		for range 1 + chance.Intn(2)*chance.Intn(6) {
			feed = append(feed, drawnRow(chance, x, p, cycle))
		}
	}
	slices.SortStableFunc(feed, func(a impl.Feed, b impl.Feed) int { return a.Cycle - b.Cycle })
	return feed
}

// plainImage is right for the partition, if there is one.
func plainImage(x impl.Tables, p int) [][]byte {
	if !isBetween(p, 0, len(x.Parts)-1) {
		return nil
	}
	return imageOver(x.Parts[p].Windows)
}

func wantNoSolo(t *testing.T, what string, x impl.Tables, p int, image [][]byte, feed []impl.Feed, cycles int) {
	t.Helper()
	events, s, is := impl.Solo(x, p, image, feed, cycles)
	if is || len(events) != 0 || !samePart(s, impl.PartState{}) {
		t.Errorf("%s: Solo of partition %d and %d cycles: %v %v %s", what, p, cycles, is, events, partText(s))
	}
}

// wantFeed asks FeedOk, and Solo too where the feed is wrong: beside an image that is right it is refused.
func wantFeed(t *testing.T, what string, x impl.Tables, p int, feed []impl.Feed, cycles int, want bool) {
	t.Helper()
	if got := impl.FeedOk(x, p, feed, cycles); got != want {
		t.Errorf("%s: FeedOk of partition %d and %d cycles is %v: %.300s", what, p, cycles, got, fmt.Sprintf("%+v", feed))
	}
	if !want {
		wantNoSolo(t, what, x, p, plainImage(x, p), feed, cycles)
	}
}

func TestFeedConstants(t *testing.T) {
	got := []int{impl.MaxFeed, impl.FeedIn, impl.FeedHeld, impl.FeedDev, impl.FeedRestart}
	if !slices.Equal(got, []int{30000, 0, 1, 2, 3}) {
		t.Error(got)
	}
}

func TestFeedOkByNumbers(t *testing.T) {
	x := partTables()
	wantFeed(t, "rows of partition 0", x, 0, []impl.Feed{
		inRow(0, 2, 1), inRow(0, 2, 1, 2, 3), inRow(0, 3, 9), heldRow(1, 0, 2), heldRow(1, 1, 0), heldRow(1, 6, 8), devRow(2, 0, 0), devRow(2, 4, 5), restartRow(7), restartRow(7),
	}, 7, true)
	wantFeed(t, "rows of partition 1", x, 1, []impl.Feed{inRow(3, 0, 1, 2), inRow(3, 1, 1), inRow(3, 5, 1), heldRow(3, 2, 3), heldRow(3, 4, 1), devRow(3, 1, 5)}, 3, true)
	wantFeed(t, "rows of partition 2", x, 2, []impl.Feed{inRow(3, 4, 1), inRow(3, 6, numbered(1, 8)...), heldRow(3, 3, 0), heldRow(3, 5, 0), devRow(3, 3, 5)}, 3, true)
	for what, f := range map[string]impl.Feed{
		"a word too many":               inRow(0, 2, 1, 2, 3, 4),
		"no word":                       inRow(0, 2),
		"two words to be shown":         inRow(0, 3, 1, 2),
		"no word to be shown":           inRow(0, 3),
		"its own sending end":           inRow(0, 0, 1),
		"words between others":          inRow(0, 4, 1),
		"no channel":                    inRow(0, 7, 1),
		"a channel below 0":             inRow(0, -1, 1),
		"one too many held":             heldRow(0, 0, 3),
		"one held of one that shows":    heldRow(0, 1, 1),
		"held below 0":                  heldRow(0, 0, -1),
		"its own receiving end":         heldRow(0, 2, 1),
		"held between others":           heldRow(0, 5, 0),
		"no channel to hold":            heldRow(0, 7, 0),
		"a channel to hold below 0":     heldRow(0, -1, 0),
		"a device of another":           devRow(0, 1, 1),
		"no device":                     devRow(0, 5, 1),
		"a device below 0":              devRow(0, -1, 1),
		"a device without a word":       {Kind: 2},
		"two words for a device":        {Kind: 2, Words: []uint32{1, 2}},
		"a kind below 0":                {Kind: -1},
		"one kind too many":             {Kind: 4},
		"a restart at a place":          {Kind: 3, At: 1},
		"a restart below a place":       {Kind: 3, At: -1},
		"a restart with words":          {Kind: 3, Words: []uint32{0}},
		"a restart with something held": {Kind: 3, Held: 1},
		"words and something held":      {Kind: 0, At: 2, Held: 1, Words: []uint32{1}},
		"held and a word":               {Kind: 1, At: 0, Held: 1, Words: []uint32{0}},
		"a device and something held":   {Kind: 2, At: 0, Held: 1, Words: []uint32{1}},
		"a device and less than held":   {Kind: 2, At: 0, Held: -1, Words: []uint32{1}},
	} {
		wantFeed(t, what, x, 0, []impl.Feed{f}, 100, false)
		wantFeed(t, what+", the last of three", x, 0, []impl.Feed{restartRow(0), devRow(0, 0, 1), f}, 100, false)
		wantFeed(t, what+", the first of three", x, 0, []impl.Feed{f, restartRow(0), devRow(0, 0, 1)}, 100, false)
	}
}

// Each kind with each place, each Held and each count of words, those too that are none.
func TestFeedOkOfEachRow(t *testing.T) {
	x := partTables()
	places := []int{math.MinInt, -1, 0, 1, 2, 3, 4, 5, 6, 7, 8, 1 << 32, math.MaxInt}
	helds := []int{math.MinInt, -1, 0, 1, 2, 3, 4, 8, 9, 1 << 32, math.MaxInt}
	right := map[int]int{}
	for p := range 3 {
		for _, kind := range []int{math.MinInt, -1, 0, 1, 2, 3, 4, 5, 256, 1 << 32, math.MaxInt} {
			for _, at := range places {
				for _, held := range helds {
					for _, words := range []int{0, 1, 2, 3, 4, 8, 9, 256} {
						f := impl.Feed{Kind: kind, At: at, Held: held, Words: numbered(5, words)}
						want := rowOkByHand(x, p, f)
						if got := impl.FeedOk(x, p, []impl.Feed{f}, 0); got != want {
							t.Errorf("FeedOk of partition %d is %v: %+v", p, got, f)
						}
						if want {
							right[kind]++
						}
					}
				}
			}
		}
	}
	if right[0] < 10 || right[1] < 15 || right[2] != 5 || right[3] != 3 || len(right) != 4 {
		t.Error("how many were right, by kind:", right)
	}
}

// Each field that a kind does not name, alone and whatever it is, makes a row wrong.
func TestFeedOkOfFieldsThatAreNotNamed(t *testing.T) {
	x := partTables()
	numbers := append(oddInts(), -2, -1, 1, 2, 3, 8)
	for p := range 3 {
		for _, f := range eachRow(x, p, 5) {
			wantFeed(t, "as it is", x, p, []impl.Feed{f}, 9, true)
			for _, n := range numbers {
				if f.Kind != impl.FeedHeld {
					wantFeed(t, "Held", x, p, []impl.Feed{fedRow(f, func(f *impl.Feed) { f.Held = n })}, 9, false)
				}
				if f.Kind == impl.FeedRestart {
					wantFeed(t, "At", x, p, []impl.Feed{fedRow(f, func(f *impl.Feed) { f.At = n })}, 9, false)
				}
			}
			for _, words := range []int{1, 2, 8} {
				if f.Kind == impl.FeedHeld || f.Kind == impl.FeedRestart {
					wantFeed(t, "Words", x, p, []impl.Feed{fedRow(f, func(f *impl.Feed) { f.Words = make([]uint32, words) })}, 9, false)
				}
			}
			// A list that has no word is the zero value, whether it is nil or not.
			if len(f.Words) == 0 {
				wantFeed(t, "an empty list", x, p, []impl.Feed{fedRow(f, func(f *impl.Feed) { f.Words = []uint32{} })}, 9, true)
			}
		}
	}
}

// Of each channel each count of words and each Held, from none to beyond the greatest Depth.
func TestFeedOkByDepth(t *testing.T) {
	for depth := range 9 {
		x := changed(partTables, func(x *impl.Tables) {
			x.Chans[0].Kind, x.Chans[0].Depth = min(depth, 1), depth
			x.Chans[2].Kind, x.Chans[2].Depth = min(depth, 1), depth
		})
		wantSound(t, "a depth", x, true)
		for n := range 12 {
			wantFeed(t, "words", x, 0, []impl.Feed{inRow(0, 2, numbered(1, n)...)}, 0, isBetween(n, 1, max(depth, 1)))
			wantFeed(t, "held", x, 0, []impl.Feed{heldRow(0, 0, n)}, 0, n <= depth)
		}
		for _, held := range append(oddInts(), -1, -8) {
			wantFeed(t, "far held", x, 0, []impl.Feed{heldRow(0, 0, held)}, 0, false)
		}
	}
}

func TestFeedOkByCycles(t *testing.T) {
	x := partTables()
	for p := range 3 {
		for _, cycles := range noCycles() {
			wantFeed(t, "no such cycles, no row", x, p, nil, cycles, false)
			wantFeed(t, "no such cycles", x, p, []impl.Feed{restartRow(0)}, cycles, false)
			wantFeed(t, "no such cycles, nor the row's", x, p, []impl.Feed{restartRow(cycles)}, cycles, false)
		}
		for _, cycles := range []int{0, 1, 2, 130, 49999, 50000} {
			wantFeed(t, "no row", x, p, nil, cycles, true)
			wantFeed(t, "an empty list", x, p, []impl.Feed{}, cycles, true)
			for _, cycle := range append(noCycles(), 0, 1, 2, 129, 130, 131, cycles-1, cycles, cycles+1) {
				for _, f := range eachRow(x, p, cycle) {
					wantFeed(t, "one row", x, p, []impl.Feed{f}, cycles, isBetween(cycle, 0, cycles))
				}
			}
		}
	}
}

func TestFeedOkOfCyclesThatFall(t *testing.T) {
	x := partTables()
	for _, row := range []struct {
		at    []int
		right bool
	}{
		{[]int{0, 0, 0}, true}, {[]int{5, 5, 5}, true}, {[]int{0, 5, 9}, true}, {[]int{9, 9, 9}, true}, {[]int{0, 0, 9}, true}, {[]int{0, 9, 9}, true},
		{[]int{1, 0, 1}, false}, {[]int{0, 5, 4}, false}, {[]int{9, 8, 9}, false}, {[]int{5, 4, 5}, false}, {[]int{9, 9, 0}, false}, {[]int{9, 0, 0}, false},
		{[]int{0, 5, 10}, false}, {[]int{10, 10, 10}, false}, {[]int{-1, 0, 0}, false}, {[]int{0, -1, 0}, false}, {[]int{-1, -1, -1}, false}, {[]int{0, 10, 9}, false},
	} {
		feed := []impl.Feed{devRow(row.at[0], 2, 1), heldRow(row.at[1], 0, 1), restartRow(row.at[2])}
		wantFeed(t, fmt.Sprint(row.at), x, 0, feed, 9, row.right)
	}
}

func TestFeedOkByCountOfRows(t *testing.T) {
	x := partTables()
	for _, count := range []int{29999, 30000, 30001, 30002, 60000, 1<<16 + 1} {
		wantFeed(t, "many restarts", x, 0, slices.Repeat([]impl.Feed{restartRow(3)}, count), 3, count <= 30000)
		wantFeed(t, "many words", x, 1, slices.Repeat([]impl.Feed{inRow(50000, 0, 1, 2)}, count), 50000, count <= 30000)
	}
	last := slices.Repeat([]impl.Feed{devRow(3, 3, 1)}, 30000)
	last[29999].At = 2
	wantFeed(t, "the last of many is wrong", x, 2, last, 3, false)
	last[29999] = devRow(2, 3, 1)
	wantFeed(t, "the last of many falls", x, 2, last, 3, false)
}

func TestFeedOkOfNoPartition(t *testing.T) {
	x := partTables()
	for _, p := range noParts() {
		wantFeed(t, "no partition, no row", x, p, nil, 10, false)
		wantFeed(t, "no partition", x, p, []impl.Feed{restartRow(0)}, 10, false)
		// Another's image is none of nobody's either.
		wantNoSolo(t, "no partition", x, p, imageOver(x.Parts[0].Windows), nil, 10)
	}
	for p := range 3 {
		for other := range 3 {
			for _, f := range eachRow(x, p, 0)[1:] {
				wantFeed(t, "a row of another", x, other, []impl.Feed{f}, 10, p == other)
			}
		}
	}
}

func TestFeedOkOfTablesThatAreNotSound(t *testing.T) {
	for what, x := range wrongTables() {
		for p := -1; p < 7; p++ {
			wantFeed(t, what, x, p, nil, 0, false)
			wantFeed(t, what, x, p, nil, 50000, false)
			wantFeed(t, what, x, p, []impl.Feed{restartRow(0)}, 10, false)
		}
	}
	for _, maker := range append(timeMakers(), partTables) {
		x := maker()
		for p := -1; p <= len(x.Parts); p++ {
			wantFeed(t, "sound", x, p, []impl.Feed{restartRow(0)}, 10, isBetween(p, 0, len(x.Parts)-1))
		}
	}
}

// disturbFeed changes one thing of a right feed; what comes may be right or not.
func disturbFeed(chance *rand.Rand, feed []impl.Feed) []impl.Feed {
	feed = copyFeed(feed)
	if len(feed) == 0 {
		return feed
	}
	f := &feed[chance.Intn(len(feed))]
	add := []int{-2, -1, -1, 1, 1, 2, 9}[chance.Intn(7)]
	switch chance.Intn(5) {
	case 0:
		f.Cycle += add
	case 1:
		f.Kind += add
	case 2:
		f.At += add
	case 3:
		f.Held += add
	case 4:
		f.Words = numbered(3, chance.Intn(10))
	}
	return feed
}

func TestFeedOkOfDrawnFeeds(t *testing.T) {
	chance := rand.New(rand.NewSource(184))
	right, wrong := 0, 0
	for range 3000 {
		x := drawnTables(chance)
		p := chance.Intn(len(x.Parts))
		cycles := chance.Intn(400)
		feed := drawnFeed(chance, x, p, 6, cycles)
		wantFeed(t, "drawn", x, p, feed, cycles, true)
		feed = disturbFeed(chance, feed)
		want := feedOkByHand(x, p, feed, cycles)
		wantFeed(t, "disturbed", x, p, feed, cycles, want)
		if want {
			right++
		} else {
			wrong++
		}
	}
	if right < 300 || wrong < 300 {
		t.Error("too few of one kind:", right, wrong)
	}
}
