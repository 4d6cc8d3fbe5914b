package tests

import (
	"math"
	"math/rand"
	"slices"
	"testing"

	"loop.example/g00076/impl"
)

// devOf has words that tell by themselves which of the two lists they come from and where they stood.
func devOf(latch int, seen int) impl.DevState {
	return impl.DevState{Latch: numbered(100, latch), Seen: numbered(200, seen)}
}

// devSizes are counts of words of one list, right ones and too many.
func devSizes() []int {
	return []int{0, 1, 2, 3, 4, 5, 6, 7, 8, 9, 10, 16, 17, 256, 257}
}

func devOkByHand(latch int, seen int) bool {
	right := []int{0, 1, 2, 3, 4, 5, 6, 7, 8}
	return slices.Contains(right, latch) && slices.Contains(right, seen)
}

func sameDev(a impl.DevState, b impl.DevState) bool {
	return slices.Equal(a.Latch, b.Latch) && slices.Equal(a.Seen, b.Seen)
}

func wantDevInput(t *testing.T, s impl.DevState, w uint32, after impl.DevState, taken bool) {
	t.Helper()
	gotAfter, got := impl.DevInput(s, w)
	if !sameDev(gotAfter, after) || got != taken {
		t.Errorf("DevInput(%v, %d) = %v, %v, not %v, %v", s, w, gotAfter, got, after, taken)
	}
}

func wantDevOpen(t *testing.T, s impl.DevState, after impl.DevState, moved bool) {
	t.Helper()
	gotAfter, got := impl.DevOpen(s)
	if !sameDev(gotAfter, after) || got != moved {
		t.Errorf("DevOpen(%v) = %v, %v, not %v, %v", s, gotAfter, got, after, moved)
	}
}

func wantDevRead(t *testing.T, s impl.DevState, after impl.DevState, w uint32, code int) {
	t.Helper()
	gotAfter, got, gotCode := impl.DevRead(s)
	if !sameDev(gotAfter, after) || got != w || gotCode != code {
		t.Errorf("DevRead(%v) = %v, %d, %d, not %v, %d, %d", s, gotAfter, got, gotCode, after, w, code)
	}
}

func wantDevPlay(t *testing.T, ops []impl.DevOp, want []impl.DevSaid) {
	t.Helper()
	if got := impl.DevPlay(ops); !slices.Equal(got, want) {
		t.Errorf("DevPlay(%d ops) = %v, not %v", len(ops), got, want)
	}
}

func coming(w uint32) impl.DevOp {
	return impl.DevOp{Kind: impl.DevIn, Word: w}
}

func TestDeviceConstants(t *testing.T) {
	got := []int{impl.MaxLatch, impl.DevDone, impl.DevEmpty, impl.DevNone, impl.DevIn, impl.DevSlot, impl.DevGet}
	want := []int{8, 0, 1, 3, 0, 1, 2}
	if !slices.Equal(got, want) {
		t.Error(got, want)
	}
}

func TestDevOkOfEachPairOfLists(t *testing.T) {
	right := 0
	for _, latch := range devSizes() {
		for _, seen := range devSizes() {
			want := devOkByHand(latch, seen)
			if impl.DevOk(devOf(latch, seen)) != want {
				t.Errorf("DevOk of %d and %d words is not %v", latch, seen, want)
			}
			if want {
				right++
			}
		}
	}
	if right != 81 || !impl.DevOk(impl.DevState{}) {
		t.Error("pairs that are right:", right)
	}
}

func TestDevInputByNumbers(t *testing.T) {
	wantDevInput(t, impl.DevState{}, 7, impl.DevState{Latch: []uint32{7}}, true)
	wantDevInput(t, impl.DevState{}, 0, impl.DevState{Latch: []uint32{0}}, true)
	wantDevInput(t, devOf(1, 0), 7, impl.DevState{Latch: []uint32{100, 7}}, true)
	wantDevInput(t, devOf(1, 2), math.MaxUint32, impl.DevState{Latch: []uint32{100, math.MaxUint32}, Seen: []uint32{200, 201}}, true)
	wantDevInput(t, devOf(7, 8), 7, impl.DevState{Latch: []uint32{100, 101, 102, 103, 104, 105, 106, 7}, Seen: numbered(200, 8)}, true)
	wantDevInput(t, devOf(8, 0), 7, devOf(8, 0), false)
	wantDevInput(t, devOf(8, 8), 7, devOf(8, 8), false)
	wantDevInput(t, devOf(9, 0), 7, impl.DevState{}, false)
	wantDevInput(t, devOf(0, 9), 7, impl.DevState{}, false)
	wantDevInput(t, devOf(9, 9), 7, impl.DevState{}, false)
}

func TestDevInputOfEachState(t *testing.T) {
	for _, latch := range devSizes() {
		for _, seen := range devSizes() {
			for _, w := range []uint32{0, 1, 100, 200, math.MaxUint32} {
				switch s := devOf(latch, seen); {
				case !devOkByHand(latch, seen):
					wantDevInput(t, s, w, impl.DevState{}, false)
				case latch == 8:
					wantDevInput(t, s, w, s, false)
				default:
					wantDevInput(t, s, w, impl.DevState{Latch: append(numbered(100, latch), w), Seen: numbered(200, seen)}, true)
				}
			}
		}
	}
}

func TestDevOpenByNumbers(t *testing.T) {
	wantDevOpen(t, impl.DevState{}, impl.DevState{}, false)
	wantDevOpen(t, devOf(0, 3), devOf(0, 3), false)
	wantDevOpen(t, devOf(0, 8), devOf(0, 8), false)
	wantDevOpen(t, devOf(1, 0), impl.DevState{Seen: []uint32{100}}, true)
	wantDevOpen(t, devOf(8, 0), impl.DevState{Seen: numbered(100, 8)}, true)
	wantDevOpen(t, devOf(2, 3), impl.DevState{Seen: []uint32{200, 201, 202, 100, 101}}, true)
	wantDevOpen(t, devOf(3, 5), impl.DevState{Seen: []uint32{200, 201, 202, 203, 204, 100, 101, 102}}, true)
	wantDevOpen(t, devOf(4, 5), impl.DevState{Latch: []uint32{103}, Seen: []uint32{200, 201, 202, 203, 204, 100, 101, 102}}, true)
	wantDevOpen(t, devOf(8, 7), impl.DevState{Latch: numbered(101, 7), Seen: []uint32{200, 201, 202, 203, 204, 205, 206, 100}}, true)
	wantDevOpen(t, devOf(1, 8), devOf(1, 8), false)
	wantDevOpen(t, devOf(8, 8), devOf(8, 8), false)
	wantDevOpen(t, devOf(9, 0), impl.DevState{}, false)
	wantDevOpen(t, devOf(0, 9), impl.DevState{}, false)
	wantDevOpen(t, devOf(3, 9), impl.DevState{}, false)
	wantDevOpen(t, devOf(9, 3), impl.DevState{}, false)
}

// openedByHand moves one word at a time.
func openedByHand(latch int, seen int) impl.DevState {
	s := devOf(latch, seen)
	for len(s.Latch) > 0 && len(s.Seen) < 8 {
		s.Seen = append(s.Seen, s.Latch[0])
		s.Latch = s.Latch[1:]
	}
	return s
}

func TestDevOpenOfEachState(t *testing.T) {
	for _, latch := range devSizes() {
		for _, seen := range devSizes() {
			if !devOkByHand(latch, seen) {
				wantDevOpen(t, devOf(latch, seen), impl.DevState{}, false)
				continue
			}
			after := openedByHand(latch, seen)
			wantDevOpen(t, devOf(latch, seen), after, latch > 0 && seen < 8)
			wantDevOpen(t, after, after, false)
		}
	}
}

func TestDevReadByNumbers(t *testing.T) {
	wantDevRead(t, impl.DevState{}, impl.DevState{}, 0, impl.DevEmpty)
	wantDevRead(t, devOf(3, 0), devOf(3, 0), 0, impl.DevEmpty)
	wantDevRead(t, devOf(8, 0), devOf(8, 0), 0, impl.DevEmpty)
	wantDevRead(t, devOf(0, 1), impl.DevState{}, 200, impl.DevDone)
	wantDevRead(t, devOf(2, 1), devOf(2, 0), 200, impl.DevDone)
	wantDevRead(t, devOf(2, 3), impl.DevState{Latch: []uint32{100, 101}, Seen: []uint32{201, 202}}, 200, impl.DevDone)
	wantDevRead(t, devOf(8, 8), impl.DevState{Latch: numbered(100, 8), Seen: numbered(201, 7)}, 200, impl.DevDone)
	wantDevRead(t, impl.DevState{Seen: []uint32{0, 5}}, impl.DevState{Seen: []uint32{5}}, 0, impl.DevDone)
	wantDevRead(t, impl.DevState{Seen: []uint32{math.MaxUint32, 0}}, impl.DevState{Seen: []uint32{0}}, math.MaxUint32, impl.DevDone)
	wantDevRead(t, devOf(0, 9), impl.DevState{}, 0, impl.DevNone)
	wantDevRead(t, devOf(9, 0), impl.DevState{}, 0, impl.DevNone)
	wantDevRead(t, devOf(9, 1), impl.DevState{}, 0, impl.DevNone)
}

func TestDevReadOfEachState(t *testing.T) {
	for _, latch := range devSizes() {
		for _, seen := range devSizes() {
			switch s := devOf(latch, seen); {
			case !devOkByHand(latch, seen):
				wantDevRead(t, s, impl.DevState{}, 0, impl.DevNone)
			case seen == 0:
				wantDevRead(t, s, s, 0, impl.DevEmpty)
			default:
				wantDevRead(t, s, impl.DevState{Latch: numbered(100, latch), Seen: numbered(201, seen-1)}, 200, impl.DevDone)
			}
		}
	}
}

// Both lists full: a word is turned away, an opening moves none, and each read makes room for one at the next opening.
func TestAFullDevice(t *testing.T) {
	s := devOf(8, 8)
	for n := range uint32(8) {
		wantDevInput(t, s, 7, s, false)
		wantDevOpen(t, s, s, false)
		var w uint32
		if s, w, _ = impl.DevRead(s); w != 200+n {
			t.Fatalf("read %d is %d", n, w)
		}
		s, _ = impl.DevOpen(s)
		s, _ = impl.DevInput(s, 300+n)
		if want := (impl.DevState{Latch: append(numbered(101+n, 7-int(n)), numbered(300, int(n)+1)...), Seen: append(numbered(201+n, 7-int(n)), numbered(100, int(n)+1)...)}); !sameDev(s, want) {
			t.Fatalf("behind read %d: %v, not %v", n, s, want)
		}
	}
}

func TestDevPlayByNumbers(t *testing.T) {
	slot, get, none := impl.DevOp{Kind: impl.DevSlot}, impl.DevOp{Kind: impl.DevGet}, impl.DevSaid{Code: impl.DevEmpty}
	wantDevPlay(t, nil, nil)
	wantDevPlay(t, []impl.DevOp{}, nil)
	wantDevPlay(t, []impl.DevOp{coming(5)}, []impl.DevSaid{{Flag: true}})
	wantDevPlay(t, []impl.DevOp{slot}, []impl.DevSaid{{}})
	wantDevPlay(t, []impl.DevOp{get}, []impl.DevSaid{none})
	wantDevPlay(t, []impl.DevOp{coming(5), get, slot, get, get}, []impl.DevSaid{{Flag: true}, none, {Flag: true}, {Word: 5}, none})
	wantDevPlay(t, []impl.DevOp{coming(5), slot, coming(6), get, get, slot, get}, []impl.DevSaid{{Flag: true}, {Flag: true}, {Flag: true}, {Word: 5}, none, {Flag: true}, {Word: 6}})
	wantDevPlay(t, []impl.DevOp{coming(0), slot, get, get}, []impl.DevSaid{{Flag: true}, {Flag: true}, {}, none})
	// The Word of an op that brings none is not looked at.
	wantDevPlay(t, []impl.DevOp{{Kind: impl.DevSlot, Word: 9}, {Kind: impl.DevGet, Word: 9}}, []impl.DevSaid{{}, none})
}

func TestDevPlayFillsBothLists(t *testing.T) {
	ops, want := []impl.DevOp{}, []impl.DevSaid{}
	add := func(op impl.DevOp, said impl.DevSaid) {
		ops, want = append(ops, op), append(want, said)
	}
	for round := range uint32(2) {
		for n := range uint32(8) {
			add(coming(10*round+n), impl.DevSaid{Flag: true})
		}
		add(coming(99), impl.DevSaid{})
		add(impl.DevOp{Kind: impl.DevSlot}, impl.DevSaid{Flag: round == 0})
	}
	for _, w := range []uint32{0, 1, 2} {
		add(impl.DevOp{Kind: impl.DevGet}, impl.DevSaid{Word: w})
	}
	add(impl.DevOp{Kind: impl.DevSlot}, impl.DevSaid{Flag: true})
	add(coming(50), impl.DevSaid{Flag: true})
	for _, w := range []uint32{3, 4, 5, 6, 7, 10, 11, 12} {
		add(impl.DevOp{Kind: impl.DevGet}, impl.DevSaid{Word: w})
	}
	add(impl.DevOp{Kind: impl.DevGet}, impl.DevSaid{Code: impl.DevEmpty})
	add(impl.DevOp{Kind: impl.DevSlot}, impl.DevSaid{Flag: true})
	for _, w := range []uint32{13, 14, 15, 16, 17, 50} {
		add(impl.DevOp{Kind: impl.DevGet}, impl.DevSaid{Word: w})
	}
	add(impl.DevOp{Kind: impl.DevGet}, impl.DevSaid{Code: impl.DevEmpty})
	add(impl.DevOp{Kind: impl.DevSlot}, impl.DevSaid{})
	wantDevPlay(t, ops, want)
}

func TestDevPlayOfTooManyOps(t *testing.T) {
	for _, count := range []int{999, 1000, 1001, 1002, 2000, 70000} {
		for kind, said := range []impl.DevSaid{{}, {}, {Code: impl.DevEmpty}} {
			ops := slices.Repeat([]impl.DevOp{{Kind: kind}}, count)
			want := slices.Repeat([]impl.DevSaid{said}, count)
			if kind == impl.DevIn {
				for at := range 8 {
					want[at].Flag = true
				}
			}
			if count > 1000 {
				want = nil
			}
			wantDevPlay(t, ops, want)
		}
	}
}

func TestDevPlayOfAWrongKind(t *testing.T) {
	for _, kind := range append(oddInts(), -2, -1, 3, 4, 256, 1<<32, 1<<32+1) {
		for at := range 5 {
			ops := []impl.DevOp{coming(1), {Kind: impl.DevSlot}, {Kind: impl.DevGet}, coming(2), {Kind: impl.DevGet}}
			wantDevPlay(t, ops, []impl.DevSaid{{Flag: true}, {Flag: true}, {Word: 1}, {Flag: true}, {Code: impl.DevEmpty}})
			ops[at].Kind = kind
			if kind < 0 || kind > 2 {
				wantDevPlay(t, ops, nil)
				wantDevPlay(t, ops[at:at+1], nil)
			}
		}
	}
}

// drawnDevOps lean towards one kind or another for a while, so that both lists run full and empty.
func drawnDevOps(chance *rand.Rand, count int) []impl.DevOp {
	leans, ops := [][]int{{0, 0, 0, 1, 2}, {0, 1, 2}, {1, 2, 2, 2, 0}, {0, 0, 0, 0, 0, 0, 0, 0, 2, 1}}, []impl.DevOp{}
	for len(ops) < count {
		lean := leans[chance.Intn(len(leans))]
		for range 1 + chance.Intn(30) {
			ops = append(ops, impl.DevOp{Kind: lean[chance.Intn(len(lean))], Word: uint32(len(ops) + 1)})
		}
	}
	return ops[:count]
}

// devPlayByHand keeps every word that ever came, with where it is now: not seen yet (0), seen (1) or read (2).
func devPlayByHand(ops []impl.DevOp) []impl.DevSaid {
	words, places, said := []uint32{}, []int{}, []impl.DevSaid{}
	counted := func(place int) int {
		count := 0
		for _, one := range places {
			if one == place {
				count++
			}
		}
		return count
	}
	for _, op := range ops {
		next := impl.DevSaid{}
		switch op.Kind {
		case 0:
			if next.Flag = counted(0) < 8; next.Flag {
				words, places = append(words, op.Word), append(places, 0)
			}
		case 1:
			for counted(0) > 0 && counted(1) < 8 {
				places[slices.Index(places, 0)], next.Flag = 1, true
			}
		case 2:
			if at := slices.Index(places, 1); at < 0 {
				next.Code = 1
			} else {
				places[at], next.Word = 2, words[at]
			}
		}
		said = append(said, next)
	}
	return said
}

// Promise 12 over longer scripts.
func TestDevPlaysAsByHand(t *testing.T) {
	chance := rand.New(rand.NewSource(21))
	for range 200 {
		ops := drawnDevOps(chance, 1+chance.Intn(1000))
		wantDevPlay(t, ops, devPlayByHand(ops))
	}
}

// Promise 12: what is read are the words that were taken, from the first on, each once, and none ahead of a slot behind its coming.
func TestADeviceShowsEachWordOnceInOrder(t *testing.T) {
	chance := rand.New(rand.NewSource(22))
	turnedAway, stuck, reads := 0, 0, 0
	for range 200 {
		ops := drawnDevOps(chance, 1000)
		said := impl.DevPlay(ops)
		if len(said) != len(ops) {
			t.Fatal(len(said), "answers")
		}
		taken, read, shown := []uint32{}, 0, 0
		for at, op := range ops {
			switch {
			case op.Kind == impl.DevIn && said[at].Flag:
				taken = append(taken, op.Word)
			case op.Kind == impl.DevIn:
				turnedAway++
			case op.Kind == impl.DevSlot:
				if !said[at].Flag && shown < len(taken) {
					stuck++
				}
				shown = min(len(taken), read+8)
			case said[at].Code == impl.DevDone:
				if read >= shown || said[at].Word != taken[read] {
					t.Fatalf("at op %d %d is read, the one of number %d, where %d of %v are shown", at, said[at].Word, read, shown, taken)
				}
				read, reads = read+1, reads+1
			case read < shown:
				t.Fatalf("at op %d nothing is read, where %d of %d words are left", at, shown-read, shown)
			}
		}
	}
	if turnedAway < 1000 || stuck < 1000 || reads < 10000 {
		t.Error("too few ops met a full list or a word:", turnedAway, stuck, reads)
	}
}

// Promise 12: neither time nor other words bring a word ahead, only the start of a slot does.
func TestAWordIsNotReadAheadOfTheSlot(t *testing.T) {
	for between := range 8 {
		ops := []impl.DevOp{coming(40)}
		for n := range between {
			ops = append(ops, coming(uint32(41+n)), impl.DevOp{Kind: impl.DevGet})
		}
		ops = append(ops, impl.DevOp{Kind: impl.DevGet}, impl.DevOp{Kind: impl.DevSlot}, coming(90))
		said := impl.DevPlay(slices.Concat(ops, slices.Repeat([]impl.DevOp{{Kind: impl.DevGet}}, 9)))
		if len(said) != len(ops)+9 {
			t.Fatal(said)
		}
		for at, op := range ops {
			if op.Kind == impl.DevGet && said[at] != (impl.DevSaid{Code: impl.DevEmpty}) {
				t.Errorf("ahead of the slot, at op %d: %v", at, said[at])
			}
		}
		for n, one := range said[len(ops):] {
			want := impl.DevSaid{Code: impl.DevEmpty}
			if n <= between {
				want = impl.DevSaid{Word: uint32(40 + n)}
			}
			if one != want {
				t.Errorf("%d words came: read %d behind the slot said %v, not %v", between+1, n, one, want)
			}
		}
	}
}

// The functions one by one are what a play is made of, and leave a right device right.
func TestADevPlayIsItsParts(t *testing.T) {
	chance := rand.New(rand.NewSource(23))
	for range 20 {
		ops := drawnDevOps(chance, 800)
		s, said := impl.DevState{}, []impl.DevSaid{}
		for _, op := range ops {
			next := impl.DevSaid{}
			switch op.Kind {
			case impl.DevIn:
				s, next.Flag = impl.DevInput(s, op.Word)
			case impl.DevSlot:
				s, next.Flag = impl.DevOpen(s)
			case impl.DevGet:
				s, next.Word, next.Code = impl.DevRead(s)
			}
			if !impl.DevOk(s) {
				t.Fatalf("behind %v the device is %v", op, s)
			}
			said = append(said, next)
		}
		wantDevPlay(t, ops, said)
	}
}

// Promise 26: neither the words of a device nor the room behind them are written into.
func TestDevicesStayAsTheyWere(t *testing.T) {
	for latch := range 12 {
		for seen := range 12 {
			first, wholeLatch := withRoom(numbered(100, latch))
			second, wholeSeen := withRoom(numbered(200, seen))
			s := impl.DevState{Latch: first, Seen: second}
			impl.DevOk(s)
			impl.DevInput(s, 7)
			impl.DevOpen(s)
			impl.DevRead(s)
			if !slices.Equal(wholeLatch, slices.Concat(numbered(100, latch), numbered(7000, 20))) {
				t.Fatalf("%d and %d words: Latch was written into: %v", latch, seen, wholeLatch)
			}
			if !slices.Equal(wholeSeen, slices.Concat(numbered(200, seen), numbered(7000, 20))) {
				t.Fatalf("%d and %d words: Seen was written into: %v", latch, seen, wholeSeen)
			}
		}
	}
}

// Both lists of a device may be one piece of memory when they come; what is answered has two all the same.
func TestDevicesWhoseListsAreOne(t *testing.T) {
	for count := range 9 {
		shared, whole := withRoom(numbered(100, count))
		s := impl.DevState{Latch: shared, Seen: shared}
		words := numbered(100, count)
		room := min(8-count, count)
		wantDevOpen(t, s, impl.DevState{Latch: words[room:], Seen: slices.Concat(words, words[:room])}, room > 0)
		first, _ := impl.DevInput(s, 7)
		second, _ := impl.DevOpen(s)
		third, _, _ := impl.DevRead(s)
		wantAlone(t, "one list", whole, first.Latch, first.Seen, second.Latch, second.Seen, third.Latch, third.Seen)
	}
}

// Promise 26: an answer shares nothing with what was given, with another answer, or within itself.
func TestDevicesAreNewMemory(t *testing.T) {
	for latch := range 9 {
		for seen := range 9 {
			first, wholeLatch := withRoom(numbered(100, latch))
			second, wholeSeen := withRoom(numbered(200, seen))
			s := impl.DevState{Latch: first, Seen: second}
			in, _ := impl.DevInput(s, 7)
			inAgain, _ := impl.DevInput(in, 8)
			opened, _ := impl.DevOpen(s)
			openedAgain, _ := impl.DevOpen(opened)
			read, _, _ := impl.DevRead(s)
			readAgain, _, _ := impl.DevRead(read)
			wantAlone(t, "a device", wholeLatch, wholeSeen, in.Latch, in.Seen, inAgain.Latch, inAgain.Seen, opened.Latch, opened.Seen, openedAgain.Latch, openedAgain.Seen, read.Latch, read.Seen, readAgain.Latch, readAgain.Seen)
		}
	}
}

func TestPlayedDevOpsStayAsTheyWere(t *testing.T) {
	chance := rand.New(rand.NewSource(24))
	for round := range 40 {
		whole := drawnDevOps(chance, 60)
		if round%2 == 1 {
			whole[chance.Intn(40)].Kind = 3
		}
		before := slices.Clone(whole)
		first, second := impl.DevPlay(whole[:40]), impl.DevPlay(whole[:40])
		kept := slices.Clone(second)
		first = first[:cap(first)]
		for at := range first {
			first[at] = impl.DevSaid{Flag: true, Word: 99, Code: 99}
		}
		if !slices.Equal(whole, before) || !slices.Equal(second, kept) {
			t.Error("the ops were written into, or two answers share memory")
		}
	}
}
