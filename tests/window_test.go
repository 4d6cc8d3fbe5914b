package tests

import (
	"math"
	"math/rand"
	"slices"
	"testing"

	"loop.example/g00076/impl"
)

func win(base int, size int, perm int) impl.Window {
	return impl.Window{Base: base, Size: size, Perm: perm}
}

// oddInts are the ends of int, and those that a narrowing or a wrap would make right.
func oddInts() []int {
	return []int{math.MinInt, math.MinInt + 1, math.MinInt + 4, -1 << 32, 1 << 8, 1<<8 + 4, 1<<16 + 4, 1 << 31, 1 << 32, 1<<32 + 1, 1<<32 + 4, 1<<32 + 8, 1 << 62, math.MaxInt - 3, math.MaxInt - 7, math.MaxInt}
}

func isWordCount(n int, least int, most int) bool {
	for words := least; words <= most; words++ {
		if n == words*4 {
			return true
		}
	}
	return false
}

// windowOkByHand counts in words, so that no sum of it can wrap.
func windowOkByHand(w impl.Window) bool {
	if !isWordCount(w.Base, 0, 511) || !isWordCount(w.Size, 1, 512) {
		return false
	}
	return w.Base/4+w.Size/4 <= 512 && slices.Contains([]int{1, 2, 3, 4, 5, 6, 7}, w.Perm)
}

// ownersByHand tells for each address of memory the place of its window, or -1.
func ownersByHand(list []impl.Window) []int {
	owners := slices.Repeat([]int{-1}, 2048)
	for at, w := range list {
		for addr := w.Base; addr < w.Base+w.Size; addr++ {
			owners[addr] = at
		}
	}
	return owners
}

// drawnWindows are right; some touch, some lie at an end of memory, and their places are in no order.
func drawnWindows(chance *rand.Rand, many int) []impl.Window {
	cuts := chance.Perm(513)[:2*many]
	slices.Sort(cuts)
	if chance.Intn(3) == 0 && many > 0 {
		cuts[0], cuts[2*many-1] = 0, 512
	}
	list := []impl.Window{}
	for i := range many {
		start, end := cuts[2*i], cuts[2*i+1]
		if i > 0 && chance.Intn(2) == 0 {
			start = cuts[2*i-1]
		}
		if chance.Intn(3) == 0 {
			end = start + 1
			cuts[2*i+1] = end
		}
		list = append(list, win(start*4, (end-start)*4, 1+chance.Intn(7)))
	}
	chance.Shuffle(many, func(i int, j int) { list[i], list[j] = list[j], list[i] })
	return list
}

// someWindowLists are right.
func someWindowLists() [][]impl.Window {
	lists := [][]impl.Window{
		nil,
		{},
		{win(0, 4, 1)},
		{win(2044, 4, 7)},
		{win(0, 2048, 2)},
		{win(0, 8, 5), win(8, 8, 3)},
		{win(8, 8, 3), win(0, 8, 5)},
		{win(100, 4, 1), win(96, 4, 2), win(104, 4, 4)},
		{win(0, 4, 1), win(4, 4, 2), win(8, 4, 4), win(12, 2036, 7)},
		{win(2044, 4, 6), win(512, 512, 3), win(0, 4, 4), win(1024, 512, 3)},
		{win(0, 512, 7), win(512, 512, 7), win(1024, 512, 7), win(1536, 512, 7)},
	}
	chance := rand.New(rand.NewSource(7))
	for many := range 5 {
		for range 12 {
			lists = append(lists, drawnWindows(chance, many))
		}
	}
	return lists
}

// wrongWindows have one thing wrong each, told by its name; each of their other numbers is right.
func wrongWindows() map[string]impl.Window {
	return map[string]impl.Window{
		"the zero value":                {},
		"base -4":                       win(-4, 8, 1),
		"base -4 and its end at 0":      win(-4, 4, 1),
		"base 1":                        win(1, 4, 1),
		"base 2":                        win(2, 4, 1),
		"base 3":                        win(3, 4, 1),
		"base at the end of memory":     win(2048, 4, 1),
		"size -4":                       win(8, -4, 1),
		"size 0":                        win(8, 0, 1),
		"size 0 at the end of memory":   win(2048, 0, 1),
		"size -4 behind the end":        win(2052, -4, 1),
		"size 1":                        win(8, 1, 1),
		"size 2":                        win(8, 2, 1),
		"size 3":                        win(8, 3, 1),
		"size 5":                        win(8, 5, 1),
		"size 4 beyond memory":          win(0, 2052, 1),
		"an end 4 beyond memory":        win(2044, 8, 1),
		"all of memory, but from 4 on":  win(4, 2048, 1),
		"perm -1":                       win(0, 4, -1),
		"perm 0":                        win(0, 4, 0),
		"perm 8":                        win(0, 4, 8),
		"perm 9":                        win(0, 4, 9),
		"an end beyond int, by base":    win(math.MaxInt-3, 4, 1),
		"an end beyond int, by size":    win(4, math.MaxInt-3, 1),
		"an end beyond int, by both":    win(math.MaxInt-3, math.MaxInt-3, 1),
		"a sum that wraps to 8":         win(math.MinInt, math.MinInt+8, 1),
		"a base that narrows to 0":      win(1<<32, 4, 1),
		"a size that narrows to 4":      win(0, 1<<32+4, 1),
		"a perm that narrows to 1":      win(0, 4, 1<<32+1),
		"the least base":                win(math.MinInt, 4, 1),
		"the least size":                win(0, math.MinInt, 1),
		"the least perm":                win(0, 4, math.MinInt),
		"the greatest perm":             win(0, 4, math.MaxInt),
		"base -2044 and its end right":  win(-2044, 2048, 1),
		"base 2046 and its end right":   win(2046, 4, 1),
		"size 2046 and its end right":   win(0, 2046, 1),
		"base and size that sum to 4 n": win(2, 6, 1),
	}
}

// wrongWindowLists have one thing wrong each, told by its name.
func wrongWindowLists() map[string][]impl.Window {
	lists := map[string][]impl.Window{
		"five that are apart":      {win(0, 4, 1), win(4, 4, 1), win(8, 4, 1), win(12, 4, 1), win(16, 4, 1)},
		"six that are apart":       {win(0, 4, 1), win(4, 4, 1), win(8, 4, 1), win(12, 4, 1), win(16, 4, 1), win(20, 4, 1)},
		"the same twice":           {win(8, 8, 3), win(8, 8, 3)},
		"the same memory twice":    {win(8, 8, 3), win(8, 8, 4)},
		"one word in common":       {win(0, 8, 3), win(4, 8, 3)},
		"one word in common, back": {win(4, 8, 3), win(0, 8, 3)},
		"one within the other":     {win(0, 16, 3), win(4, 4, 3)},
		"the other within the one": {win(4, 4, 3), win(0, 16, 3)},
		"one that is not right":    {win(0, 6, 3)},
		"all of memory and a word": {win(0, 2048, 3), win(2044, 4, 3)},
	}
	right := []impl.Window{win(0, 8, 3), win(8, 8, 5), win(24, 8, 6), win(2040, 8, 1)}
	for name, w := range wrongWindows() {
		for at := range right {
			list := slices.Clone(right)
			list[at] = w
			lists[name+" at place "+impl.DecText(at)] = list
		}
		lists[name+" alone"] = []impl.Window{w}
	}
	for at := range right {
		for other := range right {
			if at != other {
				list := slices.Clone(right)
				list[at] = win(right[other].Base+4, 4, 7)
				lists["the word behind "+impl.DecText(other)+" at place "+impl.DecText(at)] = list
			}
		}
	}
	return lists
}

func TestWindowConstants(t *testing.T) {
	limits := []int{impl.MaxMem, impl.MaxWindows, impl.KindRead, impl.KindWrite, impl.KindRun}
	if !slices.Equal(limits, []int{2048, 4, 1, 2, 4}) {
		t.Errorf("limits and kinds %v", limits)
	}
	faults := []int{impl.FaultNone, impl.FaultAlign, impl.FaultWindow, impl.FaultPerm, impl.FaultOp, impl.FaultDivide, impl.FaultTrap, impl.FaultCsr, impl.FaultIret, impl.FaultState}
	for want, got := range faults {
		if got != want {
			t.Errorf("fault %d is %d", want, got)
		}
	}
}

func TestWindowsThatAreRight(t *testing.T) {
	for _, w := range []impl.Window{win(0, 4, 1), win(4, 4, 1), win(0, 2048, 7), win(2044, 4, 7), win(4, 2044, 4), win(2040, 8, 2), win(1024, 1024, 6)} {
		if !impl.WindowOk(w) {
			t.Errorf("%v is not WindowOk", w)
		}
	}
	for perm := -9; perm <= 17; perm++ {
		if impl.WindowOk(win(0, 4, perm)) != (perm >= 1 && perm <= 7) {
			t.Errorf("WindowOk at perm %d", perm)
		}
	}
	for name, w := range wrongWindows() {
		if impl.WindowOk(w) {
			t.Errorf("%s: WindowOk of %v", name, w)
		}
	}
}

func TestWindowOkAsByHand(t *testing.T) {
	bases := append(oddInts(), -2048, -8, -4, -3, -2, -1, 0, 1, 2, 3, 4, 5, 8, 1024, 2036, 2040, 2043, 2044, 2045, 2046, 2047, 2048, 2049, 2052)
	sizes := append(oddInts(), -2048, -8, -4, -1, 0, 1, 2, 3, 4, 5, 6, 7, 8, 12, 1024, 2040, 2044, 2046, 2047, 2048, 2049, 2052)
	perms := append(oddInts(), -8, -7, -2, -1, 0, 1, 2, 3, 4, 5, 6, 7, 8, 9, 15, 16)
	for _, base := range bases {
		for _, size := range sizes {
			for _, perm := range perms {
				w := win(base, size, perm)
				if got := impl.WindowOk(w); got != windowOkByHand(w) {
					t.Errorf("WindowOk(%v) = %v", w, got)
				}
			}
		}
	}
}

// The end of a window meets MaxMem exactly at the last base of its size.
func TestEndsOfWindows(t *testing.T) {
	for size := 4; size <= 2048; size += 4 {
		for base := -8; base <= 2056; base++ {
			want := base >= 0 && base%4 == 0 && base+size <= 2048
			if impl.WindowOk(win(base, size, 3)) != want {
				t.Errorf("WindowOk of base %d and size %d is not %v", base, size, want)
			}
		}
	}
}

func wantApart(t *testing.T, a impl.Window, b impl.Window, want bool) {
	t.Helper()
	if impl.Apart(a, b) != want || impl.Apart(b, a) != want {
		t.Errorf("Apart of %v and %v is not %v, both ways", a, b, want)
	}
}

func TestWindowsApart(t *testing.T) {
	wantApart(t, win(0, 8, 1), win(8, 8, 1), true)
	wantApart(t, win(0, 8, 1), win(12, 8, 1), true)
	wantApart(t, win(0, 8, 1), win(4, 8, 1), false)
	wantApart(t, win(0, 12, 1), win(8, 8, 1), false)
	wantApart(t, win(0, 16, 1), win(4, 4, 1), false)
	wantApart(t, win(0, 16, 1), win(0, 4, 1), false)
	wantApart(t, win(0, 16, 1), win(12, 4, 1), false)
	wantApart(t, win(0, 16, 1), win(16, 4, 1), true)
	wantApart(t, win(8, 8, 3), win(8, 8, 3), false)
	wantApart(t, win(8, 8, 1), win(8, 8, 6), false)
	wantApart(t, win(0, 4, 1), win(2044, 4, 1), true)
	wantApart(t, win(0, 2044, 1), win(2044, 4, 1), true)
	wantApart(t, win(0, 2048, 1), win(2044, 4, 1), false)
	wantApart(t, win(0, 2048, 7), win(0, 2048, 7), false)
	for _, right := range []impl.Window{win(0, 4, 1), win(1024, 8, 7), win(2044, 4, 2)} {
		for name, wrong := range wrongWindows() {
			t.Log(name)
			wantApart(t, right, wrong, false)
			wantApart(t, wrong, wrong, false)
		}
	}
}

// Two right windows are apart just when no address is in both.
func TestApartAsAddressesTell(t *testing.T) {
	near := []impl.Window{}
	for base := 0; base <= 24; base += 4 {
		for size := 4; size <= 28; size += 4 {
			near = append(near, win(base, size, 1+(base+size)/4%7), win(2048-base-size, size, 5))
		}
	}
	for _, a := range near {
		owners := ownersByHand([]impl.Window{a})
		for _, b := range near {
			common := slices.Contains(owners[b.Base:b.Base+b.Size], 0)
			wantApart(t, a, b, !common)
		}
	}
}

func TestListsOfWindowsThatAreRight(t *testing.T) {
	for _, list := range someWindowLists() {
		if !impl.WindowsOk(list) {
			t.Errorf("%v is not WindowsOk", list)
		}
	}
	for many := range 8 {
		list := []impl.Window{}
		for at := range many {
			list = append(list, win(at*4, 4, 1))
		}
		if impl.WindowsOk(list) != (many <= 4) {
			t.Errorf("WindowsOk of %d windows", many)
		}
	}
	if impl.WindowsOk(make([]impl.Window, 1<<16)) {
		t.Error("WindowsOk of many windows")
	}
}

// What every function of the chapter answers at a list that is not WindowsOk.
func TestListsOfWindowsThatAreWrong(t *testing.T) {
	for name, list := range wrongWindowLists() {
		if impl.WindowsOk(list) {
			t.Errorf("%s: WindowsOk of %v", name, list)
		}
		if sum := impl.Reach(list); sum != 0 {
			t.Errorf("%s: Reach %d", name, sum)
		}
		for kind := -1; kind <= 8; kind++ {
			if kept := impl.Kept(list, kind); len(kept) != 0 {
				t.Errorf("%s: Kept %v", name, kept)
			}
		}
		for addr := -4; addr <= 2052; addr++ {
			if at := impl.WindowAt(list, addr); at != -1 {
				t.Fatalf("%s: WindowAt %d = %d", name, addr, at)
			}
		}
		for _, addr := range []uint32{0, 1, 2, 4, 8, 11, 24, 2044, 2048, math.MaxUint32} {
			for kind := -1; kind <= 8; kind++ {
				for _, size := range []int{0, 1, 4} {
					wantFault(t, list, addr, size, kind, 9)
				}
			}
		}
	}
}

// Lists of three windows from few places, so that many have two that are not apart.
func TestListsOfWindowsAsAddressesTell(t *testing.T) {
	few := []impl.Window{win(0, 4, 1), win(0, 8, 2), win(4, 4, 3), win(4, 8, 4), win(8, 4, 5), win(8, 8, 6), win(12, 4, 7)}
	for _, a := range few {
		for _, b := range few {
			for _, c := range few {
				list := []impl.Window{a, b, c}
				had := 0
				for _, owner := range ownersByHand(list) {
					if owner >= 0 {
						had++
					}
				}
				if impl.WindowsOk(list) != (had == a.Size+b.Size+c.Size) {
					t.Errorf("WindowsOk(%v) is %v", list, impl.WindowsOk(list))
				}
			}
		}
	}
}

func wantAt(t *testing.T, list []impl.Window, addr int, want int) {
	t.Helper()
	if got := impl.WindowAt(list, addr); got != want {
		t.Errorf("WindowAt(%v, %d) = %d, not %d", list, addr, got, want)
	}
}

func TestWindowAtItsEnds(t *testing.T) {
	list := []impl.Window{win(16, 8, 1), win(8, 8, 2), win(2044, 4, 4), win(0, 4, 7)}
	for addr, want := range map[int]int{-1: -1, 0: 3, 3: 3, 4: -1, 7: -1, 8: 1, 9: 1, 15: 1, 16: 0, 23: 0, 24: -1, 2043: -1, 2044: 2, 2047: 2, 2048: -1} {
		wantAt(t, list, addr, want)
	}
	wantAt(t, nil, 0, -1)
	wantAt(t, []impl.Window{win(0, 2048, 1)}, -1, -1)
	wantAt(t, []impl.Window{win(0, 2048, 1)}, 0, 0)
	wantAt(t, []impl.Window{win(0, 2048, 1)}, 2047, 0)
	wantAt(t, []impl.Window{win(0, 2048, 1)}, 2048, -1)
}

func TestWindowAtEveryAddress(t *testing.T) {
	for _, list := range someWindowLists() {
		for addr, want := range ownersByHand(list) {
			wantAt(t, list, addr, want)
		}
		for _, w := range list {
			wantAt(t, list, w.Base+1<<32, -1)
		}
		for _, none := range append(oddInts(), -2048, -4, -3, -2, -1, 2048, 2049, 2052, 4096, 65535, 65536) {
			if none < 0 || none >= 2048 {
				wantAt(t, list, none, -1)
			}
		}
	}
}

func wantFault(t *testing.T, list []impl.Window, addr uint32, size int, kind int, want int) {
	t.Helper()
	if got := impl.FaultAt(list, addr, size, kind); got != want {
		t.Errorf("FaultAt(%v, %d, %d, %d) = %d, not %d", list, addr, size, kind, got, want)
	}
}

func TestFaultsAtTheEndsOfWindows(t *testing.T) {
	list := []impl.Window{win(8, 8, 1), win(16, 4, 6), win(2044, 4, 3)}
	for _, c := range []struct {
		addr uint32
		size int
		kind int
		want int
	}{
		{8, 4, impl.KindRead, impl.FaultNone},
		{12, 4, impl.KindRead, impl.FaultNone},
		{15, 1, impl.KindRead, impl.FaultNone},
		{16, 1, impl.KindRead, impl.FaultPerm},
		{16, 4, impl.KindRead, impl.FaultPerm},
		{16, 4, impl.KindWrite, impl.FaultNone},
		{19, 1, impl.KindRun, impl.FaultNone},
		{20, 1, impl.KindRun, impl.FaultWindow},
		{20, 4, impl.KindRun, impl.FaultWindow},
		{4, 4, impl.KindRead, impl.FaultWindow},
		{7, 1, impl.KindRead, impl.FaultWindow},
		{7, 4, impl.KindRead, impl.FaultAlign},
		{9, 4, impl.KindRead, impl.FaultAlign},
		{10, 4, impl.KindRead, impl.FaultAlign},
		{11, 4, impl.KindRead, impl.FaultAlign},
		{9, 1, impl.KindRead, impl.FaultNone},
		{2044, 4, impl.KindWrite, impl.FaultNone},
		{2047, 1, impl.KindWrite, impl.FaultNone},
		{2047, 1, impl.KindRun, impl.FaultPerm},
		{2048, 1, impl.KindWrite, impl.FaultWindow},
		{2048, 4, impl.KindWrite, impl.FaultWindow},
		{0, 4, impl.KindRead, impl.FaultWindow},
		{math.MaxUint32 - 3, 4, impl.KindRead, impl.FaultWindow},
		{math.MaxUint32, 1, impl.KindRead, impl.FaultWindow},
		{math.MaxUint32, 4, impl.KindRead, impl.FaultAlign},
	} {
		wantFault(t, list, c.addr, c.size, c.kind, c.want)
	}
}

// Where more than one thing stands against an access, the one that the document names first is told.
func TestWhichFaultIsTold(t *testing.T) {
	list := []impl.Window{win(8, 8, 1)}
	wrong := []impl.Window{win(8, 8, 1), win(12, 8, 1)}
	wantFault(t, wrong, 8, 4, impl.KindRead, impl.FaultState)
	wantFault(t, wrong, 9, 4, impl.KindRead, impl.FaultState)
	wantFault(t, wrong, 100, 1, impl.KindRead, impl.FaultState)
	wantFault(t, wrong, 8, 4, impl.KindRun, impl.FaultState)
	wantFault(t, list, 9, 2, impl.KindRead, impl.FaultState)
	wantFault(t, list, 9, 8, impl.KindRead, impl.FaultState)
	wantFault(t, list, 101, 4, 3, impl.FaultState)
	wantFault(t, list, 101, 4, 0, impl.FaultState)
	// No multiple, in no window, without the kind.
	wantFault(t, list, 101, 4, impl.KindRun, impl.FaultAlign)
	wantFault(t, list, 17, 4, impl.KindRead, impl.FaultAlign)
	wantFault(t, list, 9, 4, impl.KindRun, impl.FaultAlign)
	wantFault(t, nil, 1, 4, impl.KindRead, impl.FaultAlign)
	wantFault(t, list, 100, 4, impl.KindRun, impl.FaultWindow)
	wantFault(t, nil, 0, 1, impl.KindRead, impl.FaultWindow)
	wantFault(t, list, 8, 4, impl.KindRun, impl.FaultPerm)
}

func TestSizesAndKindsThatAreNone(t *testing.T) {
	addrs := []uint32{0, 1, 2, 3, 4, 8, 2044, 2048, 1 << 31, math.MaxUint32}
	for _, list := range [][]impl.Window{nil, {win(0, 2048, 7)}, {win(0, 8, 5), win(8, 8, 3)}} {
		for _, addr := range addrs {
			for _, size := range append(oddInts(), -4, -1, 0, 2, 3, 5, 6, 7, 8, 12, 16) {
				for kind := -1; kind <= 8; kind++ {
					wantFault(t, list, addr, size, kind, impl.FaultState)
				}
			}
			for _, kind := range append(oddInts(), -4, -2, -1, 0, 3, 5, 6, 7, 8, 9, 16) {
				for _, size := range []int{1, 4} {
					wantFault(t, list, addr, size, kind, impl.FaultState)
				}
			}
		}
	}
}

// faultByHand goes down the document's list of reasons, asking each byte for its window.
func faultByHand(list []impl.Window, owners []int, addr uint32, size int, kind int) int {
	if size == 4 && addr&3 != 0 {
		return 1
	}
	if addr >= 2048 || owners[addr] < 0 {
		return 2
	}
	kinds := map[int][]int{1: {1, 3, 5, 7}, 2: {2, 3, 6, 7}, 4: {4, 5, 6, 7}}
	if !slices.Contains(kinds[kind], list[owners[addr]].Perm) {
		return 3
	}
	return 0
}

func TestFaultsAsByHand(t *testing.T) {
	far := []uint32{2048, 2049, 2050, 2051, 2052, 4095, 4096, 65536, 1 << 31, 1<<31 + 4, math.MaxUint32 - 4, math.MaxUint32 - 3, math.MaxUint32 - 1, math.MaxUint32}
	for _, list := range someWindowLists() {
		owners := ownersByHand(list)
		addrs := far
		for addr := range uint32(2048) {
			addrs = append(addrs, addr)
		}
		for _, addr := range addrs {
			for _, size := range []int{1, 4} {
				for _, kind := range []int{1, 2, 4} {
					wantFault(t, list, addr, size, kind, faultByHand(list, owners, addr, size, kind))
				}
			}
		}
	}
}

// oneHasAll tells whether some window has every byte of the access, and its kind.
func oneHasAll(list []impl.Window, addr uint32, size int, kind int) bool {
	return slices.ContainsFunc(list, func(w impl.Window) bool {
		for n := range size {
			if at := int(addr) + n; at < w.Base || at >= w.Base+w.Size {
				return false
			}
		}
		return w.Perm/kind%2 == 1
	})
}

// Promise 7: over the accesses that are at a multiple of their size; the others have a fault of their own.
func TestNothingStandsJustWhereOneWindowHasAll(t *testing.T) {
	chance := rand.New(rand.NewSource(77))
	for round := range 200 {
		list := drawnWindows(chance, round%5)
		for range 400 {
			addr := uint32(chance.Intn(2064))
			if len(list) > 0 && chance.Intn(2) == 0 {
				w := list[chance.Intn(len(list))]
				addr = uint32(max(0, w.Base+chance.Intn(2)*w.Size+chance.Intn(9)-4))
			}
			for _, size := range []int{1, 4} {
				for _, kind := range []int{1, 2, 4} {
					want := addr%uint32(size) == 0 && oneHasAll(list, addr, size, kind)
					if got := impl.FaultAt(list, addr, size, kind); (got == impl.FaultNone) != want {
						t.Fatalf("FaultAt(%v, %d, %d, %d) = %d", list, addr, size, kind, got)
					}
				}
			}
		}
	}
}

// Two windows that touch have no access in common, even where both have the kind.
func TestNoAccessCrossesFromWindowToWindow(t *testing.T) {
	list := []impl.Window{win(0, 8, 7), win(8, 8, 7)}
	for addr := range uint32(16) {
		for _, kind := range []int{1, 2, 4} {
			want := impl.FaultNone
			if addr%4 != 0 {
				want = impl.FaultAlign
			}
			wantFault(t, list, addr, 4, kind, want)
			wantFault(t, list, addr, 1, kind, impl.FaultNone)
		}
	}
}

func TestReachCountsAddresses(t *testing.T) {
	if impl.Reach(nil) != 0 || impl.Reach([]impl.Window{win(0, 2048, 1)}) != 2048 || impl.Reach([]impl.Window{win(2040, 8, 1), win(4, 4, 2)}) != 12 {
		t.Error("Reach of none, of all memory, of two")
	}
	for _, list := range someWindowLists() {
		many := 0
		for addr := -4; addr < 2052; addr++ {
			if impl.WindowAt(list, addr) >= 0 {
				many++
			}
		}
		byHand := 2048
		for _, owner := range ownersByHand(list) {
			if owner < 0 {
				byHand--
			}
		}
		if got := impl.Reach(list); got != many || got != byHand {
			t.Errorf("Reach(%v) = %d, not %d, not %d", list, got, many, byHand)
		}
	}
}

func wantKept(t *testing.T, list []impl.Window, kind int, want []impl.Window) {
	t.Helper()
	if got := impl.Kept(list, kind); !slices.Equal(got, want) {
		t.Errorf("Kept(%v, %d) = %v, not %v", list, kind, got, want)
	}
}

// keptByHand asks for the three kinds one by one.
func keptByHand(list []impl.Window, kind int) []impl.Window {
	kept := []impl.Window{}
	if kind < 1 || kind > 7 {
		return kept
	}
	for _, w := range list {
		all := true
		for _, one := range []int{1, 2, 4} {
			all = all && (kind/one%2 == 0 || w.Perm/one%2 == 1)
		}
		if all {
			kept = append(kept, w)
		}
	}
	return kept
}

func TestKeptWindowsInOrder(t *testing.T) {
	list := []impl.Window{win(40, 4, 7), win(8, 8, 3), win(0, 4, 1), win(100, 8, 6)}
	a, b, c, d := list[0], list[1], list[2], list[3]
	wants := [][]impl.Window{nil, {a, b, c}, {a, b, d}, {a, b}, {a, d}, {a}, {a, d}, {a}, nil}
	for kind, want := range wants {
		wantKept(t, list, kind, want)
	}
	wantKept(t, list, -1, nil)
	wantKept(t, nil, 1, nil)
	for _, list := range someWindowLists() {
		for kind := -1; kind <= 8; kind++ {
			wantKept(t, list, kind, keptByHand(list, kind))
		}
		for _, kind := range append(oddInts(), -8, -7, -4, -2, 9, 15, 16) {
			wantKept(t, list, kind, nil)
		}
	}
}

// roomyWindows has the list in a longer one, all of which is answered beside it.
func roomyWindows(list []impl.Window) ([]impl.Window, []impl.Window) {
	whole := make([]impl.Window, len(list)+8)
	for i := range whole {
		whole[i] = win(700+i, 800+i, 900+i)
	}
	copy(whole, list)
	return whole[:len(list)], whole
}

// Promise 26: neither a list of windows nor the room behind it is written into.
func TestWindowsStayAsTheyWere(t *testing.T) {
	lists := someWindowLists()
	for _, list := range wrongWindowLists() {
		lists = append(lists, list)
	}
	for _, list := range lists {
		given, whole := roomyWindows(list)
		before := slices.Clone(whole)
		impl.WindowsOk(given)
		impl.Reach(given)
		for kind := -1; kind <= 8; kind++ {
			impl.Kept(given, kind)
			for addr := -4; addr < 64; addr++ {
				impl.WindowAt(given, addr)
				impl.FaultAt(given, uint32(addr), 1, kind)
				impl.FaultAt(given, uint32(addr), 4, kind)
			}
		}
		if !slices.Equal(whole, before) {
			t.Errorf("%v became %v", before, whole)
		}
	}
}

// scribbleWindows writes over all that a list has, its spare room too.
func scribbleWindows(list []impl.Window) {
	list = list[:cap(list)]
	for i := range list {
		list[i] = win(-7, -7, -7)
	}
}

func TestKeptWindowsAreNewMemory(t *testing.T) {
	for _, list := range someWindowLists() {
		for kind := -1; kind <= 8; kind++ {
			given, whole := roomyWindows(list)
			before := slices.Clone(whole)
			want := keptByHand(list, kind)
			first, second := impl.Kept(given, kind), impl.Kept(given, kind)
			third := impl.Kept(first, kind)
			scribbleWindows(first)
			if !slices.Equal(whole, before) || !slices.Equal(second, want) || !slices.Equal(third, want) {
				t.Fatalf("Kept(%v, %d) shares memory", list, kind)
			}
			scribbleWindows(whole)
			if !slices.Equal(second, want) || !slices.Equal(third, want) {
				t.Fatalf("Kept(%v, %d) shares memory with what is handed in", list, kind)
			}
		}
	}
}
