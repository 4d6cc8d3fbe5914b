package tests

import (
	"math"
	"math/rand"
	"slices"
	"testing"

	"loop.example/g00076/impl"
)

func sameTlb(a impl.Tlb, b impl.Tlb) bool {
	return a.Size == b.Size && slices.Equal(a.Pages, b.Pages)
}

func isNoTlb(x impl.Tlb) bool {
	return sameTlb(x, impl.Tlb{})
}

func tlbWith(size int, pages ...int) impl.Tlb {
	return impl.Tlb{Size: size, Pages: pages}
}

// wrongSizes are those beside the limits, and those that a narrowing would make right.
func wrongSizes() []int {
	return []int{0, -1, -2, -8, 9, 10, 16, 64, 256 + 1, 1<<16 + 2, 1<<32 + 1, 1<<32 + 8, math.MaxInt, math.MinInt, math.MinInt + 1}
}

// fullTlb has Size pages in no order of their numbers.
func fullTlb(size int) impl.Tlb {
	return tlbWith(size, []int{500, 3, 1023, 0, 77, 4, 1000, 1}[:size]...)
}

func drawnTlb(chance *rand.Rand, size int) impl.Tlb {
	return tlbWith(size, chance.Perm(12)[:chance.Intn(size+1)]...)
}

// someTlbs are right: empty, part-filled, full, and with the pages at both ends of memory.
func someTlbs() []impl.Tlb {
	list := []impl.Tlb{}
	chance := rand.New(rand.NewSource(6))
	for size := 1; size <= 8; size++ {
		list = append(list, impl.Tlb{Size: size}, tlbWith(size, 0), tlbWith(size, 1023))
		for many := 1; many <= size; many++ {
			list = append(list, impl.Tlb{Size: size, Pages: fullTlb(8).Pages[:many]})
		}
		for range 8 {
			list = append(list, drawnTlb(chance, size))
		}
	}
	return list
}

// wrongTlbs have one thing wrong each, told by its name.
func wrongTlbs() map[string]impl.Tlb {
	list := map[string]impl.Tlb{
		"the zero value":               {},
		"pages without a size":         tlbWith(0, 3),
		"two pages at size 1":          tlbWith(1, 3, 4),
		"a page more than size 2":      tlbWith(2, 3, 4, 5),
		"a page more than size 3":      tlbWith(3, 0, 1, 2, 3),
		"a page more than size 8":      tlbWith(8, 0, 1, 2, 3, 4, 5, 6, 7, 8),
		"nine pages, one twice":        tlbWith(8, 0, 1, 2, 3, 4, 5, 6, 7, 0),
		"a page twice, alone":          tlbWith(2, 3, 3),
		"a page twice, side by side":   tlbWith(4, 1, 3, 3, 4),
		"a page twice, at both ends":   tlbWith(4, 3, 1, 4, 3),
		"a page twice, at the end":     tlbWith(8, 9, 1, 4, 0, 0),
		"a page twice, of eight":       tlbWith(8, 0, 1, 2, 3, 4, 5, 6, 0),
		"page 0 twice":                 tlbWith(3, 0, 0),
		"page 1023 twice":              tlbWith(3, 1023, 1023),
		"page -1":                      tlbWith(1, -1),
		"page -1 behind others":        tlbWith(8, 0, 1, 2, -1),
		"page -1 ahead of others":      tlbWith(8, -1, 0, 1, 2),
		"page 1024":                    tlbWith(1, 1024),
		"page 1024 behind others":      tlbWith(8, 0, 1, 2, 1024),
		"page 1024 ahead of others":    tlbWith(8, 1024, 0, 1),
		"the least page":               tlbWith(2, math.MinInt),
		"the greatest page":            tlbWith(2, math.MaxInt),
		"a page that narrows to right": tlbWith(2, 1<<32+1),
		"a page that wraps to right":   tlbWith(2, 1024+3),
	}
	for _, size := range wrongSizes() {
		list["size "+impl.DecText(size)] = impl.Tlb{Size: size}
		list["size "+impl.DecText(size)+" with pages"] = tlbWith(size, 0, 1, 3)
	}
	return list
}

// someAddrs are the ends of memory, and the first and last bytes of pages.
func someAddrs() []int {
	list := []int{}
	for _, page := range []int{0, 1, 2, 3, 4, 5, 77, 500, 511, 512, 1000, 1022, 1023} {
		list = append(list, page*64, page*64+1, page*64+32, page*64+62, page*64+63)
	}
	return list
}

// tlbUseByHand tells the document's sentence over plain lists: in at the end first, out at the start then.
func tlbUseByHand(x impl.Tlb, addr int) (impl.Tlb, bool) {
	page := int(math.Floor(float64(addr) / 64))
	for _, known := range x.Pages {
		if known == page {
			return tlbWith(x.Size, slices.Clone(x.Pages)...), true
		}
	}
	pages := slices.Concat(x.Pages, []int{page})
	if len(pages) > x.Size {
		pages = pages[1:]
	}
	return tlbWith(x.Size, pages...), false
}

func wantTlbUse(t *testing.T, x impl.Tlb, addr int, want impl.Tlb, known bool) {
	t.Helper()
	if got, was := impl.TlbUse(x, addr); !sameTlb(got, want) || was != known {
		t.Errorf("TlbUse(%v, %d) = %v, %v, not %v, %v", x, addr, got, was, want, known)
	}
}

func wantTlbRun(t *testing.T, size int, addrs []int, want []bool) {
	t.Helper()
	if got := impl.TlbRun(size, addrs); !slices.Equal(got, want) {
		t.Errorf("TlbRun(%d, %v) = %v, not %v", size, addrs, got, want)
	}
}

// The limits are told as numbers here, so that a wrong constant cannot vouch for itself.
func TestTlbLimits(t *testing.T) {
	if impl.PageSize != 64 || impl.MaxTlb != 8 {
		t.Errorf("PageSize %d, MaxTlb %d", impl.PageSize, impl.MaxTlb)
	}
	for size, want := range map[int]bool{-1: false, 0: false, 1: true, 8: true, 9: false} {
		if impl.TlbOk(impl.Tlb{Size: size}) != want {
			t.Errorf("TlbOk of size %d is not %v", size, want)
		}
	}
	for page, want := range map[int]bool{-1: false, 0: true, 1023: true, 1024: false} {
		for size := 1; size <= 8; size++ {
			if impl.TlbOk(tlbWith(size, page)) != want {
				t.Errorf("TlbOk of size %d with page %d is not %v", size, page, want)
			}
		}
	}
	for many, want := range map[int]int{0: 0, 1: 1, 1999: 1999, 2000: 2000, 2001: 0} {
		if list := impl.TlbRun(1, make([]int, many)); len(list) != want {
			t.Errorf("TlbRun of %d addresses has %d answers", many, len(list))
		}
	}
}

func TestEmptyTlbs(t *testing.T) {
	for size := 1; size <= 8; size++ {
		x := impl.TlbEmpty(size)
		if x.Size != size || len(x.Pages) != 0 || !impl.TlbOk(x) {
			t.Errorf("TlbEmpty(%d) = %v", size, x)
		}
		for _, addr := range someAddrs() {
			if impl.TlbHolds(x, addr) {
				t.Errorf("TlbEmpty(%d) holds %d", size, addr)
			}
		}
	}
}

func TestTlbSizesThatAreWrong(t *testing.T) {
	for _, size := range wrongSizes() {
		if x := impl.TlbEmpty(size); !isNoTlb(x) {
			t.Errorf("TlbEmpty(%d) = %v", size, x)
		}
		for _, addrs := range [][]int{nil, {0}, {0, 0}, {64, 65, 3, 64}} {
			wantTlbRun(t, size, addrs, nil)
		}
	}
}

func TestTlbsThatAreRight(t *testing.T) {
	for _, x := range someTlbs() {
		if !impl.TlbOk(x) {
			t.Errorf("not TlbOk(%v)", x)
		}
	}
	for name, x := range map[string]impl.Tlb{
		"pages nil":             {Size: 3},
		"pages empty":           {Size: 3, Pages: []int{}},
		"Size pages":            tlbWith(3, 2, 1, 0),
		"both ends of memory":   tlbWith(2, 1023, 0),
		"the same, turned":      tlbWith(2, 0, 1023),
		"eight pages":           tlbWith(8, 7, 6, 5, 4, 3, 2, 1, 0),
		"no order of any kind":  tlbWith(8, 9, 2, 700, 1, 8),
		"pages a turn apart":    tlbWith(4, 8, 0, 16, 24),
		"pages beside the last": tlbWith(4, 1022, 1023, 1021),
	} {
		if !impl.TlbOk(x) {
			t.Errorf("not TlbOk of %s", name)
		}
	}
}

func TestTlbsThatAreWrong(t *testing.T) {
	for name, x := range wrongTlbs() {
		if impl.TlbOk(x) {
			t.Errorf("%s: TlbOk", name)
		}
		for _, addr := range append(noAddrs(), someAddrs()...) {
			if impl.TlbHolds(x, addr) {
				t.Errorf("%s: TlbHolds %d", name, addr)
			}
			if next, known := impl.TlbUse(x, addr); !isNoTlb(next) || known {
				t.Errorf("%s: TlbUse of %d = %v, %v", name, addr, next, known)
			}
		}
	}
}

func TestTlbAddressesThatAreNone(t *testing.T) {
	if impl.TlbHolds(tlbWith(2, 0, 1023), -1) || impl.TlbHolds(tlbWith(2, 0, 1023), 65536) {
		t.Error("the addresses beside memory")
	}
	for _, x := range someTlbs() {
		for _, addr := range append(noAddrs(), -63, -64, -65) {
			if impl.TlbHolds(x, addr) {
				t.Errorf("TlbHolds(%v, %d)", x, addr)
			}
			wantTlbUse(t, x, addr, impl.Tlb{}, false)
		}
	}
}

func TestEndsOfMemoryInATlb(t *testing.T) {
	wantTlbUse(t, tlbWith(1), 0, tlbWith(1, 0), false)
	wantTlbUse(t, tlbWith(1), 65535, tlbWith(1, 1023), false)
	wantTlbUse(t, tlbWith(2, 1023, 0), 0, tlbWith(2, 1023, 0), true)
	wantTlbUse(t, tlbWith(2, 1023, 0), 65535, tlbWith(2, 1023, 0), true)
}

func TestFirstAndLastByteOfAPage(t *testing.T) {
	for _, page := range []int{0, 1, 2, 63, 64, 511, 512, 1022, 1023} {
		x := tlbWith(2, page)
		for _, addr := range []int{page * 64, page*64 + 1, page*64 + 31, page*64 + 62, page*64 + 63} {
			wantTlbUse(t, tlbWith(2), addr, x, false)
			wantTlbUse(t, x, addr, x, true)
			if !impl.TlbHolds(x, addr) {
				t.Errorf("page %d has not %d", page, addr)
			}
		}
		for _, addr := range []int{page*64 - 1, page*64 + 64} {
			if impl.TlbHolds(x, addr) {
				t.Errorf("page %d has %d", page, addr)
			}
		}
	}
}

// A page is known just at the 64 addresses that it has, over all of memory.
func TestTlbHoldsOverAllMemory(t *testing.T) {
	x := tlbWith(4, 1023, 0, 7)
	for addr := -70; addr <= 65535+70; addr++ {
		want := addr >= 0 && addr < 64 || addr >= 448 && addr < 512 || addr >= 65472 && addr < 65536
		if impl.TlbHolds(x, addr) != want {
			t.Errorf("TlbHolds(%v, %d) is not %v", x, addr, want)
		}
	}
}

func TestTlbHoldsKnownPagesAndNoOthers(t *testing.T) {
	for _, x := range someTlbs() {
		for _, addr := range someAddrs() {
			want := slices.Contains(x.Pages, addr/64)
			if got := impl.TlbHolds(x, addr); got != want {
				t.Errorf("TlbHolds(%v, %d) = %v", x, addr, got)
			}
			if _, known := impl.TlbUse(x, addr); known != want {
				t.Errorf("TlbUse(%v, %d) knows %v", x, addr, known)
			}
		}
	}
}

// A known page keeps its age, whatever it is: the oldest, one in the middle, the youngest.
func TestKnownPagesKeepTheirAge(t *testing.T) {
	wantTlbUse(t, tlbWith(3, 5, 6, 7), 5*64, tlbWith(3, 5, 6, 7), true)
	wantTlbUse(t, tlbWith(3, 5, 6, 7), 6*64+63, tlbWith(3, 5, 6, 7), true)
	wantTlbUse(t, tlbWith(3, 5, 6, 7), 7*64+9, tlbWith(3, 5, 6, 7), true)
	wantTlbUse(t, tlbWith(5, 5, 6, 7), 5*64, tlbWith(5, 5, 6, 7), true)
	wantTlbUse(t, tlbWith(1, 5), 5*64, tlbWith(1, 5), true)
	for size := 1; size <= 8; size++ {
		full := fullTlb(size)
		for _, page := range full.Pages {
			wantTlbUse(t, full, page*64+17, full, true)
			// However often it was used, the oldest is the one that goes.
			used := full
			for range 5 {
				used, _ = impl.TlbUse(used, page*64)
			}
			want := tlbWith(size, append(slices.Clone(full.Pages[1:]), 600)...)
			wantTlbUse(t, used, 600*64, want, false)
		}
	}
}

func TestNewPagesComeAtTheEnd(t *testing.T) {
	wantTlbUse(t, tlbWith(3), 9*64, tlbWith(3, 9), false)
	wantTlbUse(t, tlbWith(3, 5), 2*64, tlbWith(3, 5, 2), false)
	wantTlbUse(t, tlbWith(3, 5, 2), 9*64, tlbWith(3, 5, 2, 9), false)
	wantTlbUse(t, tlbWith(3, 5, 2, 9), 0, tlbWith(3, 2, 9, 0), false)
	wantTlbUse(t, tlbWith(1), 64, tlbWith(1, 1), false)
	wantTlbUse(t, tlbWith(1, 1), 128, tlbWith(1, 2), false)
	wantTlbUse(t, tlbWith(8, 0, 1, 2, 3, 4, 5, 6), 7*64, tlbWith(8, 0, 1, 2, 3, 4, 5, 6, 7), false)
	wantTlbUse(t, tlbWith(8, 0, 1, 2, 3, 4, 5, 6, 7), 8*64, tlbWith(8, 1, 2, 3, 4, 5, 6, 7, 8), false)
}

// A page that went comes back as the youngest, not where it was.
func TestPagesThatWentComeBackAsTheYoungest(t *testing.T) {
	x := tlbWith(3, 1, 2, 3)
	x, _ = impl.TlbUse(x, 4*64)
	if impl.TlbHolds(x, 64) || !impl.TlbHolds(x, 2*64) {
		t.Errorf("%v behind page 4", x)
	}
	wantTlbUse(t, x, 64, tlbWith(3, 3, 4, 1), false)
	wantTlbRun(t, 1, []int{0, 64, 0, 1, 64, 65, 0}, []bool{false, false, false, true, false, true, false})
}

func TestUsesOfATlbAsByHand(t *testing.T) {
	for _, x := range someTlbs() {
		for _, addr := range someAddrs() {
			want, known := tlbUseByHand(x, addr)
			wantTlbUse(t, x, addr, want, known)
			if next, _ := impl.TlbUse(x, addr); !impl.TlbOk(next) || !impl.TlbHolds(next, addr) {
				t.Errorf("TlbUse(%v, %d) leads to %v", x, addr, next)
			}
		}
	}
}

// drawnAddrs stay within some pages from a base anywhere on, so that pages come and go.
func drawnAddrs(chance *rand.Rand, pages int, many int) []int {
	base := chance.Intn(65536 + 1 - pages*64)
	list := make([]int, many)
	for i := range list {
		list[i] = base + chance.Intn(pages*64)
	}
	return list
}

// usesBehind plays the run as uses one behind the other, from the empty table on.
func usesBehind(t *testing.T, size int, addrs []int) []bool {
	t.Helper()
	x := impl.TlbEmpty(size)
	list := []bool{}
	for _, addr := range addrs {
		want, knownByHand := tlbUseByHand(x, addr)
		holds := impl.TlbHolds(x, addr)
		next, known := impl.TlbUse(x, addr)
		if !sameTlb(next, want) || known != knownByHand || known != holds {
			t.Errorf("TlbUse(%v, %d) = %v, %v", x, addr, next, known)
		}
		list = append(list, known)
		x = next
	}
	return list
}

func TestTlbRunsAreUsesOneBehindTheOther(t *testing.T) {
	chance := rand.New(rand.NewSource(66))
	for size := 1; size <= 8; size++ {
		wantTlbRun(t, size, nil, nil)
		wantTlbRun(t, size, []int{}, nil)
		for _, addr := range []int{0, 63, 64, 65535} {
			wantTlbRun(t, size, []int{addr}, []bool{false})
			wantTlbRun(t, size, []int{addr, addr}, []bool{false, true})
		}
		for pages := 1; pages <= 14; pages++ {
			addrs := drawnAddrs(chance, pages, 60+chance.Intn(60))
			wantTlbRun(t, size, addrs, usesBehind(t, size, addrs))
		}
	}
}

func TestTlbRunsAtTheirLimit(t *testing.T) {
	chance := rand.New(rand.NewSource(666))
	for _, size := range []int{1, 3, 8} {
		addrs := drawnAddrs(chance, size+3, 2001)
		list := usesBehind(t, size, addrs)
		wantTlbRun(t, size, addrs[:1999], list[:1999])
		wantTlbRun(t, size, addrs[:2000], list[:2000])
		wantTlbRun(t, size, addrs, nil)
		// A list that is too long counts as it stands, not as what its first ones would answer.
		wantTlbRun(t, size, make([]int, 4000), nil)
	}
}

func TestTlbRunsWithAnAddressThatIsNone(t *testing.T) {
	for size := 1; size <= 8; size++ {
		for _, none := range noAddrs() {
			wantTlbRun(t, size, []int{none}, nil)
			wantTlbRun(t, size, []int{none, 0, 64}, nil)
			wantTlbRun(t, size, []int{0, none, 64}, nil)
			wantTlbRun(t, size, []int{0, 64, none}, nil)
			long := make([]int, 2000)
			long[1999] = none
			wantTlbRun(t, size, long, nil)
		}
		wantTlbRun(t, size, []int{0, 65535, 65535}, []bool{false, false, true})
	}
}

// Promise 6, its first half: of drawn addresses the first of each page is not known.
func TestFirstUseOfAPageIsNeverKnown(t *testing.T) {
	chance := rand.New(rand.NewSource(67))
	for size := 1; size <= 8; size++ {
		for pages := 1; pages <= 24; pages++ {
			addrs := drawnAddrs(chance, pages, 200)
			seen := [1024]bool{}
			for i, known := range impl.TlbRun(size, addrs) {
				if page := addrs[i] / 64; !seen[page] {
					seen[page] = true
					if known {
						t.Errorf("size %d, %d pages: the first use of page %d is known", size, pages, page)
					}
				}
			}
		}
	}
}

// Promise 6, its second half: where all pages fit, every use but a page's first is known.
func TestEveryOtherUseIsKnownWherePagesFit(t *testing.T) {
	chance := rand.New(rand.NewSource(68))
	for size := 1; size <= 8; size++ {
		for many := 1; many <= size; many++ {
			pages := chance.Perm(1024)[:many]
			addrs := make([]int, 300)
			want := make([]bool, len(addrs))
			seen := [1024]bool{}
			for i := range addrs {
				page := pages[chance.Intn(many)]
				addrs[i] = page*64 + chance.Intn(64)
				want[i] = seen[page]
				seen[page] = true
			}
			wantTlbRun(t, size, addrs, want)
		}
	}
}

// Where there is one page more than fits, going round them knows none, since the one that is next went just now.
func TestOnePageTooManyGoneRound(t *testing.T) {
	for size := 1; size <= 8; size++ {
		addrs := []int{}
		for i := range 5 * (size + 1) {
			addrs = append(addrs, i%(size+1)*64)
		}
		wantTlbRun(t, size, addrs, make([]bool, len(addrs)))
	}
}

// roomyTlb has its pages in a longer list, all of which is answered beside it.
func roomyTlb(x impl.Tlb) (impl.Tlb, []int) {
	whole := make([]int, len(x.Pages)+12)
	for i := range whole {
		whole[i] = 700 + i
	}
	copy(whole, x.Pages)
	return impl.Tlb{Size: x.Size, Pages: whole[:len(x.Pages)]}, whole
}

// Promise 26: neither a table nor its pages or the room behind them are written into.
func TestTlbsStayAsTheyWere(t *testing.T) {
	tables := someTlbs()
	for _, x := range wrongTlbs() {
		tables = append(tables, x)
	}
	for _, x := range tables {
		given, whole := roomyTlb(x)
		before := slices.Clone(whole)
		for _, addr := range append(noAddrs(), someAddrs()...) {
			impl.TlbOk(given)
			impl.TlbUse(given, addr)
			impl.TlbHolds(given, addr)
		}
		if !slices.Equal(whole, before) || !sameTlb(given, x) {
			t.Errorf("%v became %v, with %v behind it", x, given, whole)
		}
	}
}

func TestAddressesOfATlbRunStayAsTheyWere(t *testing.T) {
	whole := []int{0, 64, 3, 128, 192, 256, 0, 5, -1, 7, 65536, 9}
	before := slices.Clone(whole)
	for many := range len(whole) + 1 {
		for size := -1; size <= 9; size++ {
			impl.TlbRun(size, whole[:many])
		}
	}
	if !slices.Equal(whole, before) {
		t.Errorf("the addresses became %v", whole)
	}
}

// scribblePages writes over all that a list has, its spare room too.
func scribblePages(list []int) {
	list = list[:cap(list)]
	for i := range list {
		list[i] = -77
	}
}

func TestUsedTlbsAreNewMemory(t *testing.T) {
	for _, x := range someTlbs() {
		for _, addr := range someAddrs() {
			given, whole := roomyTlb(x)
			before := slices.Clone(whole)
			first, _ := impl.TlbUse(given, addr)
			second, _ := impl.TlbUse(given, addr)
			third, _ := impl.TlbUse(first, addr)
			want, _ := tlbUseByHand(x, addr)
			scribblePages(first.Pages)
			if !slices.Equal(whole, before) || !sameTlb(second, want) || !sameTlb(third, want) {
				t.Fatalf("TlbUse(%v, %d) shares memory", x, addr)
			}
			scribblePages(whole)
			if !sameTlb(second, want) || !sameTlb(third, want) {
				t.Fatalf("TlbUse(%v, %d) shares memory with what is handed in", x, addr)
			}
		}
	}
}

func TestTlbRunsAndEmptiesAreNewMemory(t *testing.T) {
	addrs := []int{0, 0, 64, 0}
	want := []bool{false, true, false, true}
	first, second := impl.TlbRun(2, addrs), impl.TlbRun(2, addrs)
	for i := range first[:cap(first)] {
		first[:cap(first)][i] = i%2 == 0
	}
	if !slices.Equal(second, want) {
		t.Errorf("two runs share memory: %v", second)
	}
	wantTlbRun(t, 2, addrs, want)
	one := impl.TlbEmpty(3)
	_ = append(one.Pages, 9)
	scribblePages(one.Pages)
	if two := impl.TlbEmpty(3); !sameTlb(two, impl.Tlb{Size: 3}) {
		t.Errorf("TlbEmpty(3) = %v", two)
	}
}
