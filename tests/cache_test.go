package tests

import (
	"math"
	"math/rand"
	"slices"
	"testing"

	"loop.example/g00076/impl"
)

func rightShapes() []impl.Shape {
	list := []impl.Shape{}
	for _, sets := range []int{1, 2, 4, 8, 16} {
		for _, ways := range []int{1, 2, 3, 4} {
			for _, line := range []int{4, 8, 16, 32} {
				list = append(list, impl.Shape{Sets: sets, Ways: ways, Line: line})
			}
		}
	}
	return list
}

// besideNumbers has every small number each way, and those at which a shift or a narrowing would go wrong.
func besideNumbers() []int {
	list := []int{64, 128, 256, 1 << 16, 1<<32 + 1, 1<<32 + 2, 1<<32 + 4, math.MaxInt, math.MinInt, math.MinInt + 1}
	for n := -40; n <= 40; n++ {
		list = append(list, n)
	}
	return list
}

// wrongShapes have each one number that is not right beside two that are.
func wrongShapes() []impl.Shape {
	list := []impl.Shape{{}}
	for _, n := range besideNumbers() {
		if !slices.Contains([]int{1, 2, 4, 8, 16}, n) {
			list = append(list, impl.Shape{Sets: n, Ways: 1, Line: 4}, impl.Shape{Sets: n, Ways: 4, Line: 32})
		}
		if n < 1 || n > 4 {
			list = append(list, impl.Shape{Sets: 1, Ways: n, Line: 4}, impl.Shape{Sets: 16, Ways: n, Line: 32})
		}
		if !slices.Contains([]int{4, 8, 16, 32}, n) {
			list = append(list, impl.Shape{Sets: 1, Ways: 1, Line: n}, impl.Shape{Sets: 16, Ways: 4, Line: n})
		}
	}
	return list
}

// noAddrs are numbers that are no address.
func noAddrs() []int {
	return []int{-1, -2, -4, -32, -65536, impl.MaxAddr + 1, impl.MaxAddr + 2, impl.MaxAddr + 32, 1 << 32, math.MaxInt, math.MinInt}
}

func clean(tag int) impl.Way { return impl.Way{Tag: tag} }

func dirty(tag int) impl.Way { return impl.Way{Tag: tag, Dirty: true} }

func sameCache(a impl.Cache, b impl.Cache) bool {
	return a.Shape == b.Shape && slices.EqualFunc(a.Rows, b.Rows, slices.Equal[[]impl.Way])
}

func isNoCache(c impl.Cache) bool {
	return sameCache(c, impl.Cache{})
}

func copyCache(c impl.Cache) impl.Cache {
	rows := make([][]impl.Way, len(c.Rows))
	for i, row := range c.Rows {
		rows[i] = append([]impl.Way{}, row...)
	}
	return impl.Cache{Shape: c.Shape, Rows: rows}
}

// cacheWith has all its rows empty but one.
func cacheWith(s impl.Shape, at int, row ...impl.Way) impl.Cache {
	c := impl.Cache{Shape: s, Rows: make([][]impl.Way, s.Sets)}
	c.Rows[at] = row
	return c
}

// fullCache has Ways ways in each row, all dirty or none; the tags of a row differ from those of the next.
func fullCache(s impl.Shape, dirty bool) impl.Cache {
	c := impl.Cache{Shape: s, Rows: make([][]impl.Way, s.Sets)}
	for at := range c.Rows {
		for n := range s.Ways {
			c.Rows[at] = append(c.Rows[at], impl.Way{Tag: (n*7 + at*5) % 50, Dirty: dirty})
		}
	}
	return c
}

func drawnCache(chance *rand.Rand, s impl.Shape) impl.Cache {
	c := impl.Cache{Shape: s, Rows: make([][]impl.Way, s.Sets)}
	for at := range c.Rows {
		tags := chance.Perm(6)[:chance.Intn(s.Ways+1)]
		for _, tag := range tags {
			c.Rows[at] = append(c.Rows[at], impl.Way{Tag: tag, Dirty: chance.Intn(2) == 0})
		}
	}
	return c
}

// drawnUses stay within some lines more than a cache has, from a base anywhere on, so that lines come and go.
func drawnUses(chance *rand.Rand, s impl.Shape, many int) []impl.Use {
	reach := s.Sets * s.Line * (1 + chance.Intn(s.Ways+3))
	base := chance.Intn(impl.MaxAddr + 2 - reach)
	list := make([]impl.Use, many)
	for i := range list {
		list[i] = impl.Use{Addr: base + chance.Intn(reach), Write: chance.Intn(3) == 0}
	}
	return list
}

// someCaches are right: empty, part-filled, full, and with tags at both limits.
func someCaches() []impl.Cache {
	list := []impl.Cache{}
	chance := rand.New(rand.NewSource(5))
	for _, s := range rightShapes() {
		list = append(list, impl.CacheEmpty(s), fullCache(s, false), fullCache(s, true))
		list = append(list, cacheWith(s, 0, clean(impl.MaxAddr)), cacheWith(s, s.Sets-1, dirty(0)))
		for range 4 {
			list = append(list, drawnCache(chance, s))
		}
	}
	return list
}

// wrongCaches have one thing wrong each, told by its name.
func wrongCaches() map[string]impl.Cache {
	two := impl.Shape{Sets: 2, Ways: 3, Line: 8}
	list := map[string]impl.Cache{
		"the zero value":              {},
		"a shape without rows":        {Shape: two},
		"a row too few":               {Shape: two, Rows: [][]impl.Way{{clean(1)}}},
		"a row too many":              {Shape: two, Rows: [][]impl.Way{{clean(1)}, {clean(2)}, {clean(3)}}},
		"an empty row too many":       {Shape: two, Rows: make([][]impl.Way, 3)},
		"rows without a shape":        {Rows: [][]impl.Way{{clean(1)}}},
		"a way too many, first row":   cacheWith(two, 0, clean(1), clean(2), clean(3), clean(4)),
		"a way too many, last row":    cacheWith(two, 1, clean(1), dirty(2), clean(3), clean(4)),
		"two ways in a row of one":    cacheWith(impl.Shape{Sets: 1, Ways: 1, Line: 4}, 0, clean(0), clean(1)),
		"five ways in a row of four":  cacheWith(impl.Shape{Sets: 1, Ways: 4, Line: 4}, 0, clean(0), clean(1), clean(2), clean(3), clean(4)),
		"a tag twice, side by side":   cacheWith(two, 0, clean(5), clean(5)),
		"a tag twice, at both ends":   cacheWith(two, 1, dirty(5), clean(6), dirty(5)),
		"a tag twice, one dirty":      cacheWith(two, 0, clean(6), dirty(5), clean(5)),
		"tag 0 twice":                 cacheWith(two, 1, clean(0), dirty(0)),
		"tag -1":                      cacheWith(two, 0, clean(-1)),
		"tag -1, last of the last":    cacheWith(two, 1, clean(0), clean(1), dirty(-1)),
		"tag MaxAddr + 1":             cacheWith(two, 0, clean(impl.MaxAddr+1)),
		"tag MaxAddr + 1, last row":   cacheWith(two, 1, clean(1), dirty(impl.MaxAddr+1)),
		"the least tag":               cacheWith(two, 0, dirty(math.MinInt)),
		"the greatest tag":            cacheWith(two, 0, dirty(math.MaxInt)),
		"a tag that narrows to right": cacheWith(two, 0, dirty(1<<32+1)),
	}
	for _, s := range wrongShapes() {
		name := "shape " + impl.DecText(s.Sets) + " " + impl.DecText(s.Ways) + " " + impl.DecText(s.Line)
		rows := 1
		if s.Sets >= 0 && s.Sets <= 64 {
			rows = s.Sets
		}
		list[name] = impl.Cache{Shape: s, Rows: make([][]impl.Way, rows)}
		if rows > 0 {
			list[name].Rows[0] = []impl.Way{dirty(0)}
		}
	}
	return list
}

// useByHand tells the document's sentence over plain lists.
func useByHand(c impl.Cache, addr int, write bool) (impl.Cache, bool, bool) {
	next := copyCache(c)
	n := addr / c.Shape.Line
	at, tag := n%c.Shape.Sets, n/c.Shape.Sets
	row := c.Rows[at]
	for place, w := range row {
		if w.Tag == tag {
			next.Rows[at] = slices.Concat([]impl.Way{{Tag: tag, Dirty: w.Dirty || write}}, row[:place], row[place+1:])
			return next, true, false
		}
	}
	back := false
	if len(row) == c.Shape.Ways {
		back = row[len(row)-1].Dirty
		row = row[:len(row)-1]
	}
	next.Rows[at] = slices.Concat([]impl.Way{{Tag: tag, Dirty: write}}, row)
	return next, false, back
}

func wantUse(t *testing.T, c impl.Cache, addr int, write bool, want impl.Cache, there bool, back bool) {
	t.Helper()
	got, gotThere, gotBack := impl.CacheUse(c, addr, write)
	if !sameCache(got, want) || gotThere != there || gotBack != back {
		t.Errorf("CacheUse(%v, %d, %v) = %v, %v, %v, not %v, %v, %v", c, addr, write, got, gotThere, gotBack, want, there, back)
	}
}

// The limits are told as numbers here, so that a wrong constant cannot vouch for itself.
func TestCacheLimits(t *testing.T) {
	if impl.MaxAddr != 65535 || impl.MaxUses != 2000 {
		t.Errorf("MaxAddr %d, MaxUses %d", impl.MaxAddr, impl.MaxUses)
	}
	s := impl.Shape{Sets: 1, Ways: 1, Line: 4}
	for many, want := range map[int]int{1999: 1999, 2000: 2000, 2001: 0} {
		if list := impl.CacheRun(s, make([]impl.Use, many)); len(list) != want {
			t.Errorf("CacheRun of %d uses has %d accesses", many, len(list))
		}
	}
	if !impl.CacheOk(cacheWith(s, 0, clean(65535))) || impl.CacheOk(cacheWith(s, 0, clean(65536))) {
		t.Error("the greatest tag")
	}
	if !impl.CacheHolds(cacheWith(s, 0, clean(16383)), 65535) || impl.CacheHolds(cacheWith(s, 0, clean(16384)), 65536) {
		t.Error("the greatest address")
	}
}

func TestShapesThatAreRight(t *testing.T) {
	for _, s := range rightShapes() {
		if !impl.ShapeOk(s) {
			t.Errorf("not ShapeOk(%+v)", s)
		}
		c := impl.CacheEmpty(s)
		if c.Shape != s || len(c.Rows) != s.Sets || !impl.CacheOk(c) {
			t.Errorf("CacheEmpty(%+v) = %+v", s, c)
		}
		for at, row := range c.Rows {
			if len(row) != 0 {
				t.Errorf("CacheEmpty(%+v) has %v in row %d", s, row, at)
			}
		}
	}
}

func TestShapesThatAreWrong(t *testing.T) {
	for _, s := range wrongShapes() {
		if impl.ShapeOk(s) {
			t.Errorf("ShapeOk(%+v)", s)
		}
		if c := impl.CacheEmpty(s); !isNoCache(c) {
			t.Errorf("CacheEmpty(%+v) = %+v", s, c)
		}
		if n := impl.WorstDirty(s); n != 0 {
			t.Errorf("WorstDirty(%+v) = %d", s, n)
		}
		for _, uses := range [][]impl.Use{nil, {{Addr: 0}}, {{Addr: 4}, {Addr: 4, Write: true}}} {
			if list := impl.CacheRun(s, uses); len(list) != 0 {
				t.Errorf("CacheRun(%+v, %v) = %v", s, uses, list)
			}
		}
	}
}

// Each number of a shape on its own, against what the document lists.
func TestEachNumberOfAShape(t *testing.T) {
	for _, n := range besideNumbers() {
		if got, want := impl.ShapeOk(impl.Shape{Sets: n, Ways: 2, Line: 8}), n == 1 || n == 2 || n == 4 || n == 8 || n == 16; got != want {
			t.Errorf("Sets %d: ShapeOk = %v", n, got)
		}
		if got, want := impl.ShapeOk(impl.Shape{Sets: 2, Ways: n, Line: 8}), n >= 1 && n <= 4; got != want {
			t.Errorf("Ways %d: ShapeOk = %v", n, got)
		}
		if got, want := impl.ShapeOk(impl.Shape{Sets: 2, Ways: 2, Line: n}), n == 4 || n == 8 || n == 16 || n == 32; got != want {
			t.Errorf("Line %d: ShapeOk = %v", n, got)
		}
	}
}

func TestCachesThatAreRight(t *testing.T) {
	for _, c := range someCaches() {
		if !impl.CacheOk(c) {
			t.Errorf("not CacheOk(%+v)", c)
		}
	}
	two := impl.Shape{Sets: 2, Ways: 3, Line: 8}
	for name, c := range map[string]impl.Cache{
		"the same tag in two rows": {Shape: two, Rows: [][]impl.Way{{clean(5), dirty(6)}, {dirty(5), clean(6)}}},
		"tag 0":                    cacheWith(two, 0, clean(0)),
		"tag MaxAddr":              cacheWith(two, 1, dirty(impl.MaxAddr)),
		"both in a row":            cacheWith(two, 1, dirty(impl.MaxAddr), clean(0)),
		"Ways ways":                cacheWith(two, 1, clean(3), clean(2), clean(1)),
		"rows nil":                 {Shape: two, Rows: [][]impl.Way{nil, nil}},
		"rows empty":               {Shape: two, Rows: [][]impl.Way{{}, {}}},
	} {
		if !impl.CacheOk(c) {
			t.Errorf("not CacheOk of %s", name)
		}
	}
}

func TestCachesThatAreWrong(t *testing.T) {
	for name, c := range wrongCaches() {
		if impl.CacheOk(c) {
			t.Errorf("%s: CacheOk", name)
		}
		if next, n := impl.CacheFlush(c); !isNoCache(next) || n != 0 {
			t.Errorf("%s: CacheFlush = %v, %d", name, next, n)
		}
		if lines := impl.CacheLines(c); len(lines) != 0 {
			t.Errorf("%s: CacheLines = %v", name, lines)
		}
		for _, addr := range append(noAddrs(), 0, 1, 4, 8, 16, 40, 41, 96, 100, impl.MaxAddr) {
			if impl.CacheHolds(c, addr) {
				t.Errorf("%s: CacheHolds %d", name, addr)
			}
			for _, write := range []bool{false, true} {
				if next, there, back := impl.CacheUse(c, addr, write); !isNoCache(next) || there || back {
					t.Errorf("%s: CacheUse of %d = %v, %v, %v", name, addr, next, there, back)
				}
			}
		}
	}
}

func TestAddressesThatAreNone(t *testing.T) {
	for _, c := range someCaches() {
		for _, addr := range noAddrs() {
			if impl.CacheHolds(c, addr) {
				t.Errorf("CacheHolds(%v, %d)", c, addr)
			}
			for _, write := range []bool{false, true} {
				wantUse(t, c, addr, write, impl.Cache{}, false, false)
			}
		}
	}
	// Cut to a narrower number or taken below 0, these addresses would be in a line that is there.
	s := impl.Shape{Sets: 1, Ways: 2, Line: 32}
	c := cacheWith(s, 0, clean(0), dirty(1))
	last := cacheWith(s, 0, clean(2048), dirty(2047))
	for _, addr := range noAddrs() {
		if impl.CacheHolds(c, addr) || impl.CacheHolds(last, addr) {
			t.Errorf("CacheHolds %d", addr)
		}
	}
}

// someLines are line numbers at the ends of memory and around the first rows.
func someLines(s impl.Shape) []int {
	last := impl.MaxAddr / s.Line
	return []int{0, 1, 2, s.Sets - 1, s.Sets, s.Sets + 1, 5*s.Sets + s.Sets/2, last - s.Sets, last - 1, last}
}

func TestFirstAndLastByteOfALine(t *testing.T) {
	for _, s := range rightShapes() {
		for _, n := range someLines(s) {
			first, last := n*s.Line, n*s.Line+s.Line-1
			want := cacheWith(s, n%s.Sets, clean(n/s.Sets))
			for _, addr := range []int{first, first + 1, first + s.Line/2, last - 1, last} {
				wantUse(t, impl.CacheEmpty(s), addr, false, want, false, false)
				wantUse(t, want, addr, false, want, true, false)
				if !impl.CacheHolds(want, addr) || impl.CacheHolds(impl.CacheEmpty(s), addr) {
					t.Errorf("%+v: CacheHolds %d", s, addr)
				}
			}
			if lines := impl.CacheLines(want); !slices.Equal(lines, []int{n}) {
				t.Errorf("%+v: CacheLines = %v, not %d alone", s, lines, n)
			}
			for _, addr := range []int{first - 1, last + 1} {
				if impl.CacheHolds(want, addr) {
					t.Errorf("%+v: line %d has %d", s, n, addr)
				}
				if _, there, _ := impl.CacheUse(want, addr, true); there {
					t.Errorf("%+v: a use of %d finds line %d", s, addr, n)
				}
			}
		}
	}
}

func TestFirstAndLastAddress(t *testing.T) {
	s := impl.Shape{Sets: 16, Ways: 4, Line: 32}
	wantUse(t, impl.CacheEmpty(s), 0, true, cacheWith(s, 0, dirty(0)), false, false)
	wantUse(t, impl.CacheEmpty(s), impl.MaxAddr, true, cacheWith(s, 15, dirty(127)), false, false)
	s = impl.Shape{Sets: 1, Ways: 1, Line: 4}
	wantUse(t, impl.CacheEmpty(s), 0, false, cacheWith(s, 0, clean(0)), false, false)
	wantUse(t, impl.CacheEmpty(s), impl.MaxAddr, false, cacheWith(s, 0, clean(16383)), false, false)
}

// someRows are all rows of up to Ways ways, told by which of them are dirty; the tag of place n is 10 + 3 n.
func someRows(ways int) [][]impl.Way {
	list := [][]impl.Way{}
	for many := 0; many <= ways; many++ {
		for flags := range 1 << many {
			row := []impl.Way{}
			for n := range many {
				row = append(row, impl.Way{Tag: 10 + 3*n, Dirty: flags>>n&1 == 1})
			}
			list = append(list, row)
		}
	}
	return list
}

func TestUseThatFindsItsLine(t *testing.T) {
	for _, s := range rightShapes() {
		for _, row := range someRows(s.Ways) {
			for place, w := range row {
				for _, write := range []bool{false, true} {
					at := place % s.Sets
					want := slices.Concat([]impl.Way{{Tag: w.Tag, Dirty: w.Dirty || write}}, row[:place], row[place+1:])
					addr := (w.Tag*s.Sets + at) * s.Line
					wantUse(t, cacheWith(s, at, row...), addr, write, cacheWith(s, at, want...), true, false)
				}
			}
		}
	}
}

func TestUseThatDoesNotFindItsLine(t *testing.T) {
	for _, s := range rightShapes() {
		for _, row := range someRows(s.Ways) {
			for _, write := range []bool{false, true} {
				at := len(row) % s.Sets
				stay, back := row, false
				if len(row) == s.Ways {
					stay, back = row[:s.Ways-1], row[s.Ways-1].Dirty
				}
				want := slices.Concat([]impl.Way{{Tag: 2, Dirty: write}}, stay)
				addr := (2*s.Sets+at)*s.Line + s.Line - 1
				wantUse(t, cacheWith(s, at, row...), addr, write, cacheWith(s, at, want...), false, back)
			}
		}
	}
}

func TestUsesByHand(t *testing.T) {
	s := impl.Shape{Sets: 2, Ways: 2, Line: 4}
	c := impl.CacheEmpty(s)
	for _, step := range []struct {
		addr  int
		write bool
		there bool
		back  bool
		rows  [][]impl.Way
	}{
		{0, true, false, false, [][]impl.Way{{dirty(0)}, {}}},
		{3, false, true, false, [][]impl.Way{{dirty(0)}, {}}},
		{4, false, false, false, [][]impl.Way{{dirty(0)}, {clean(0)}}},
		{8, false, false, false, [][]impl.Way{{clean(1), dirty(0)}, {clean(0)}}},
		{16, false, false, true, [][]impl.Way{{clean(2), clean(1)}, {clean(0)}}},
		{9, true, true, false, [][]impl.Way{{dirty(1), clean(2)}, {clean(0)}}},
		{0, false, false, false, [][]impl.Way{{clean(0), dirty(1)}, {clean(0)}}},
		{7, true, true, false, [][]impl.Way{{clean(0), dirty(1)}, {dirty(0)}}},
		{24, true, false, true, [][]impl.Way{{dirty(3), clean(0)}, {dirty(0)}}},
		{65535, true, false, false, [][]impl.Way{{dirty(3), clean(0)}, {dirty(8191), dirty(0)}}},
		{5, false, true, false, [][]impl.Way{{dirty(3), clean(0)}, {dirty(0), dirty(8191)}}},
		{13, false, false, true, [][]impl.Way{{dirty(3), clean(0)}, {clean(1), dirty(0)}}},
	} {
		wantUse(t, c, step.addr, step.write, impl.Cache{Shape: s, Rows: step.rows}, step.there, step.back)
		c = impl.Cache{Shape: s, Rows: step.rows}
	}
}

func TestDrawnUsesByHand(t *testing.T) {
	chance := rand.New(rand.NewSource(51))
	for _, c := range someCaches() {
		s := c.Shape
		for range 8 {
			addr, write := chance.Intn(s.Sets*s.Line*8), chance.Intn(2) == 0
			want, there, back := useByHand(c, addr, write)
			wantUse(t, c, addr, write, want, there, back)
			next, _, _ := impl.CacheUse(c, addr, write)
			if !impl.CacheOk(next) || !impl.CacheHolds(next, addr) {
				t.Errorf("behind a use of %d: %v", addr, next)
			}
			if impl.CacheHolds(c, addr) != there {
				t.Errorf("CacheHolds(%v, %d) = %v", c, addr, !there)
			}
		}
	}
}

func TestFlushAndLines(t *testing.T) {
	for _, c := range someCaches() {
		lines, many := []int{}, 0
		for at, row := range c.Rows {
			for _, w := range row {
				lines = append(lines, w.Tag*c.Shape.Sets+at)
				if w.Dirty {
					many++
				}
			}
		}
		slices.Sort(lines)
		if got := impl.CacheLines(c); !slices.Equal(got, lines) {
			t.Errorf("CacheLines(%v) = %v, not %v", c, got, lines)
		}
		next, got := impl.CacheFlush(c)
		if got != many || !sameCache(next, impl.CacheEmpty(c.Shape)) {
			t.Errorf("CacheFlush(%v) = %v, %d, not %d", c, next, got, many)
		}
		if len(impl.CacheLines(next)) != 0 {
			t.Errorf("lines behind a flush of %v", c)
		}
	}
}

// Gone through row by row, 8 and 21 would come ahead of 1.
func TestLinesAscendAcrossRows(t *testing.T) {
	c := impl.Cache{Shape: impl.Shape{Sets: 4, Ways: 3, Line: 16}, Rows: [][]impl.Way{
		{clean(0), dirty(2)},
		{dirty(5), clean(0)},
		{clean(0)},
		{dirty(0), clean(impl.MaxAddr)},
	}}
	if lines := impl.CacheLines(c); !slices.Equal(lines, []int{0, 1, 2, 3, 8, 21, 4*impl.MaxAddr + 3}) {
		t.Errorf("CacheLines = %v", lines)
	}
	if _, n := impl.CacheFlush(c); n != 3 {
		t.Errorf("CacheFlush = %d", n)
	}
}

// A tag that no address can have is right, and is in nobody's way: no address finds it.
func TestTagsBeyondMemory(t *testing.T) {
	for _, s := range rightShapes() {
		c := cacheWith(s, 0, dirty(impl.MaxAddr))
		for _, addr := range []int{0, s.Line, impl.MaxAddr - s.Line*s.Sets + 1, impl.MaxAddr} {
			if impl.CacheHolds(c, addr) {
				t.Errorf("%+v: CacheHolds %d", s, addr)
			}
			want, _, back := useByHand(c, addr, false)
			wantUse(t, c, addr, false, want, false, back)
		}
		if lines := impl.CacheLines(c); !slices.Equal(lines, []int{impl.MaxAddr * s.Sets}) {
			t.Errorf("%+v: CacheLines = %v", s, lines)
		}
	}
}

func TestWorstDirtyIsTheMost(t *testing.T) {
	chance := rand.New(rand.NewSource(52))
	for _, s := range rightShapes() {
		worst := impl.WorstDirty(s)
		if worst != s.Sets*s.Ways {
			t.Errorf("WorstDirty(%+v) = %d", s, worst)
		}
		c := impl.CacheEmpty(s)
		for n := range s.Sets * s.Ways {
			next, _, back := impl.CacheUse(c, n*s.Line, true)
			if c = next; back {
				t.Errorf("%+v: use %d writes back", s, n)
			}
			if _, many := impl.CacheFlush(c); many != n+1 {
				t.Errorf("%+v: %d dirty behind %d writes", s, many, n+1)
			}
		}
		for n := range s.Sets {
			next, _, back := impl.CacheUse(c, (s.Sets*s.Ways+n)*s.Line, true)
			if c = next; !back {
				t.Errorf("%+v: a write into full row %d writes nothing back", s, n)
			}
			if _, many := impl.CacheFlush(c); many != worst {
				t.Errorf("%+v: %d dirty in a full cache, WorstDirty %d", s, many, worst)
			}
		}
		for range 20 {
			if _, many := impl.CacheFlush(drawnCache(chance, s)); many > worst {
				t.Errorf("%+v: %d dirty, WorstDirty %d", s, many, worst)
			}
		}
		if _, many := impl.CacheFlush(fullCache(s, true)); many != worst {
			t.Errorf("%+v: %d dirty of all, WorstDirty %d", s, many, worst)
		}
		if _, many := impl.CacheFlush(fullCache(s, false)); many != 0 {
			t.Errorf("%+v: %d dirty of none", s, many)
		}
	}
}

// wantRun holds a run against CacheUse, one use behind the other.
func wantRun(t *testing.T, s impl.Shape, uses []impl.Use) {
	t.Helper()
	got := impl.CacheRun(s, uses)
	if len(got) != len(uses) {
		t.Fatalf("CacheRun(%+v) has %d accesses of %d uses", s, len(got), len(uses))
	}
	c := impl.CacheEmpty(s)
	for i, use := range uses {
		next, there, back := impl.CacheUse(c, use.Addr, use.Write)
		if want := (impl.Access{Cached: there, Back: back}); got[i] != want {
			t.Fatalf("CacheRun(%+v, %v): use %d is %+v, not %+v", s, uses[:i+1], i, got[i], want)
		}
		c = next
	}
}

func TestRunIsUseBehindUse(t *testing.T) {
	chance := rand.New(rand.NewSource(53))
	for _, s := range rightShapes() {
		wantRun(t, s, nil)
		wantRun(t, s, []impl.Use{})
		wantRun(t, s, []impl.Use{{Addr: 0}})
		wantRun(t, s, []impl.Use{{Addr: impl.MaxAddr, Write: true}})
		wantRun(t, s, drawnUses(chance, s, 2))
		wantRun(t, s, drawnUses(chance, s, 200))
	}
}

func TestRunsAtMaxUses(t *testing.T) {
	chance := rand.New(rand.NewSource(54))
	for _, s := range []impl.Shape{{Sets: 1, Ways: 1, Line: 4}, {Sets: 4, Ways: 3, Line: 8}, {Sets: 16, Ways: 4, Line: 32}} {
		wantRun(t, s, drawnUses(chance, s, impl.MaxUses-1))
		wantRun(t, s, drawnUses(chance, s, impl.MaxUses))
		for _, many := range []int{impl.MaxUses + 1, impl.MaxUses + 2, 2 * impl.MaxUses} {
			if list := impl.CacheRun(s, drawnUses(chance, s, many)); len(list) != 0 {
				t.Errorf("CacheRun(%+v) of %d uses has %d accesses", s, many, len(list))
			}
		}
	}
}

func TestRunsWithAnAddressThatIsNone(t *testing.T) {
	chance := rand.New(rand.NewSource(55))
	for _, s := range rightShapes() {
		for _, addr := range noAddrs() {
			for _, place := range []int{0, 1, 15, 29} {
				uses := drawnUses(chance, s, 30)
				uses[place].Addr = addr
				if list := impl.CacheRun(s, uses); len(list) != 0 {
					t.Errorf("CacheRun(%+v) with address %d at place %d has %d accesses", s, addr, place, len(list))
				}
			}
			if list := impl.CacheRun(s, []impl.Use{{Addr: addr, Write: true}}); len(list) != 0 {
				t.Errorf("CacheRun(%+v) of address %d alone = %v", s, addr, list)
			}
		}
	}
}

// othersSince tells from the uses alone: whether the line of use i was used ahead of it, and the other lines of its row that were used since, the newest first.
func othersSince(s impl.Shape, uses []impl.Use, i int) (bool, []int) {
	line, others := uses[i].Addr/s.Line, []int{}
	for j := i - 1; j >= 0; j-- {
		other := uses[j].Addr / s.Line
		if other == line {
			return true, others
		}
		if other%s.Sets == line%s.Sets && !slices.Contains(others, other) {
			others = append(others, other)
		}
	}
	return false, others
}

// Promise 5, its first two sentences.
func TestUsesFindTheirLineByWhatWasUsedSince(t *testing.T) {
	chance := rand.New(rand.NewSource(56))
	for _, s := range rightShapes() {
		for range 6 {
			uses := drawnUses(chance, s, 250)
			got := impl.CacheRun(s, uses)
			more := impl.CacheRun(impl.Shape{Sets: s.Sets, Ways: s.Ways + 1, Line: s.Line}, uses)
			if len(got) != len(uses) || s.Ways < 4 && len(more) != len(uses) {
				t.Fatalf("CacheRun(%+v) has %d and %d accesses", s, len(got), len(more))
			}
			for i := range uses {
				used, others := othersSince(s, uses, i)
				if want := used && len(others) < s.Ways; got[i].Cached != want {
					t.Errorf("%+v: use %d is found: %v; lines used since: %v", s, i, got[i].Cached, others)
				}
				if s.Ways < 4 && got[i].Cached && !more[i].Cached {
					t.Errorf("%+v: use %d is lost with one way more", s, i)
				}
				if got[i].Known {
					t.Errorf("%+v: use %d is known", s, i)
				}
			}
		}
	}
}

// writtenSinceIn tells from the uses ahead of use i whether a line was written since it came in the last time.
func writtenSinceIn(s impl.Shape, uses []impl.Use, found []impl.Access, i int, line int) bool {
	for j := i - 1; j >= 0; j-- {
		if uses[j].Addr/s.Line != line {
			continue
		}
		if uses[j].Write {
			return true
		}
		if !found[j].Cached {
			return false
		}
	}
	return false
}

// Promise 5, its last sentence; and what was written is written back when it goes.
func TestWhatIsWrittenBackWasWritten(t *testing.T) {
	chance := rand.New(rand.NewSource(57))
	for _, s := range rightShapes() {
		for range 6 {
			uses := drawnUses(chance, s, 250)
			got := impl.CacheRun(s, uses)
			for i := range uses {
				_, others := othersSince(s, uses, i)
				want := false
				if !got[i].Cached && len(others) >= s.Ways {
					want = writtenSinceIn(s, uses, got, i, others[s.Ways-1])
				}
				if got[i].Back != want {
					t.Errorf("%+v: use %d (%+v) writes back: %v", s, i, uses[i], got[i].Back)
				}
			}
		}
	}
}

// Of a cache with one way more every line stays that stays in the lesser one, at every step.
func TestMoreWaysNeverLoseALine(t *testing.T) {
	chance := rand.New(rand.NewSource(58))
	for _, s := range rightShapes() {
		if s.Ways == 4 {
			continue
		}
		small, great := impl.CacheEmpty(s), impl.CacheEmpty(impl.Shape{Sets: s.Sets, Ways: s.Ways + 1, Line: s.Line})
		for i, use := range drawnUses(chance, s, 250) {
			small, _, _ = impl.CacheUse(small, use.Addr, use.Write)
			great, _, _ = impl.CacheUse(great, use.Addr, use.Write)
			lines := impl.CacheLines(great)
			for _, line := range impl.CacheLines(small) {
				if !slices.Contains(lines, line) {
					t.Fatalf("%+v: behind use %d one way more lacks line %d", s, i, line)
				}
			}
		}
	}
}

// roomy is c over memory of which each row has the rest as spare room; the memory is handed out beside it, to be looked at.
func roomy(c impl.Cache) (impl.Cache, []impl.Way, [][]impl.Way) {
	const room = 6
	ways := make([]impl.Way, room*(len(c.Rows)+1))
	for i := range ways {
		ways[i] = impl.Way{Tag: 40000 + i, Dirty: true}
	}
	rows := make([][]impl.Way, len(c.Rows)+2)
	for at := range rows {
		rows[at] = []impl.Way{dirty(50000 + at)}
	}
	for at, row := range c.Rows {
		copy(ways[room*at:], row)
		rows[at] = ways[room*at : room*at+len(row)]
	}
	return impl.Cache{Shape: c.Shape, Rows: rows[:len(c.Rows)]}, ways, rows
}

// Promise 26: neither a cache nor its rows, their ways or the room behind them are written into.
func TestCachesStayAsTheyWere(t *testing.T) {
	caches := someCaches()
	for _, c := range wrongCaches() {
		caches = append(caches, c)
	}
	for _, c := range caches {
		given, ways, rows := roomy(c)
		waysBefore := slices.Clone(ways)
		rowsBefore := copyCache(impl.Cache{Rows: rows})
		impl.CacheOk(given)
		impl.CacheFlush(given)
		impl.CacheLines(given)
		for _, addr := range []int{-1, 0, 4, 40, 41, 97, 300, impl.MaxAddr, impl.MaxAddr + 1} {
			impl.CacheHolds(given, addr)
			impl.CacheUse(given, addr, false)
			impl.CacheUse(given, addr, true)
		}
		if !slices.Equal(ways, waysBefore) || !sameCache(impl.Cache{Rows: rows}, rowsBefore) || !sameCache(given, c) {
			t.Errorf("%v is not as before", c)
		}
	}
}

// scribble writes over all that a row has, its spare room too.
func scribble(row []impl.Way) {
	row = row[:cap(row)]
	for i := range row {
		row[i] = impl.Way{Tag: -77, Dirty: !row[i].Dirty}
	}
}

// wantRowsApart writes into one row of an answer after the other, and asks that the others stay.
func wantRowsApart(t *testing.T, c impl.Cache) {
	t.Helper()
	for at := range c.Rows {
		before := copyCache(c)
		_ = append(c.Rows[at], dirty(-78))
		scribble(c.Rows[at])
		for other := range c.Rows {
			if other != at && !slices.Equal(c.Rows[other], before.Rows[other]) {
				t.Errorf("rows %d and %d of %v share memory", at, other, before)
			}
		}
	}
}

func TestUsedCachesAreNewMemory(t *testing.T) {
	for _, c := range someCaches() {
		for _, addr := range []int{0, 4, 40, 41, 97, 300, impl.MaxAddr} {
			given, ways, _ := roomy(c)
			first, _, _ := impl.CacheUse(given, addr, true)
			second, _, _ := impl.CacheUse(given, addr, true)
			third, _, _ := impl.CacheUse(first, addr, false)
			before, beforeThird := copyCache(second), copyCache(third)
			wantRowsApart(t, first)
			for i := range first.Rows {
				first.Rows[i] = nil
			}
			if !sameCache(given, c) {
				t.Fatalf("an answer shares memory with %v", c)
			}
			scribble(ways)
			for i := range given.Rows {
				given.Rows[i] = nil
			}
			if !sameCache(second, before) || !sameCache(third, beforeThird) {
				t.Fatalf("answers to %v share memory", c)
			}
		}
	}
}

func TestEmptyCachesAreNewMemory(t *testing.T) {
	for _, c := range someCaches() {
		given, ways, _ := roomy(c)
		one, _ := impl.CacheFlush(given)
		two, _ := impl.CacheFlush(given)
		three, four := impl.CacheEmpty(c.Shape), impl.CacheEmpty(c.Shape)
		for _, empty := range []impl.Cache{one, three} {
			wantRowsApart(t, empty)
			for i := range empty.Rows {
				empty.Rows[i] = append(empty.Rows[i], dirty(9))
			}
		}
		if !sameCache(given, c) {
			t.Fatalf("a flushed cache shares memory with %v", c)
		}
		scribble(ways)
		want := impl.Cache{Shape: c.Shape, Rows: make([][]impl.Way, c.Shape.Sets)}
		if !sameCache(two, want) || !sameCache(four, want) {
			t.Fatalf("two empty caches of %+v share memory", c.Shape)
		}
	}
}

func TestLinesAreNewMemory(t *testing.T) {
	for _, c := range someCaches() {
		first, second := impl.CacheLines(c), impl.CacheLines(c)
		before := slices.Clone(second)
		for i := range first {
			first[i] = -1
		}
		if !slices.Equal(second, before) || !slices.Equal(impl.CacheLines(c), before) {
			t.Fatalf("two lists of lines of %v share memory", c)
		}
	}
}

func TestRunsWriteIntoNothing(t *testing.T) {
	chance := rand.New(rand.NewSource(59))
	for _, s := range append(rightShapes(), impl.Shape{}, impl.Shape{Sets: 3, Ways: 1, Line: 4}) {
		memory := drawnUses(chance, impl.Shape{Sets: 4, Ways: 2, Line: 16}, 60)
		before := slices.Clone(memory)
		first, second := impl.CacheRun(s, memory[:40]), impl.CacheRun(s, memory[:40])
		kept := slices.Clone(second)
		for i := range first {
			first[i] = impl.Access{Cached: !first[i].Cached, Known: true, Back: true}
		}
		if !slices.Equal(memory, before) {
			t.Errorf("%+v: a run writes into its uses", s)
		}
		if !slices.Equal(second, kept) || !slices.Equal(impl.CacheRun(s, memory[:40]), kept) {
			t.Errorf("%+v: two runs share memory, or answer twice and not alike", s)
		}
	}
}
