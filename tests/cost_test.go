package tests

import (
	"math"
	"math/rand"
	"testing"

	"loop.example/g00076/impl"
)

// costNames are the fields of Costs but Base, which has limits of its own.
func costNames() []string {
	return []string{"Mul", "Mem", "Miss", "Walk", "Trap", "Line"}
}

// withCost is c with one cost, told by its name, set to n.
func withCost(c impl.Costs, name string, n int) impl.Costs {
	switch name {
	case "Base":
		c.Base = n
	case "Mul":
		c.Mul = n
	case "Mem":
		c.Mem = n
	case "Miss":
		c.Miss = n
	case "Walk":
		c.Walk = n
	case "Trap":
		c.Trap = n
	case "Line":
		c.Line = n
	}
	return c
}

// apart has costs of which no two sums of some are alike, so that each is told from the others.
func apart() impl.Costs {
	return impl.Costs{Base: 20, Mul: 31, Mem: 37, Miss: 40, Walk: 42, Trap: 43, Line: 44}
}

func someCosts() []impl.Costs {
	list := []impl.Costs{
		apart(),
		{Base: 1},
		{Base: 20},
		{Base: 20, Mul: 50, Mem: 50, Miss: 50, Walk: 50, Trap: 50, Line: 50},
		{Base: 1, Mul: 2, Mem: 3, Miss: 4, Walk: 5, Trap: 6, Line: 7},
		{Base: 3, Mul: 9, Mem: 2, Miss: 1, Walk: 4, Trap: 5, Line: 6},
		{Base: 3, Mul: 2, Mem: 9, Miss: 1, Walk: 4, Trap: 5, Line: 6},
		{Base: 3, Mul: 2, Mem: 5, Miss: 1, Walk: 4, Trap: 9, Line: 6},
		{Base: 3, Mul: 9, Mem: 9, Miss: 1, Walk: 4, Trap: 9, Line: 6},
	}
	for _, name := range costNames() {
		list = append(list, withCost(impl.Costs{Base: 1}, name, 1), withCost(impl.Costs{Base: 20}, name, 50))
	}
	chance := rand.New(rand.NewSource(4))
	for range 200 {
		list = append(list, impl.Costs{
			Base: 1 + chance.Intn(20),
			Mul:  chance.Intn(51),
			Mem:  chance.Intn(51),
			Miss: chance.Intn(51),
			Walk: chance.Intn(51),
			Trap: chance.Intn(51),
			Line: chance.Intn(51),
		})
	}
	return list
}

// wrongCosts have each one cost past one of its limits, by one and by far.
func wrongCosts() []impl.Costs {
	list := []impl.Costs{{}}
	for _, n := range []int{0, 21, -1, 50, 51, math.MaxInt, math.MinInt, 1<<32 + 1} {
		list = append(list, withCost(apart(), "Base", n), impl.Costs{Base: n})
	}
	for _, name := range costNames() {
		for _, n := range []int{-1, 51, -50, 52, math.MaxInt, math.MinInt, 1 << 32} {
			list = append(list, withCost(apart(), name, n), withCost(impl.Costs{Base: 20}, name, n))
		}
	}
	return list
}

func allAccesses() []impl.Access {
	return []impl.Access{
		{},
		{Back: true},
		{Known: true},
		{Known: true, Back: true},
		{Cached: true},
		{Cached: true, Back: true},
		{Cached: true, Known: true},
		{Cached: true, Known: true, Back: true},
	}
}

// opCostByHand goes by the names of the ops, as the document tells them.
func opCostByHand(c impl.Costs, op int) int {
	if op < 0 || op >= 33 {
		return -1
	}
	switch opRows()[op].name {
	case "mul", "div":
		return c.Base + c.Mul
	case "lw", "sw", "lb", "sb":
		return c.Base + c.Mem
	case "send", "recv", "rdev", "csrr", "csrw", "iret", "yield", "trap":
		return c.Base + c.Trap
	}
	return c.Base
}

func accessCostByHand(c impl.Costs, a impl.Access) int {
	miss, walk, line := c.Miss, c.Walk, 0
	if a.Cached {
		miss = 0
	}
	if a.Known {
		walk = 0
	}
	if a.Back {
		line = c.Line
	}
	return miss + walk + line
}

func TestCostsOkAtItsLimits(t *testing.T) {
	for _, c := range someCosts() {
		if !impl.CostsOk(c) {
			t.Errorf("not CostsOk(%+v)", c)
		}
	}
	for n, want := range map[int]bool{0: false, 1: true, 2: true, 19: true, 20: true, 21: false} {
		if got := impl.CostsOk(withCost(apart(), "Base", n)); got != want {
			t.Errorf("Base %d: CostsOk = %v", n, got)
		}
	}
	for _, name := range costNames() {
		for n, want := range map[int]bool{-1: false, 0: true, 1: true, 49: true, 50: true, 51: false} {
			if got := impl.CostsOk(withCost(apart(), name, n)); got != want {
				t.Errorf("%s %d: CostsOk = %v", name, n, got)
			}
			if got := impl.CostsOk(withCost(impl.Costs{Base: 1}, name, n)); got != want {
				t.Errorf("%s %d and nothing else: CostsOk = %v", name, n, got)
			}
		}
	}
}

func TestWrongCostsAreRefused(t *testing.T) {
	for _, c := range wrongCosts() {
		if impl.CostsOk(c) {
			t.Errorf("CostsOk(%+v)", c)
		}
		for op := -1; op <= impl.OpCount; op++ {
			if n := impl.OpCost(c, op); n != -1 {
				t.Errorf("OpCost(%+v, %d) = %d", c, op, n)
			}
		}
		for _, a := range allAccesses() {
			if n := impl.AccessCost(c, a); n != -1 {
				t.Errorf("AccessCost(%+v, %+v) = %d", c, a, n)
			}
		}
		if n := impl.WorstAccess(c); n != -1 {
			t.Errorf("WorstAccess(%+v) = %d", c, n)
		}
		if n := impl.WorstStep(c); n != -1 {
			t.Errorf("WorstStep(%+v) = %d", c, n)
		}
	}
}

func TestOpCostOfEachOp(t *testing.T) {
	for _, c := range someCosts() {
		for op := -1; op <= impl.OpCount; op++ {
			if got, want := impl.OpCost(c, op), opCostByHand(c, op); got != want {
				t.Errorf("OpCost(%+v, %d) = %d, not %d", c, op, got, want)
			}
		}
	}
}

// Of costs of which one alone is above 0, just the ops of that cost pay it.
func TestOpCostTellsOpsApart(t *testing.T) {
	payers := map[string][]int{
		"Mul":  {impl.OpMul, impl.OpDiv},
		"Mem":  {impl.OpLw, impl.OpSw, impl.OpLb, impl.OpSb},
		"Trap": {impl.OpSend, impl.OpRecv, impl.OpRdev, impl.OpCsrr, impl.OpCsrw, impl.OpIret, impl.OpYield, impl.OpTrap},
		"Miss": {},
		"Walk": {},
		"Line": {},
	}
	for name, ops := range payers {
		want := [33]int{}
		for op := range want {
			want[op] = 3
		}
		for _, op := range ops {
			want[op] = 10
		}
		c := withCost(impl.Costs{Base: 3}, name, 7)
		for op := range want {
			if got := impl.OpCost(c, op); got != want[op] {
				t.Errorf("%s alone: OpCost of %s = %d, not %d", name, impl.OpName(op), got, want[op])
			}
		}
	}
}

func TestOpCostOfNoOp(t *testing.T) {
	for _, op := range noOps() {
		for _, c := range []impl.Costs{apart(), {Base: 1}, {}} {
			if n := impl.OpCost(c, op); n != -1 {
				t.Errorf("OpCost(%+v, %d) = %d", c, op, n)
			}
		}
	}
}

func TestAccessCostOfAllEight(t *testing.T) {
	for _, c := range someCosts() {
		for _, a := range allAccesses() {
			if got, want := impl.AccessCost(c, a), accessCostByHand(c, a); got != want {
				t.Errorf("AccessCost(%+v, %+v) = %d, not %d", c, a, got, want)
			}
		}
	}
}

// Of costs of which one alone is above 0, the accesses that pay it are told one by one, in the order of allAccesses.
func TestAccessCostTellsCostsApart(t *testing.T) {
	payers := map[string][8]int{
		"Miss": {50, 50, 50, 50, 0, 0, 0, 0},
		"Walk": {50, 50, 0, 0, 50, 50, 0, 0},
		"Line": {0, 50, 0, 50, 0, 50, 0, 50},
		"Mul":  {},
		"Mem":  {},
		"Trap": {},
	}
	for name, want := range payers {
		c := withCost(impl.Costs{Base: 20}, name, 50)
		for place, a := range allAccesses() {
			if got := impl.AccessCost(c, a); got != want[place] {
				t.Errorf("%s alone: AccessCost of %+v = %d, not %d", name, a, got, want[place])
			}
		}
	}
}

func TestWorstAccessIsTheGreatest(t *testing.T) {
	for _, c := range someCosts() {
		worst := impl.WorstAccess(c)
		met := false
		for _, a := range allAccesses() {
			n := impl.AccessCost(c, a)
			if n > worst {
				t.Errorf("AccessCost(%+v, %+v) = %d, WorstAccess %d", c, a, n, worst)
			}
			met = met || n == worst
		}
		if !met {
			t.Errorf("WorstAccess(%+v) = %d, which no access costs", c, worst)
		}
	}
}

// Promise 4.
func TestWorstStepIsTheGreatest(t *testing.T) {
	for _, c := range someCosts() {
		worst := impl.WorstStep(c)
		met := false
		for op := range impl.OpCount {
			for _, first := range allAccesses() {
				for _, second := range allAccesses() {
					n := impl.OpCost(c, op) + impl.AccessCost(c, first) + impl.AccessCost(c, second) + c.Trap
					if n > worst {
						t.Errorf("%+v: op %d with %+v, %+v and a trap costs %d, WorstStep %d", c, op, first, second, n, worst)
					}
					met = met || n == worst
				}
			}
		}
		if !met {
			t.Errorf("WorstStep(%+v) = %d, which no step costs", c, worst)
		}
	}
}

func TestWorstByHand(t *testing.T) {
	cases := []struct {
		costs  impl.Costs
		access int
		step   int
	}{
		{impl.Costs{Base: 1}, 0, 1},
		{impl.Costs{Base: 20}, 0, 20},
		{impl.Costs{Base: 20, Mul: 50, Mem: 50, Miss: 50, Walk: 50, Trap: 50, Line: 50}, 150, 420},
		{impl.Costs{Base: 2, Mul: 9, Mem: 4, Trap: 3}, 0, 14},
		{impl.Costs{Base: 2, Mul: 4, Mem: 9, Trap: 3}, 0, 14},
		{impl.Costs{Base: 2, Mul: 4, Mem: 3, Trap: 9}, 0, 20},
		{impl.Costs{Base: 1, Mul: 7}, 0, 8},
		{impl.Costs{Base: 1, Mem: 7}, 0, 8},
		{impl.Costs{Base: 1, Trap: 7}, 0, 15},
		{impl.Costs{Base: 1, Miss: 7}, 7, 15},
		{impl.Costs{Base: 1, Walk: 7}, 7, 15},
		{impl.Costs{Base: 1, Line: 7}, 7, 15},
		{apart(), 126, 358},
	}
	for _, one := range cases {
		if n := impl.WorstAccess(one.costs); n != one.access {
			t.Errorf("WorstAccess(%+v) = %d, not %d", one.costs, n, one.access)
		}
		if n := impl.WorstStep(one.costs); n != one.step {
			t.Errorf("WorstStep(%+v) = %d, not %d", one.costs, n, one.step)
		}
	}
}

// Promise 26: costs come in by value, so what is left to ask is that a second call answers as the first.
func TestCostsAnswerTwiceAlike(t *testing.T) {
	for _, c := range append(someCosts(), wrongCosts()...) {
		before := c
		step, access, op := impl.WorstStep(c), impl.WorstAccess(c), impl.OpCost(c, impl.OpTrap)
		impl.WorstStep(apart())
		if impl.WorstStep(c) != step || impl.WorstAccess(c) != access || impl.OpCost(c, impl.OpTrap) != op || c != before {
			t.Errorf("%+v answers twice and not alike", c)
		}
	}
}
