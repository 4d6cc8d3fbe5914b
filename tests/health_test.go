package tests

import (
	"math"
	"math/rand"
	"slices"
	"testing"

	"loop.example/g00076/impl"
)

// someKinds are the three kinds, what stands beside them, and numbers that a narrowing would make one.
func someKinds() []int {
	return append(oddInts(), -3, -2, -1, 0, 1, 2, 3, 4, 1<<8+1, 1<<16+1, 1<<32+2, -1<<32+1, math.MaxInt-1)
}

func someMosts() []int {
	return append(oddInts(), -100, -2, -1, 0, 1, 2, 3, 50, 99, 100, 101, 102, 200, 1<<8+1, 1<<16+1, 1<<32+100, -1<<32+1, math.MaxInt-1)
}

// someCounts are the ends of what Faults and Restarts may be, what stands beside them, and numbers that a narrowing would bring there.
func someCounts() []int {
	return append(oddInts(), -2, -1, 0, 1, 2, 99, 100, 101, 999999999, 1000000000, 1000000001, 1<<31-1, 1<<32-1, 1<<32+1000000000, -1<<32+5)
}

func someFaults() []int {
	list := append(oddInts(), 1<<8+3, 1<<16+9, 1<<32+3, -1<<32+9, math.MaxInt-1)
	for fault := -10; fault <= 20; fault++ {
		list = append(list, fault)
	}
	return list
}

func wrongFaults() []int {
	return slices.DeleteFunc(someFaults(), func(fault int) bool { return fault >= 1 && fault <= 9 })
}

// rightPolicies are written out one by one, so that none hangs on PolicyOk.
func rightPolicies() []impl.Policy {
	list := []impl.Policy{{Kind: 0}, {Kind: 2}}
	for most := range 101 {
		list = append(list, impl.Policy{Kind: 1, Most: most})
	}
	return list
}

func wrongPolicies() []impl.Policy {
	list := []impl.Policy{}
	for _, kind := range someKinds() {
		for _, most := range someMosts() {
			if p := (impl.Policy{Kind: kind, Most: most}); !slices.Contains(rightPolicies(), p) {
				list = append(list, p)
			}
		}
	}
	return list
}

func rightHealths() []impl.Health {
	list := []impl.Health{}
	for _, faults := range []int{0, 1, 7, 500, 999999998, 999999999, 1000000000} {
		for _, restarts := range []int{0, 1, 2, 3, 49, 50, 51, 99, 100, 101, 999999999, 1000000000} {
			for _, last := range []int{0, 1, 5, 9} {
				h := impl.Health{Faults: faults, Restarts: restarts, Last: last}
				list = append(list, h)
				h.Halted = true
				list = append(list, h)
			}
		}
	}
	return list
}

// wrongHealths have one wrong number each, halted and not, or all three.
func wrongHealths() []impl.Health {
	list := []impl.Health{}
	for _, n := range append(oddInts(), -1, -2, 1000000001, 1000000002) {
		if n >= 0 && n <= 1000000000 {
			continue
		}
		list = append(list, impl.Health{Faults: n, Restarts: 2, Last: 3}, impl.Health{Faults: 4, Restarts: n, Last: 3})
	}
	for _, n := range append(oddInts(), -1, -2, -9, 10, 11, 1<<8+9, 1<<32+9) {
		list = append(list, impl.Health{Faults: 4, Restarts: 2, Last: n}, impl.Health{Faults: -1, Restarts: 1000000001, Last: n})
	}
	for _, h := range slices.Clone(list) {
		h.Halted = true
		list = append(list, h)
	}
	return list
}

// onFaultByHand is for a right policy and a right Health alone.
func onFaultByHand(p impl.Policy, h impl.Health, fault int) (impl.Health, int) {
	if h.Halted || !slices.Contains([]int{1, 2, 3, 4, 5, 6, 7, 8, 9}, fault) {
		return h, 0
	}
	after := impl.Health{Faults: 1000000000, Restarts: h.Restarts, Last: fault}
	if h.Faults != 1000000000 {
		after.Faults = h.Faults + 1
	}
	left := p.Most - h.Restarts
	switch {
	case p.Kind == 2:
		return after, 3
	case p.Kind == 1 && left > 0:
		after.Restarts = h.Restarts + 1
		return after, 2
	}
	after.Halted = true
	return after, 1
}

func healthRunByHand(p impl.Policy, faults []int) (impl.Health, []int) {
	h, acts := impl.Health{}, []int{}
	for _, fault := range faults {
		after, act := onFaultByHand(p, h, fault)
		h, acts = after, append(acts, act)
	}
	return h, acts
}

func wantOnFault(t *testing.T, p impl.Policy, h impl.Health, fault int, after impl.Health, act int) {
	t.Helper()
	gotAfter, gotAct := impl.OnFault(p, h, fault)
	if gotAfter != after || gotAct != act {
		t.Errorf("OnFault(%v, %v, %d) = %v, %d, not %v, %d", p, h, fault, gotAfter, gotAct, after, act)
	}
}

func wantHealthRun(t *testing.T, p impl.Policy, faults []int, after impl.Health, acts []int) {
	t.Helper()
	gotAfter, gotActs := impl.HealthRun(p, faults)
	if gotAfter != after || !slices.Equal(gotActs, acts) {
		t.Errorf("HealthRun(%v, %d faults) = %v, %v, not %v, %v", p, len(faults), gotAfter, gotActs, after, acts)
	}
}

func drawnFaults(chance *rand.Rand, count int) []int {
	wrong, list := wrongFaults(), []int{}
	for range count {
		fault := 1 + chance.Intn(9)
		if chance.Intn(3) == 0 {
			fault = wrong[chance.Intn(len(wrong))]
		}
		list = append(list, fault)
	}
	return list
}

func rightOnes(faults []int) int {
	count := 0
	for _, fault := range faults {
		if fault >= 1 && fault <= 9 {
			count++
		}
	}
	return count
}

func countActs(acts []int, act int) int {
	count := 0
	for _, x := range acts {
		if x == act {
			count++
		}
	}
	return count
}

func repeated(fault int, count int) []int {
	return slices.Repeat([]int{fault}, count)
}

// wantCounted asks of one run what promise 10 and the counts of Health say.
func wantCounted(t *testing.T, p impl.Policy, faults []int) {
	t.Helper()
	h, acts := impl.HealthRun(p, faults)
	if len(acts) != len(faults) {
		t.Fatalf("%v: %d acts for %d faults", p, len(acts), len(faults))
	}
	restarts, halts, skips := countActs(acts, impl.ActRestart), countActs(acts, impl.ActHalt), countActs(acts, impl.ActSkip)
	if h.Restarts != restarts || restarts > p.Most {
		t.Errorf("%v: %d restarts in the acts, %d counted", p, restarts, h.Restarts)
	}
	if h.Faults != restarts+halts+skips || h.Faults > rightOnes(faults) {
		t.Errorf("%v: %d acts, %d faults counted", p, restarts+halts+skips, h.Faults)
	}
	if halts > 1 || h.Halted != (halts == 1) {
		t.Errorf("%v: %d halts, halted %v", p, halts, h.Halted)
	}
	if p.Kind == impl.PolicySkip && (h.Halted || skips != rightOnes(faults)) {
		t.Errorf("a skipping guest: halted %v, %d skips for %d faults", h.Halted, skips, rightOnes(faults))
	}
	if at := slices.Index(acts, impl.ActHalt); at >= 0 {
		wantStill(t, p, faults, at)
	}
}

// wantStill asks that behind the halt at a place no act is done and Health stays what the halt left.
func wantStill(t *testing.T, p impl.Policy, faults []int, at int) {
	t.Helper()
	h, acts := impl.HealthRun(p, faults)
	upTo, _ := impl.HealthRun(p, faults[:at+1])
	if h != upTo || countActs(acts[at+1:], impl.ActNone) != len(faults)-at-1 {
		t.Errorf("%v: behind the halt at %d: %v, not %v, acts %v", p, at, h, upTo, acts[at+1:])
	}
}

func TestHealthConstants(t *testing.T) {
	got := []int{impl.PolicyHalt, impl.PolicyRestart, impl.PolicySkip, impl.ActNone, impl.ActHalt, impl.ActRestart, impl.ActSkip, impl.MaxRestarts, impl.MaxFaults, impl.MaxRun}
	want := []int{0, 1, 2, 0, 1, 2, 3, 100, 1000000000, 1000}
	if !slices.Equal(got, want) {
		t.Error(got, want)
	}
}

func TestPoliciesOfEachKindWithEachMost(t *testing.T) {
	right := 0
	for _, kind := range someKinds() {
		for _, most := range someMosts() {
			p := impl.Policy{Kind: kind, Most: most}
			want := (kind == 0 || kind == 2) && most == 0
			for allowed := range 101 {
				want = want || kind == 1 && most == allowed
			}
			if impl.PolicyOk(p) != want {
				t.Errorf("PolicyOk(%v) is not %v", p, want)
			}
			if want {
				right++
			}
		}
	}
	if right < 8 {
		t.Error("too few right policies were asked for:", right)
	}
}

func TestEveryRightPolicy(t *testing.T) {
	for _, p := range rightPolicies() {
		if !impl.PolicyOk(p) {
			t.Errorf("PolicyOk(%v) is false", p)
		}
	}
	if !impl.PolicyOk(impl.Policy{}) {
		t.Error("the zero policy halts, and is right")
	}
}

func TestHealthsThatAreRight(t *testing.T) {
	for _, h := range rightHealths() {
		if !impl.HealthOk(h) {
			t.Errorf("HealthOk(%v) is false", h)
		}
	}
}

func TestHealthsThatAreWrong(t *testing.T) {
	for _, h := range wrongHealths() {
		if impl.HealthOk(h) {
			t.Errorf("HealthOk(%v) is true", h)
		}
	}
}

func TestEachNumberOfAHealth(t *testing.T) {
	for _, faults := range someCounts() {
		for _, restarts := range someCounts() {
			for _, last := range someFaults() {
				want := faults >= 0 && faults <= 1000000000 && restarts >= 0 && restarts <= 1000000000 && last >= 0 && last <= 9
				for _, halted := range []bool{false, true} {
					h := impl.Health{Faults: faults, Restarts: restarts, Last: last, Halted: halted}
					if impl.HealthOk(h) != want {
						t.Fatalf("HealthOk(%v) is not %v", h, want)
					}
				}
			}
		}
	}
}

func TestOnFaultByNumbers(t *testing.T) {
	halt, skip := impl.Policy{Kind: impl.PolicyHalt}, impl.Policy{Kind: impl.PolicySkip}
	restart := impl.Policy{Kind: impl.PolicyRestart, Most: 3}
	h := impl.Health{Faults: 6, Restarts: 2, Last: 4}
	wantOnFault(t, halt, h, 1, impl.Health{Faults: 7, Restarts: 2, Last: 1, Halted: true}, impl.ActHalt)
	wantOnFault(t, restart, h, 9, impl.Health{Faults: 7, Restarts: 3, Last: 9}, impl.ActRestart)
	wantOnFault(t, skip, h, 5, impl.Health{Faults: 7, Restarts: 2, Last: 5}, impl.ActSkip)
	h.Restarts = 3
	wantOnFault(t, restart, h, 9, impl.Health{Faults: 7, Restarts: 3, Last: 9, Halted: true}, impl.ActHalt)
	h.Restarts = 4
	wantOnFault(t, restart, h, 9, impl.Health{Faults: 7, Restarts: 4, Last: 9, Halted: true}, impl.ActHalt)
}

func TestOnFaultWhereMostIsNought(t *testing.T) {
	p := impl.Policy{Kind: impl.PolicyRestart}
	wantOnFault(t, p, impl.Health{}, 6, impl.Health{Faults: 1, Last: 6, Halted: true}, impl.ActHalt)
	wantOnFault(t, p, impl.Health{Restarts: 1}, 6, impl.Health{Faults: 1, Restarts: 1, Last: 6, Halted: true}, impl.ActHalt)
}

func TestOnFaultAtMostRestarts(t *testing.T) {
	p := impl.Policy{Kind: impl.PolicyRestart, Most: impl.MaxRestarts}
	wantOnFault(t, p, impl.Health{Faults: 99, Restarts: 99}, 2, impl.Health{Faults: 100, Restarts: 100, Last: 2}, impl.ActRestart)
	wantOnFault(t, p, impl.Health{Faults: 100, Restarts: 100}, 2, impl.Health{Faults: 101, Restarts: 100, Last: 2, Halted: true}, impl.ActHalt)
	wantOnFault(t, p, impl.Health{Faults: 7, Restarts: impl.MaxFaults}, 2, impl.Health{Faults: 8, Restarts: impl.MaxFaults, Last: 2, Halted: true}, impl.ActHalt)
}

// The count of faults stays at its limit, and what else is done is done there too.
func TestOnFaultAroundMaxFaults(t *testing.T) {
	halt, skip := impl.Policy{Kind: impl.PolicyHalt}, impl.Policy{Kind: impl.PolicySkip}
	restart := impl.Policy{Kind: impl.PolicyRestart, Most: 5}
	for _, faults := range []int{999999999, 1000000000} {
		h := impl.Health{Faults: faults, Restarts: 4, Last: 1}
		wantOnFault(t, halt, h, 8, impl.Health{Faults: 1000000000, Restarts: 4, Last: 8, Halted: true}, impl.ActHalt)
		wantOnFault(t, restart, h, 8, impl.Health{Faults: 1000000000, Restarts: 5, Last: 8}, impl.ActRestart)
		wantOnFault(t, skip, h, 8, impl.Health{Faults: 1000000000, Restarts: 4, Last: 8}, impl.ActSkip)
	}
	wantOnFault(t, skip, impl.Health{Faults: 999999998}, 8, impl.Health{Faults: 999999999, Last: 8}, impl.ActSkip)
	wantOnFault(t, skip, impl.Health{Restarts: 1000000000}, 8, impl.Health{Faults: 1, Restarts: 1000000000, Last: 8}, impl.ActSkip)
}

func TestOnFaultAsByHand(t *testing.T) {
	for _, p := range rightPolicies() {
		for _, h := range rightHealths() {
			for _, fault := range someFaults() {
				after, act := onFaultByHand(p, h, fault)
				wantOnFault(t, p, h, fault, after, act)
			}
		}
	}
}

func TestFaultsThatAreNone(t *testing.T) {
	for _, p := range []impl.Policy{{Kind: 0}, {Kind: 1, Most: 3}, {Kind: 2}} {
		h := impl.Health{Faults: 3, Restarts: 1, Last: 7}
		for _, fault := range wrongFaults() {
			wantOnFault(t, p, h, fault, h, impl.ActNone)
		}
	}
}

func TestWrongPoliciesDoNothing(t *testing.T) {
	for _, p := range wrongPolicies() {
		for _, h := range []impl.Health{{}, {Faults: 3, Restarts: 1, Last: 7}, {Faults: 3, Last: 7, Halted: true}, {Faults: -1, Last: 10}} {
			for _, fault := range []int{0, 1, 9, 10} {
				wantOnFault(t, p, h, fault, h, impl.ActNone)
			}
		}
	}
}

func TestWrongHealthsStayAsTheyAre(t *testing.T) {
	for _, h := range wrongHealths() {
		for _, p := range []impl.Policy{{Kind: 0}, {Kind: 1, Most: 100}, {Kind: 2}, {Kind: 3}} {
			for _, fault := range []int{math.MinInt, -1, 0, 1, 9, 10, math.MaxInt} {
				wantOnFault(t, p, h, fault, h, impl.ActNone)
			}
		}
	}
}

func TestAHaltedGuestStaysAsItIs(t *testing.T) {
	for _, h := range rightHealths() {
		h.Halted = true
		for _, p := range rightPolicies() {
			wantOnFault(t, p, h, 4, h, impl.ActNone)
		}
	}
}

func TestOperatorKeepsCounts(t *testing.T) {
	for _, h := range rightHealths() {
		if got, want := impl.Operator(h), (impl.Health{Faults: h.Faults, Restarts: h.Restarts}); got != want {
			t.Errorf("Operator(%v) = %v, not %v", h, got, want)
		}
	}
}

func TestOperatorOfWrongHealths(t *testing.T) {
	for _, h := range wrongHealths() {
		if got := impl.Operator(h); got != (impl.Health{}) {
			t.Errorf("Operator(%v) = %v", h, got)
		}
	}
}

// A restart by hand wakes the guest, but gives back none of the restarts by policy.
func TestOperatorGivesNoRestartsBack(t *testing.T) {
	p := impl.Policy{Kind: impl.PolicyRestart, Most: 2}
	h, _ := impl.HealthRun(p, []int{1, 2, 3, 4})
	h = impl.Operator(h)
	if h != (impl.Health{Faults: 3, Restarts: 2}) {
		t.Error("by hand", h)
	}
	wantOnFault(t, p, h, 5, impl.Health{Faults: 4, Restarts: 2, Last: 5, Halted: true}, impl.ActHalt)
}

func TestHealthRunByNumbers(t *testing.T) {
	halt, skip := impl.Policy{Kind: impl.PolicyHalt}, impl.Policy{Kind: impl.PolicySkip}
	faults := []int{0, 3, 10, 5, -1, 9, 1}
	wantHealthRun(t, halt, faults, impl.Health{Faults: 1, Last: 3, Halted: true}, []int{0, 1, 0, 0, 0, 0, 0})
	wantHealthRun(t, skip, faults, impl.Health{Faults: 4, Last: 1}, []int{0, 3, 0, 3, 0, 3, 3})
	for most, after := range []impl.Health{
		{Faults: 1, Last: 3, Halted: true},
		{Faults: 2, Restarts: 1, Last: 5, Halted: true},
		{Faults: 3, Restarts: 2, Last: 9, Halted: true},
		{Faults: 4, Restarts: 3, Last: 1, Halted: true},
		{Faults: 4, Restarts: 4, Last: 1},
		{Faults: 4, Restarts: 4, Last: 1},
	} {
		acts := []int{0, 2, 0, 2, 0, 2, 2}
		if at := []int{1, 3, 5, 6, 7, 7}[most]; at < 7 {
			acts[at] = 1
			clear(acts[at+1:])
		}
		wantHealthRun(t, impl.Policy{Kind: impl.PolicyRestart, Most: most}, faults, after, acts)
	}
}

func TestHealthRunsOfNoFaultAndOne(t *testing.T) {
	for _, p := range rightPolicies() {
		wantHealthRun(t, p, nil, impl.Health{}, nil)
		wantHealthRun(t, p, []int{}, impl.Health{}, nil)
		for _, fault := range someFaults() {
			after, act := onFaultByHand(p, impl.Health{}, fault)
			wantHealthRun(t, p, []int{fault}, after, []int{act})
		}
	}
}

func TestHealthRunsAtTheirLimit(t *testing.T) {
	skip, most := impl.Policy{Kind: impl.PolicySkip}, impl.Policy{Kind: impl.PolicyRestart, Most: 100}
	full := repeated(7, 1000)
	wantHealthRun(t, skip, full, impl.Health{Faults: 1000, Last: 7}, repeated(3, 1000))
	wantHealthRun(t, skip, full[1:], impl.Health{Faults: 999, Last: 7}, repeated(3, 999))
	wantHealthRun(t, most, full, impl.Health{Faults: 101, Restarts: 100, Last: 7, Halted: true}, slices.Concat(repeated(2, 100), []int{1}, repeated(0, 899)))
	wantHealthRun(t, skip, repeated(0, 1000), impl.Health{}, repeated(0, 1000))
	for _, count := range []int{1001, 1002, 2000, 1<<16 + 1} {
		for _, p := range rightPolicies() {
			wantHealthRun(t, p, repeated(7, count), impl.Health{}, nil)
			wantHealthRun(t, p, repeated(0, count), impl.Health{}, nil)
		}
	}
}

func TestHealthRunsWithWrongPolicies(t *testing.T) {
	for _, p := range wrongPolicies() {
		for _, count := range []int{0, 1, 5, 1000, 1001} {
			wantHealthRun(t, p, repeated(3, count), impl.Health{}, nil)
		}
	}
}

func TestDrawnHealthRunsAsByHand(t *testing.T) {
	chance := rand.New(rand.NewSource(101))
	for _, p := range rightPolicies() {
		for range 12 {
			faults := drawnFaults(chance, chance.Intn(260))
			after, acts := healthRunByHand(p, faults)
			wantHealthRun(t, p, faults, after, acts)
		}
	}
}

func TestEachActOfARunIsOnFaultsOwn(t *testing.T) {
	chance := rand.New(rand.NewSource(102))
	for _, p := range rightPolicies() {
		faults := drawnFaults(chance, 150)
		after, acts := impl.HealthRun(p, faults)
		h := impl.Health{}
		for at, fault := range faults {
			next, act := impl.OnFault(p, h, fault)
			if act != acts[at] {
				t.Errorf("%v: act %d is %d, not %d", p, at, acts[at], act)
			}
			h = next
		}
		if h != after {
			t.Errorf("%v: %v, not %v", p, after, h)
		}
	}
}

func TestRestartsAreCountedAndNothingIsDoneBehindAHalt(t *testing.T) {
	chance := rand.New(rand.NewSource(103))
	for _, p := range rightPolicies() {
		wantCounted(t, p, nil)
		wantCounted(t, p, repeated(9, impl.MaxRun))
		wantCounted(t, p, repeated(1, p.Most))
		wantCounted(t, p, repeated(1, p.Most+1))
		wantCounted(t, p, repeated(1, p.Most+2))
		for range 8 {
			wantCounted(t, p, drawnFaults(chance, chance.Intn(impl.MaxRun+1)))
		}
	}
}

// Only the last place is Most's own: one fault fewer leaves the guest running.
func TestAGuestIsHaltedJustWhenItsRestartsAreGone(t *testing.T) {
	for most := range impl.MaxRestarts + 1 {
		p := impl.Policy{Kind: impl.PolicyRestart, Most: most}
		if h, _ := impl.HealthRun(p, repeated(5, most)); h.Halted || h.Restarts != most {
			t.Errorf("Most %d: %v", most, h)
		}
		if h, acts := impl.HealthRun(p, repeated(5, most+1)); !h.Halted || h.Restarts != most || acts[most] != impl.ActHalt {
			t.Errorf("Most %d, one more: %v", most, h)
		}
	}
}

func TestFaultsOfARunStayAsTheyWere(t *testing.T) {
	chance := rand.New(rand.NewSource(104))
	for _, p := range append(rightPolicies(), wrongPolicies()[:20]...) {
		for _, count := range []int{0, 1, 40, 1000, 1001} {
			room := drawnFaults(chance, count+7)
			before := slices.Clone(room)
			_, acts := impl.HealthRun(p, room[:count])
			if !slices.Equal(room, before) {
				t.Fatalf("%v: the faults or the room behind them changed", p)
			}
			acts = acts[:cap(acts)]
			for at := range acts {
				acts[at] = -77
			}
			if !slices.Equal(room, before) {
				t.Fatalf("%v: the acts share memory with the faults", p)
			}
		}
	}
}

func TestHealthRunsAnswerTwiceAlike(t *testing.T) {
	p := impl.Policy{Kind: impl.PolicyRestart, Most: 2}
	faults := []int{1, 2, 3, 4}
	_, first := impl.HealthRun(p, faults)
	first[0] = -77
	wantHealthRun(t, p, faults, impl.Health{Faults: 3, Restarts: 2, Last: 3, Halted: true}, []int{2, 2, 1, 0})
}
