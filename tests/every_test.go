package tests

import (
	"cmp"
	"fmt"
	"go/ast"
	"go/parser"
	"go/token"
	"maps"
	"path/filepath"
	"reflect"
	"runtime"
	"slices"
	"testing"
	"time"

	"loop.example/g00076/impl"
)

// function is one of the program's, with the names of its parameters.
type function struct {
	name   string
	call   reflect.Value
	params []string
}

// everyCall has each function of the document's 24 chapters.
func everyCall() []any {
	return []any{
		impl.AddWord, impl.SextWord, impl.SarWord, impl.RotWord, impl.LessWord, impl.BytesOf, impl.WordOf, impl.FoldWords, impl.HexWord, impl.WordHex, impl.DecText, impl.DecNum,
		impl.FormOf, impl.InstrOk, impl.Encode, impl.Decode, impl.OpName, impl.OpOf, impl.Writes, impl.Reads,
		impl.LabelOk, impl.ReadLine, impl.Assemble, impl.ShowInstr, impl.ShowWord, impl.Disassemble, impl.LabelsOf,
		impl.CostsOk, impl.OpCost, impl.AccessCost, impl.WorstAccess, impl.WorstStep,
		impl.ShapeOk, impl.CacheEmpty, impl.CacheOk, impl.CacheUse, impl.CacheFlush, impl.CacheLines, impl.CacheHolds, impl.WorstDirty, impl.CacheRun,
		impl.TlbOk, impl.TlbEmpty, impl.TlbUse, impl.TlbHolds, impl.TlbRun,
		impl.WindowOk, impl.Apart, impl.WindowsOk, impl.WindowAt, impl.FaultAt, impl.Reach, impl.Kept,
		impl.GuestOk, impl.GuestNew, impl.RegSet, impl.Peek, impl.Fetch, impl.Poke, impl.Alu, impl.Taken, impl.CoreStep,
		impl.CsrRead, impl.CsrWrite, impl.Due, impl.Enter, impl.Leave, impl.Hold,
		impl.PolicyOk, impl.HealthOk, impl.OnFault, impl.Operator, impl.HealthRun,
		impl.ChanOk, impl.OutOk, impl.InOk, impl.Room, impl.SendOn, impl.RecvOn, impl.Border, impl.Discard, impl.ChanPlay,
		impl.DevOk, impl.DevInput, impl.DevOpen, impl.DevRead, impl.DevPlay,
		impl.NameOk, impl.WorstPad, impl.Sound, impl.PartNamed, impl.ShareOf, impl.GapOf, impl.OwnerOf,
		impl.PermText, impl.PermOf, impl.ParseConf, impl.PrintConf,
		impl.SlotAt, impl.PhaseAt, impl.HolderAt, impl.MayBegin, impl.FrameOf, impl.NextSwitch, impl.CyclesOf, impl.SlotStarts,
		impl.SwitchWork, impl.WorkSum, impl.Carries, impl.Spare,
		impl.ImageOk, impl.PartBoot, impl.PartOk, impl.PartSlot, impl.PartRestart, impl.PartInput, impl.PartStep,
		impl.FeedOk, impl.Solo, impl.Retired, impl.BusyOf, impl.InSlots,
		impl.ImagesOk, impl.Play, impl.ClockAfter,
		impl.Joined, impl.Influence, impl.CmdsFor, impl.SameFor, impl.FirstDiff, impl.Quiet,
		impl.ParseScript, impl.PrintScript,
		impl.LoadImage, impl.EventText, impl.EventOf, impl.Report, impl.Session,
		impl.Plan, impl.Split, impl.Merge, impl.Latency, impl.Even,
		impl.Spans, impl.SpanSum, impl.SpansOk, impl.Blame,
	}
}

// paramNames reads the names of the functions and of their parameters out of the program.
func paramNames(t *testing.T) map[string][]string {
	t.Helper()
	files, err := filepath.Glob("../impl/*.go")
	if err != nil || len(files) != 24 {
		t.Fatal(err, files)
	}
	names := map[string][]string{}
	for _, path := range files {
		file, err := parser.ParseFile(token.NewFileSet(), path, nil, parser.SkipObjectResolution)
		if err != nil {
			t.Fatal(err)
		}
		for _, decl := range file.Decls {
			f, is := decl.(*ast.FuncDecl)
			if !is || f.Recv != nil || !f.Name.IsExported() {
				continue
			}
			names[f.Name.Name] = []string{}
			for _, field := range f.Type.Params.List {
				for _, name := range field.Names {
					names[f.Name.Name] = append(names[f.Name.Name], name.Name)
				}
			}
		}
	}
	return names
}

// everyFunction fails when one of the program's is not among them.
func everyFunction(t *testing.T) []function {
	t.Helper()
	names, list := paramNames(t), []function{}
	for _, call := range everyCall() {
		v := reflect.ValueOf(call)
		long := runtime.FuncForPC(v.Pointer()).Name()
		name := long[len("loop.example/g00076/impl."):]
		if len(names[name]) != v.Type().NumIn() || v.Type().NumIn() == 0 {
			t.Fatal("other parameters:", name)
		}
		list = append(list, function{name, v, names[name]})
		delete(names, name)
	}
	if len(names) > 0 {
		t.Fatal("not asked:", slices.Sorted(maps.Keys(names)))
	}
	return list
}

// digest hangs on all that values have up to the ends of their lists; with isWhole up to their capacities too, and on those.
func digest(isWhole bool, list ...reflect.Value) uint64 {
	sum := uint64(14695981039346656037)
	for _, v := range list {
		sum = folded(sum, v, isWhole)
	}
	return sum
}

func folded(sum uint64, v reflect.Value, isWhole bool) uint64 {
	one := uint64(0)
	switch v.Kind() {
	case reflect.Bool:
		if v.Bool() {
			one = 1
		}
	case reflect.Int:
		one = uint64(v.Int())
	case reflect.Uint8, reflect.Uint32:
		one = v.Uint()
	case reflect.String:
		one = uint64(v.Len())
		for n := range v.Len() {
			sum = (sum ^ uint64(v.String()[n])) * 1099511628211
		}
	case reflect.Struct:
		for n := range v.NumField() {
			sum = folded(sum, v.Field(n), isWhole)
		}
	case reflect.Slice:
		one = uint64(v.Len())
		if isWhole {
			sum = (sum ^ one) * 1099511628211
			one = uint64(v.Cap())
			v = v.Slice(0, v.Cap())
		}
		for n := range v.Len() {
			sum = folded(sum, v.Index(n), isWhole)
		}
	default:
		panic("no digest of " + v.Type().String())
	}
	// The turn keeps what stands high from being lost.
	sum = (sum ^ one) * 1099511628211
	return sum<<23 | sum>>41
}

// memory is where the bytes of one list lie, up to its capacity.
type memory struct {
	from     uintptr
	to       uintptr
	isAnswer bool
}

func memoriesOf(v reflect.Value, isAnswer bool, list []memory) []memory {
	switch v.Kind() {
	case reflect.Struct:
		for n := range v.NumField() {
			list = memoriesOf(v.Field(n), isAnswer, list)
		}
	case reflect.Slice:
		if v.Cap() == 0 {
			return list
		}
		list = append(list, memory{v.Pointer(), v.Pointer() + uintptr(v.Cap())*v.Type().Elem().Size(), isAnswer})
		if isList(v.Type().Elem()) {
			whole := v.Slice(0, v.Cap())
			for n := range whole.Len() {
				list = memoriesOf(whole.Index(n), isAnswer, list)
			}
		}
	}
	return list
}

// areApart is whether no list of an answer shares memory with another list; arguments may share theirs.
func areApart(list []memory) bool {
	slices.SortFunc(list, func(a memory, b memory) int {
		return cmp.Or(cmp.Compare(a.from, b.from), cmp.Compare(a.to, b.to))
	})
	for n := 1; n < len(list); n++ {
		if list[n].from < list[n-1].to && (list[n].isAnswer || list[n-1].isAnswer) {
			return false
		}
	}
	return true
}

// writeOver writes over all that the lists of a value have, up to their capacities.
func writeOver(v reflect.Value) {
	switch v.Kind() {
	case reflect.Struct:
		for n := range v.NumField() {
			writeOver(v.Field(n))
		}
	case reflect.Slice:
		whole := v.Slice(0, v.Cap())
		for n := range whole.Len() {
			writeOver(whole.Index(n))
			turnOver(whole.Index(n))
		}
	}
}

// turnOver makes another number, text or flag of what stands in a list.
func turnOver(v reflect.Value) {
	switch v.Kind() {
	case reflect.Struct:
		for n := range v.NumField() {
			turnOver(v.Field(n))
		}
	case reflect.Bool:
		v.SetBool(!v.Bool())
	case reflect.Int:
		v.SetInt(^v.Int())
	case reflect.Uint8, reflect.Uint32:
		v.SetUint(^v.Uint() & (1<<v.Type().Bits() - 1))
	case reflect.String:
		v.SetString(v.String() + "over")
	}
}

func shownValues(list []reflect.Value) string {
	values := []any{}
	for _, v := range list {
		values = append(values, v.Interface())
	}
	return fmt.Sprintf("%+v", values)
}

// called fails when the function panics.
func (f function) called(t *testing.T, list []reflect.Value) []reflect.Value {
	t.Helper()
	defer func() {
		if told := recover(); told != nil {
			t.Fatalf("%s panics: %v, at %.2000s", f.name, told, shownValues(list))
		}
	}()
	return f.call.Call(list)
}

// wantAnswer asks twice: what is handed in stays as it is, up to its capacity, and shares no memory with an answer; both answers are the same, though there is room behind the lists of the first arguments, and though all of the first answer is written over.
func (s *scene) wantAnswer(t *testing.T, f function) []reflect.Value {
	t.Helper()
	list := s.arguments(f)
	given := s.roomy(list)
	before := digest(true, given...)
	first := f.called(t, given)
	told, lists := digest(false, first...), []memory{}
	if digest(true, given...) != before {
		t.Fatalf("%s writes into what is handed in: %.2000s", f.name, shownValues(list))
	}
	for _, v := range given {
		lists = memoriesOf(v, false, lists)
	}
	for _, v := range first {
		lists = memoriesOf(v, true, lists)
		writeOver(v)
	}
	plain := []reflect.Value{}
	for _, v := range list {
		plain = append(plain, s.copyOf(v, 0))
	}
	second := f.called(t, plain)
	for _, v := range second {
		lists = memoriesOf(v, true, lists)
	}
	if digest(false, second...) != told {
		t.Fatalf("%s answers another thing when it is asked again: %.2000s", f.name, shownValues(list))
	}
	if !areApart(lists) {
		t.Fatalf("%s answers with memory of another list: %.2000s", f.name, shownValues(list))
	}
	// The lists must not have been given back while the places of their memory were held against each other.
	runtime.KeepAlive(given)
	runtime.KeepAlive(first)
	return second
}

// answerCounts has how often each answer of a function came, and how often one that ends with true or with false.
type answerCounts struct {
	answers map[uint64]int
	flags   map[bool]int
}

func (a answerCounts) add(answer []reflect.Value) {
	a.answers[digest(false, answer...)]++
	if last := answer[len(answer)-1]; last.Kind() == reflect.Bool {
		a.flags[last.Bool()]++
	}
}

// Promise 26 of all functions: at any arguments each answers, writes into nothing, and shares no memory with anything.
func TestEveryFunctionAnswersAndWritesIntoNothing(t *testing.T) {
	before, all := runtime.NumGoroutine(), everyFunction(t)
	counts := map[string]answerCounts{}
	for _, f := range all {
		counts[f.name] = answerCounts{map[uint64]int{}, map[bool]int{}}
	}
	for seed := range int64(24) {
		s := newScene(t, 2600+seed)
		for range 24 {
			for _, f := range all {
				answer := s.wantAnswer(t, f)
				counts[f.name].add(answer)
				for _, v := range answer {
					s.keep(v)
				}
			}
		}
	}
	for _, f := range all {
		c := counts[f.name]
		isFlag := f.call.Type().Out(f.call.Type().NumOut()-1).Kind() == reflect.Bool
		if len(c.answers) < 2 || isFlag && (c.flags[true] < 5 || c.flags[false] < 5) {
			t.Errorf("%s answers too seldom otherwise: %d answers, flags %v", f.name, len(c.answers), c.flags)
		}
	}
	for n := 0; n < 200 && runtime.NumGoroutine() > before; n++ {
		time.Sleep(10 * time.Millisecond)
	}
	wantNumber(t, "how many goroutines are left behind", max(runtime.NumGoroutine()-before, 0), 0)
}
