package tests

import (
	"fmt"
	"math"
	"math/rand"
	"reflect"
	"slices"
	"strings"
	"testing"

	"loop.example/g00076/impl"
)

// valuesMost is how many values of one type a scene keeps.
const valuesMost = 150

// fitKey is of a parameter: its name, or that of its function, a blank and its name, and its type.
type fitKey struct {
	name string
	kind reflect.Type
}

// scene is what functions are asked with: values by their types, mostly of one system and of what it answers, and what fits a parameter.
type scene struct {
	chance  *rand.Rand
	numbers []int
	texts   []string
	values  map[reflect.Type][]reflect.Value
	fits    map[fitKey][]reflect.Value
}

// keep keeps the parts of a value too, but of a list no more than a few.
func (s *scene) keep(v reflect.Value) {
	list := s.values[v.Type()]
	if len(list) < valuesMost {
		s.values[v.Type()] = append(list, v)
	} else {
		list[s.chance.Intn(len(list))] = v
	}
	switch v.Kind() {
	case reflect.Struct:
		for n := range v.NumField() {
			s.keep(v.Field(n))
		}
	case reflect.Slice:
		for range min(v.Len(), 3) {
			s.keep(v.Index(s.chance.Intn(v.Len())))
		}
	}
}

// fit keeps values for parameters of this name and of their type; with the name of a function and a blank ahead of it, for that function's alone.
func (s *scene) fit(name string, values ...any) {
	for _, value := range values {
		v := reflect.ValueOf(value)
		key := fitKey{name, v.Type()}
		s.fits[key] = append(s.fits[key], v)
		s.keep(v)
	}
}

func (s *scene) fitNumbers(name string, numbers ...int) {
	for _, n := range numbers {
		s.fit(name, n)
	}
}

// wildInts are small ones, those at the limits of the document, and far ones.
func wildInts() []int {
	list := oddInts()
	for n := -3; n <= 40; n++ {
		list = append(list, n)
	}
	for _, limit := range []int{64, 80, 100, 255, 256, 300, 600, 1000, 2000, 2048, 5000, 8191, 8192, 20000, 30000, 50000, 65535, 65536, 100000, 1000000, 1000000000, 4294967295} {
		list = append(list, -limit, limit-1, limit, limit+1)
	}
	return append(list, math.MinInt32, math.MaxInt32)
}

func wildTexts() []string {
	return []string{"", " ", "\n", "\n\n", "a", "ab:", "a b", "nop", "nop\n", "nop \n", "\x00", "\xff\xfe", "é", "0", "-0", "00000000", "+1", "-", "mem 64\n", "run 1\n", "run -1\n", ".word 5\n", "zz 1 2\n", strings.Repeat("x", 20001), strings.Repeat("\n", 601), strings.Repeat("nop\n", 257)}
}

func (s *scene) wildInt() int {
	return s.numbers[s.chance.Intn(len(s.numbers))]
}

func (s *scene) wildText() string {
	if s.chance.Intn(4) > 0 {
		return s.texts[s.chance.Intn(len(s.texts))]
	}
	bytes := make([]byte, s.chance.Intn(12))
	s.chance.Read(bytes)
	return string(bytes)
}

func (s *scene) wildLength() int {
	if s.chance.Intn(40) == 0 {
		return []int{257, 301, 1001, 2001, 5001}[s.chance.Intn(5)]
	}
	return []int{0, 0, 1, 2, 3, 4, 5, 7, 8, 9, 16, 17}[s.chance.Intn(12)]
}

// wild is any value of a type.
func (s *scene) wild(t reflect.Type) reflect.Value {
	v := reflect.New(t).Elem()
	switch t.Kind() {
	case reflect.Bool:
		v.SetBool(s.chance.Intn(2) == 0)
	case reflect.Int:
		v.SetInt(int64(s.wildInt()))
	case reflect.Uint8, reflect.Uint32:
		v.SetUint(uint64(s.wildInt()) & (1<<t.Bits() - 1))
	case reflect.String:
		v.SetString(s.wildText())
	case reflect.Struct:
		for n := range v.NumField() {
			v.Field(n).Set(s.wild(v.Field(n).Type()))
		}
	case reflect.Slice:
		length := s.wildLength()
		if isList(t.Elem()) {
			length = min(length, 9)
		}
		for range length {
			v.Set(reflect.Append(v, s.wild(t.Elem())))
		}
	default:
		panic("no value of " + t.String())
	}
	return v
}

// isList is whether lists lie in values of a type.
func isList(t reflect.Type) bool {
	if t.Kind() == reflect.Struct {
		for n := range t.NumField() {
			if isList(t.Field(n).Type) {
				return true
			}
		}
	}
	return t.Kind() == reflect.Slice
}

// copyOf shares no list with a value; behind each list it has room for so many more, in which other things stand.
func (s *scene) copyOf(v reflect.Value, room int) reflect.Value {
	other := reflect.New(v.Type()).Elem()
	switch v.Kind() {
	case reflect.Struct:
		for n := range v.NumField() {
			other.Field(n).Set(s.copyOf(v.Field(n), room))
		}
	case reflect.Slice:
		whole := reflect.MakeSlice(v.Type(), v.Len()+room, v.Len()+room)
		reflect.Copy(whole, v)
		for n := range whole.Len() {
			if n >= v.Len() {
				whole.Index(n).Set(s.copyOf(s.behind(v), room/2))
			} else if isList(v.Type().Elem()) {
				whole.Index(n).Set(s.copyOf(v.Index(n), room))
			}
		}
		other.Set(whole.Slice(0, v.Len()))
	default:
		other.Set(v)
	}
	return other
}

// behind is what stands in the room behind a list: one more of its own sort, or anything.
func (s *scene) behind(list reflect.Value) reflect.Value {
	if list.Len() > 0 && s.chance.Intn(2) == 0 {
		return list.Index(s.chance.Intn(list.Len()))
	}
	if isList(list.Type().Elem()) {
		return reflect.Zero(list.Type().Elem())
	}
	return s.wild(list.Type().Elem())
}

// disturbed is a copy with one thing in it changed.
func (s *scene) disturbed(v reflect.Value) reflect.Value {
	other := s.copyOf(v, 0)
	at := other
	for {
		switch {
		case at.Kind() == reflect.Struct:
			at = at.Field(s.chance.Intn(at.NumField()))
			continue
		case at.Kind() == reflect.Slice && at.Len() > 0 && s.chance.Intn(3) > 0:
			at = at.Index(s.chance.Intn(at.Len()))
			continue
		case at.Kind() == reflect.Slice:
			s.disturbList(at)
		case at.Kind() == reflect.String && at.String() != "" && s.chance.Intn(2) == 0:
			at.SetString(mistyped(s.chance, at.String()))
		case at.Kind() == reflect.Int && s.chance.Intn(2) == 0:
			at.SetInt(at.Int() + int64(s.chance.Intn(3)-1))
		default:
			at.Set(s.wild(at.Type()))
		}
		return other
	}
}

// disturbList leaves the last one out, or puts one behind it.
func (s *scene) disturbList(list reflect.Value) {
	switch more := s.chance.Intn(3); {
	case more == 0 && list.Len() > 0:
		list.Set(list.Slice(0, list.Len()-1))
	case more == 1:
		list.Set(reflect.Zero(list.Type()))
	default:
		list.Set(reflect.Append(list, s.copyOf(s.behind(list), 0)))
	}
}

// pick is what fits the parameter, or else a value of its type.
func (s *scene) pick(f function, at int) reflect.Value {
	t := f.call.Type().In(at)
	lists := [][]reflect.Value{s.fits[fitKey{f.name + " " + f.params[at], t}], s.fits[fitKey{f.params[at], t}], s.values[t]}
	for n, list := range lists {
		if len(list) > 0 && (n == len(lists)-1 || s.chance.Intn(8) > 0) {
			return list[s.chance.Intn(len(list))]
		}
	}
	return s.wild(t)
}

// arguments are mostly ordinary, often with one that is disturbed, at times any.
func (s *scene) arguments(f function) []reflect.Value {
	list, count := []reflect.Value{}, f.call.Type().NumIn()
	sort, wrong := s.chance.Intn(10), s.chance.Intn(count)
	for at := range count {
		v := s.pick(f, at)
		switch {
		case sort == 9 || sort == 8 && s.chance.Intn(2) == 0:
			v = s.wild(v.Type())
		case sort > 5 && at == wrong:
			v = s.disturbed(v)
		}
		list = append(list, v)
	}
	return list
}

// roomy are the same arguments with room behind each list; some that are of one type become one and the same.
func (s *scene) roomy(list []reflect.Value) []reflect.Value {
	isShared, given := s.chance.Intn(4) == 0, []reflect.Value{}
	for at, v := range list {
		twin := slices.IndexFunc(list[:at], func(other reflect.Value) bool { return other.Type() == v.Type() })
		if isShared && twin >= 0 {
			list[at] = list[twin]
			given = append(given, given[twin])
			continue
		}
		given = append(given, s.copyOf(v, 1+s.chance.Intn(4)))
	}
	return given
}

// fitTime keeps the cycles at which something changes, in some frames.
func (s *scene) fitTime(x impl.Tables) {
	for _, name := range []string{"c", "cycle", "from", "to", "cycles"} {
		for _, place := range edgesOf(x) {
			s.fitNumbers(name, place, x.Major+place)
		}
		s.fitNumbers(name, 0, 100, 700, 1500, 49999, 50000)
	}
	for n := range x.Slots {
		s.fitNumbers("i", n)
	}
	s.fitNumbers("first", x.Pad+x.Guard+1, x.Pad+x.Guard+2)
	s.fit("Split t", frameTables(), x)
	s.fitNumbers("Split i", 0)
	s.fitNumbers("Split first", 1420, 1421, 3579, 3580)
	s.fitNumbers("cut", x.Pad+x.Guard, x.Pad+x.Guard+1, x.Pad+x.Guard+5)
}

// fitWords keeps numbers and texts as the first chapters want them.
func (s *scene) fitWords(x impl.Tables) {
	for n := range 33 {
		row := opRows()[n]
		i := row.right(s.chance.Intn(16), s.chance.Intn(16), s.chance.Intn(16), s.chance.Intn(16384)-8192)
		w, _ := impl.Encode(i)
		s.fitNumbers("op", n)
		s.fit("Decode w", w)
		s.fit("ShowWord w", w)
		s.fit("i", i)
		s.fit("OpOf name", row.name)
		s.fit("ReadLine line", lineByHand(row, i), oddLine(s.chance), nearLine(s.chance))
		s.fit("WordHex s", fmt.Sprintf("%08x", w))
		s.fit("DecNum s", fmt.Sprint(n), fmt.Sprint(-n*n), fmt.Sprint(w))
	}
	for n := range 5 {
		s.fit("LabelOk s", labelNo(n), "a9", "9a", "abcdefghijklm")
		s.fit("NameOk s", labelNo(n), x.Parts[0].Name, "abcdefghi")
		s.fit("PartNamed name", x.Parts[s.chance.Intn(len(x.Parts))].Name, "nobody")
		s.fit("PermOf s", impl.PermText(n), "xr")
		s.fit("WordOf b", impl.BytesOf(s.chance.Uint32()), []byte{1, 2, 3})
	}
	s.fitNumbers("Taken op", 19, 20, 21)
	s.fitNumbers("bits", 1, 2, 8, 14, 31, 32)
	s.fitNumbers("most", 0, 100, 100000, 4294967295)
	s.fitNumbers("kind", 1, 2, 3, 4, 7)
	s.fitNumbers("size", 1, 2, 4)
	s.fitNumbers("n", 0, 1, 2, 3, 4, 5, 6, 7, 15)
	s.fitNumbers("d", 0, 1, 7, 31)
	s.fitNumbers("perm", 1, 2, 3, 4, 5, 6, 7)
	s.fitNumbers("fault", 0, 1, 2, 3, 4, 5)
	s.fitNumbers("phase", 0, 1, 2, 3)
	s.fitNumbers("moved", 0, 1, 2)
	s.fitNumbers("TlbEmpty size", 1, 2, 8)
	s.fitNumbers("TlbRun size", 1, 2, 8)
}

// fitLists keeps lists of what is done one after the other.
func (s *scene) fitLists(x impl.Tables) {
	for range 6 {
		words, numbers, uses, ops, devOps, faults := []uint32{}, []int{}, []impl.Use{}, []impl.ChanOp{}, []impl.DevOp{}, []int{}
		for range s.chance.Intn(30) {
			words = append(words, s.chance.Uint32())
			numbers = append(numbers, s.chance.Intn(2000))
			uses = append(uses, impl.Use{Addr: s.chance.Intn(200), Write: s.chance.Intn(2) == 0})
			ops = append(ops, impl.ChanOp{Kind: s.chance.Intn(3), Word: s.chance.Uint32()})
			devOps = append(devOps, impl.DevOp{Kind: s.chance.Intn(3), Word: s.chance.Uint32()})
			faults = append(faults, s.chance.Intn(6))
		}
		s.fit("FoldWords list", words)
		s.fit("words", words[:min(len(words), 4)])
		s.fit("addrs", numbers)
		s.fit("uses", uses)
		s.fit("ChanPlay ops", ops)
		s.fit("DevPlay ops", devOps)
		s.fit("faults", faults)
		s.fit("needs", drawnNeeds(s.chance, x))
		s.fit("HealthRun p", rightPolicies()[s.chance.Intn(102)])
	}
	s.fit("Disassemble words", make([]uint32, 256), make([]uint32, 257))
	s.fit("chans", x.Chans)
	s.fit("r", queued(0, 1, 3), impl.ChanRow{Kind: impl.ChanSample, From: 0, To: 1})
	for _, r := range x.Chans {
		s.fit("r", r)
	}
}

// fitTexts keeps texts of tables, programs, scripts and sessions.
func (s *scene) fitTexts(x impl.Tables) {
	for range 4 {
		texts := drawnTexts(s.chance)
		s.fit("conf", texts.conf)
		s.fit("sources", texts.sources)
		s.fit("script", texts.script)
		s.fit("ParseConf text", texts.conf, confByHand(x))
		s.fit("ParseScript text", drawnScript(s.chance, x))
		s.fit("Assemble text", drawnSource(s.chance, 30))
		s.fit("LabelsOf text", drawnSource(s.chance, 30))
	}
	s.fit("Session conf", confByHand(x), confByHand(x))
	s.fit("Session sources", make([]string, len(x.Parts)), slices.Repeat([]string{"nop\n"}, len(x.Parts)))
	s.fit("Session script", drawnScript(s.chance, x), "run 100\n")
}

// fitParts keeps what belongs to each partition: its number, its image, states of it, and what comes to it.
func (s *scene) fitParts(x impl.Tables, images [][][]byte) {
	for p, row := range x.Parts {
		for _, name := range []string{"p", "q", "part"} {
			s.fitNumbers(name, p)
		}
		s.fit("ws", row.Windows)
		s.fit("Reach list", row.Windows)
		s.fit("image", images[p])
		s.fit("entry", row.Entry)
		s.fit("p", row.Policy)
		feed := drawnFeed(s.chance, x, p, 6, 300)
		events, after, _ := impl.Solo(x, p, images[p], feed, 300)
		s.fit("feed", feed)
		s.fit("events", events)
		for _, state := range []impl.PartState{after, drawnPart(s.chance, x, p), drawnPart(s.chance, x, p)} {
			s.keep(reflect.ValueOf(state))
			s.fitNumbers("PartStep cycle", state.Next)
		}
		for _, c := range impl.SlotStarts(x, p, 0, 2*x.Major) {
			s.fitNumbers("PartSlot cycle", c)
			s.fitNumbers("PartStep cycle", c+x.Pad, c+x.Pad+1)
		}
	}
	for dev := range x.Devs {
		s.fitNumbers("dev", dev)
	}
	for range 5 {
		s.fit("c", drawnCache(s.chance, x.Shape), impl.CacheEmpty(x.Shape))
		s.fitNumbers("addr", s.chance.Intn(70), s.chance.Intn(1000))
	}
}

// newScene has one system, and now and then another one's commands and images.
func newScene(t *testing.T, seed int64) *scene {
	t.Helper()
	chance := rand.New(rand.NewSource(seed))
	s := &scene{chance, wildInts(), wildTexts(), map[reflect.Type][]reflect.Value{}, map[fitKey][]reflect.Value{}}
	x, images := drawnSystem(t, chance)
	s.fit("t", x)
	for range 4 {
		cmds := drawnCmds(chance, x, 12, 2*x.Major)
		others, theirs := othersFor(t, chance, x, chance.Intn(len(x.Parts)), images, cmds)
		for _, name := range []string{"cmds", "x", "y"} {
			s.fit(name, cmds, theirs)
		}
		for _, name := range []string{"images", "a", "b"} {
			s.fit(name, images, others)
		}
		told, _ := impl.Play(x, images, cmds)
		s.fit("told", told)
		for _, e := range slices.Concat(told.Traces...)[:min(3, len(slices.Concat(told.Traces...)))] {
			s.fit("EventOf s", impl.EventText(e), impl.EventText(e)+" ")
		}
		s.fitNumbers("from", chance.Intn(50000))
		s.fit("Blame list", impl.Spans(x, 0, x.Major))
		s.fit("SpanSum list", impl.Spans(x, 0, x.Major))
	}
	s.fit("SpansOk list", impl.Spans(x, 0, 100))
	s.fitNumbers("SpansOk from", 0)
	s.fitNumbers("SpansOk to", 100, 100, x.Major)
	s.fitTime(x)
	s.fitParts(x, images)
	s.fitWords(x)
	s.fitLists(x)
	s.fitTexts(x)
	return s
}
