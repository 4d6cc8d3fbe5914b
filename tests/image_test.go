package tests

import (
	"bytes"
	"fmt"
	"math"
	"math/rand"
	"slices"
	"testing"

	"loop.example/g00076/impl"
)

// loadByHand is for whatever it is given; it asks of each byte of each window what stands there.
func loadByHand(x impl.Tables, p int, words []uint32) ([][]byte, bool) {
	if !soundByHand(x) || !isBetween(p, 0, len(x.Parts)-1) || len(words) > 256 || len(words) > roomToRun(x, p) {
		return nil, false
	}
	entry, image := x.Parts[p].Entry, [][]byte{}
	for _, w := range x.Parts[p].Windows {
		part := []byte{}
		for addr := w.Base; addr < w.Base+w.Size; addr++ {
			one := byte(0)
			if isBetween(addr, entry, entry+4*len(words)-1) {
				place := addr - entry
				one = byte(words[place/4] / []uint32{1, 1 << 8, 1 << 16, 1 << 24}[place%4])
			}
			part = append(part, one)
		}
		image = append(image, part)
	}
	return image, true
}

// wantLoad holds LoadImage against the model; what is loaded must be right, and stand where the guest fetches. It tells whether it is loaded.
func wantLoad(t *testing.T, what string, x impl.Tables, p int, words []uint32) bool {
	t.Helper()
	image, is := impl.LoadImage(x, p, words)
	want, wantIs := loadByHand(x, p, words)
	if is != wantIs || !slices.EqualFunc(image, want, bytes.Equal) {
		t.Errorf("%s: LoadImage of %d words for %d is %v and\n%v\nnot %v and\n%v", what, len(words), p, is, image, wantIs, want)
	}
	if !is {
		return false
	}
	if !impl.ImageOk(x, p, image) || !imageOkByHand(x, p, image) {
		t.Errorf("%s: not an image of %d", what, p)
	}
	s, _ := impl.PartBoot(x, p, image)
	for n, w := range words {
		g := s.Guest
		g.PC = uint32(x.Parts[p].Entry + 4*n)
		if got, fault := impl.Fetch(x.Parts[p].Windows, g); got != w || fault != impl.FaultNone {
			t.Errorf("%s: word %d of %d is fetched as %d with fault %d, not as %d", what, n, p, got, fault, w)
		}
	}
	return true
}

func wantLoaded(t *testing.T, what string, x impl.Tables, p int, words []uint32) {
	t.Helper()
	if !wantLoad(t, what, x, p, words) {
		t.Errorf("%s: %d words for %d are refused", what, len(words), p)
	}
}

func wantNotLoaded(t *testing.T, what string, x impl.Tables, p int, words []uint32) {
	t.Helper()
	if image, is := impl.LoadImage(x, p, words); is || len(image) != 0 {
		t.Errorf("%s: LoadImage of %d words for %d is %v and %v", what, len(words), p, is, image)
	}
	wantLoad(t, what, x, p, words)
}

// loadWords have no byte that is 0, and no two alike beside each other.
func loadWords(count int) []uint32 {
	list := []uint32{}
	for n := range uint32(count) {
		list = append(list, 0x04030201+0x01010101*(n%200))
	}
	return list
}

// wideTables have one partition with all memory there is, and its Entry at that address.
func wideTables(entry int) impl.Tables {
	return changed(frameTables, func(x *impl.Tables) {
		x.Mem, x.Parts[0].Entry, x.Parts[0].Windows = 2048, entry, []impl.Window{win(0, 2048, 7)}
	})
}

// homeTables have one partition with four windows that touch, and its Entry in one of them.
func homeTables(entry int) impl.Tables {
	return changed(frameTables, func(x *impl.Tables) {
		x.Mem, x.Parts[0].Entry, x.Parts[0].Windows = 64, entry, []impl.Window{win(32, 16, 7), win(0, 16, 4), win(48, 16, 5), win(16, 16, 6)}
	})
}

func imageMakers() []func() impl.Tables {
	return append(timeMakers(), partTables, crossTables, longTables, nameTables)
}

func TestLoadImageByNumbers(t *testing.T) {
	x := rightTables()
	image, is := impl.LoadImage(x, 0, []uint32{0x04030201, 0xff00fe80})
	front := make([]byte, 64)
	copy(front[8:], []byte{1, 2, 3, 4, 0x80, 0xfe, 0, 0xff})
	if !is || !slices.EqualFunc(image, [][]byte{front, make([]byte, 32)}, bytes.Equal) {
		t.Error(is, image)
	}
	image, is = impl.LoadImage(x, 2, []uint32{7})
	amid := make([]byte, 64)
	amid[4] = 7
	if !is || !slices.EqualFunc(image, [][]byte{make([]byte, 64), amid, make([]byte, 4)}, bytes.Equal) {
		t.Error(is, image)
	}
	image, is = impl.LoadImage(leastTables(), 0, []uint32{math.MaxUint32})
	if !is || !slices.EqualFunc(image, [][]byte{{255, 255, 255, 255}}, bytes.Equal) {
		t.Error(is, image)
	}
}

// No word, as many as fit and one more, of each partition.
func TestLoadImageByRoom(t *testing.T) {
	for n, maker := range imageMakers() {
		x, what := maker(), fmt.Sprint("tables ", n)
		for p := range x.Parts {
			room := roomToRun(x, p)
			wantLoaded(t, what, x, p, nil)
			wantLoaded(t, what, x, p, []uint32{})
			for count := range min(room, 256) + 1 {
				wantLoaded(t, what, x, p, loadWords(count))
			}
			wantLoaded(t, what+", words of 0", x, p, make([]uint32, min(room, 256)))
			for _, more := range []int{1, 2, 3, 5, 16, 20, 60, 100, 256, 1 << 16} {
				wantNotLoaded(t, what, x, p, loadWords(room+more))
				wantNotLoaded(t, what+", words of 0", x, p, make([]uint32, room+more))
			}
		}
	}
}

// Entry at the beginning of its window, in its midst and at its last word.
func TestLoadImageFromEachEntry(t *testing.T) {
	for entry := 256; entry < 384; entry += 4 {
		x := changed(rightTables, func(x *impl.Tables) { x.Parts[1].Entry = entry })
		room := (384 - entry) / 4
		wantLoaded(t, "one word", x, 1, loadWords(1))
		wantLoaded(t, "one less", x, 1, loadWords(room-1))
		wantLoaded(t, "all that fit", x, 1, loadWords(room))
		wantNotLoaded(t, "one more", x, 1, loadWords(room+1))
		wantNotLoaded(t, "as many as the whole window holds, and one", x, 1, loadWords(33))
		if entry > 256 {
			wantNotLoaded(t, "as many as the whole window holds", x, 1, loadWords(32))
		}
	}
}

func TestLoadImageByMaxWords(t *testing.T) {
	for _, entry := range []int{0, 4, 512, 1020, 1024} {
		x := wideTables(entry)
		wantSound(t, "wide", x, true)
		for _, count := range []int{0, 1, 255, 256} {
			wantLoaded(t, "no more than MaxWords", x, 0, loadWords(count))
		}
		for _, count := range []int{257, 258, 511, 512, 513, 65536, 65536 + 4} {
			wantNotLoaded(t, "more than MaxWords", x, 0, loadWords(count))
		}
	}
	for _, entry := range []int{1028, 1032, 2000, 2044} {
		x, room := wideTables(entry), (2048-entry)/4
		wantLoaded(t, "all that fit", x, 0, loadWords(room))
		wantNotLoaded(t, "one more", x, 0, loadWords(room+1))
		wantNotLoaded(t, "MaxWords", x, 0, loadWords(256))
	}
	// Too many for both.
	wantNotLoaded(t, "more than MaxWords", leastTables(), 0, loadWords(257))
}

// The words stand in the window that Entry lies in, wherever that is in the list, and never go on in one that touches it.
func TestLoadImageIntoTheWindowOfEntry(t *testing.T) {
	for home, base := range map[int]int{1: 0, 3: 16, 0: 32, 2: 48} {
		for place := range 4 {
			x := homeTables(base + 4*place)
			wantSound(t, "four that touch", x, true)
			for count := range 20 {
				if count > 4-place {
					wantNotLoaded(t, "four that touch", x, 0, loadWords(count))
					continue
				}
				wantLoaded(t, "four that touch", x, 0, loadWords(count))
				image, _ := impl.LoadImage(x, 0, loadWords(count))
				for at, part := range image {
					filled := 16 - bytes.Count(part, []byte{0})
					if len(part) != 16 || at == home && filled != 4*count || at != home && filled != 0 {
						t.Errorf("Entry %d, %d words: window %d has %v", base+4*place, count, at, part)
					}
				}
			}
		}
	}
}

func TestLoadImageOfNoPartition(t *testing.T) {
	for _, maker := range imageMakers() {
		x := maker()
		for _, p := range append(oddInts(), -1, -2, len(x.Parts), len(x.Parts)+1, 6, 7) {
			wantNotLoaded(t, "no partition", x, p, nil)
			wantNotLoaded(t, "no partition", x, p, loadWords(1))
			wantNotLoaded(t, "no partition", x, p, loadWords(257))
		}
	}
}

func TestLoadImageOfTablesThatAreNotSound(t *testing.T) {
	for what, x := range wrongTables() {
		for p := -1; p < 7; p++ {
			wantNotLoaded(t, what, x, p, nil)
			wantNotLoaded(t, what, x, p, loadWords(1))
			wantNotLoaded(t, what, x, p, loadWords(300))
		}
	}
	for _, maker := range tableMakers() {
		x := maker()
		for _, number := range numbersIn(&x) {
			was := *number
			for _, n := range append(oddInts(), was-4, was-1, was+1, was+4) {
				*number = n
				wantLoad(t, "one number changed", x, 0, loadWords(1))
			}
			*number = was
		}
	}
}

func TestLoadImageOfDrawnTables(t *testing.T) {
	chance := rand.New(rand.NewSource(2201))
	counts := map[bool]int{}
	for range 600 {
		x := drawnTables(chance)
		if chance.Intn(3) == 0 {
			disturb(chance, &x)
		}
		p := chance.Intn(len(x.Parts))
		words := []uint32{}
		for range max(roomToRun(x, p)+chance.Intn(5)-3, 0) {
			words = append(words, chance.Uint32())
		}
		counts[wantLoad(t, "drawn", x, p, words)]++
	}
	if counts[true] < 150 || counts[false] < 150 {
		t.Error("too few of one kind:", counts)
	}
}

// Promise 22: what is loaded is what is run: a row of words is stepped through from Entry on, each as the instruction that it is.
func TestWhatIsLoadedIsWhatIsRun(t *testing.T) {
	chance := rand.New(rand.NewSource(2202))
	steps := 0
	for range 120 {
		x := drawnTables(chance)
		p := chance.Intn(len(x.Parts))
		x = withPolicy(x, p, impl.Policy{Kind: impl.PolicySkip})
		words := []uint32{}
		// Neither a jump nor a call, so that each word is reached behind the one ahead.
		for range min(roomToRun(x, p), 40) {
			words = append(words, wordByHand(opRows()[chance.Intn(15)].right(chance.Intn(16), chance.Intn(16), chance.Intn(16), chance.Intn(16384)-8192)))
		}
		image, is := impl.LoadImage(x, p, words)
		if !is {
			t.Fatal("refused", len(words))
		}
		images := plainImages(x)
		images[p] = image
		told, _ := impl.Play(x, images, []impl.Cmd{runCmd(min(3*x.Major, 50000))})
		for n, e := range told.Traces[p][:min(len(told.Traces[p]), len(words))] {
			if int(e.PC) != x.Parts[p].Entry+4*n || e.Op != int(words[n]>>26) {
				t.Fatalf("step %d of %d is %+v, not %s", n, p, e, impl.ShowWord(words[n]))
			}
			steps++
		}
	}
	if steps < 500 {
		t.Error("too few steps:", steps)
	}
}

// Promise 26: neither the tables nor the words are written into, nor is the room behind them, and that room is not looked at.
func TestLoadImageWritesIntoNothing(t *testing.T) {
	for _, x := range tablesOfAllSorts(2203) {
		for p := -1; p < 7; p++ {
			for _, count := range []int{0, 1, 4} {
				given, told := roomyTables(x)
				words, whole := roomed(loadWords(count), 0x5a5a5a5a)
				before, beforeWords := told(), slices.Clone(whole)
				image, is := impl.LoadImage(given, p, words)
				if told() != before || !slices.Equal(whole, beforeWords) {
					t.Fatalf("%s\nbecame\n%s, or %v became %v", before, told(), beforeWords, whole)
				}
				want, wantIs := loadByHand(x, p, loadWords(count))
				if is != wantIs || !slices.EqualFunc(image, want, bytes.Equal) {
					t.Fatalf("what lies behind a list was looked at: %+v", x)
				}
			}
		}
	}
}

// Every list of an answer is its own: what is written into it is seen in no argument, in no other list and in no other answer.
func TestImagesThatAreLoadedAreTheirOwn(t *testing.T) {
	for _, maker := range append(imageMakers(), func() impl.Tables { return homeTables(20) }) {
		x := maker()
		for p := range x.Parts {
			words := loadWords(min(roomToRun(x, p), 256))
			want, _ := loadByHand(x, p, words)
			first, _ := impl.LoadImage(x, p, words)
			second, _ := impl.LoadImage(x, p, words)
			wantLooksApart(t, "an image", lookImage(first))
			scribbleAll(words, 7)
			if !slices.EqualFunc(second, want, bytes.Equal) || !sameTables(x, maker()) {
				t.Errorf("the image of %d shares memory", p)
			}
			wantLoad(t, "once more", x, p, loadWords(min(roomToRun(x, p), 256)))
		}
	}
	refused, _ := impl.LoadImage(rightTables(), 3, nil)
	scribbleAll(refused, []byte{7})
	wantNotLoaded(t, "refused once more", rightTables(), 3, nil)
}
