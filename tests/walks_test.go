package tests

import (
	"slices"
	"testing"

	"loop.example/exopager/impl"
)

// checkPage compares the walks to all addresses of a page with what is wanted.
func checkPage(t *testing.T, m [][]int, root int, number int, want page) {
	t.Helper()
	for at := range 4 {
		place := impl.Place{}
		if want.code == 0 {
			place = impl.Place{Frame: want.frame, At: at, Write: want.write}
		}
		if got, code := impl.Walk(m, root, 4*number+at); got != place || code != want.code {
			t.Errorf("in %v, Walk from %d to %d returns %v, %d, not %v, %d", m, root, 4*number+at, got, code, place, want.code)
		}
	}
}

func checkInvalidWalk(t *testing.T, m [][]int, root int, address int) {
	t.Helper()
	if got, code := impl.Walk(m, root, address); got != (impl.Place{}) || code != 3 {
		t.Errorf("in %v, Walk from %d to %d returns %v, %d", m, root, address, got, code)
	}
}

func checkNothingListed(t *testing.T, m [][]int, root int) {
	t.Helper()
	if tables, frames := impl.WalkTables(m, root), impl.WalkFrames(m, root); len(tables) != 0 || len(frames) != 0 {
		t.Errorf("in %v, from %d are listed %v and %v", m, root, tables, frames)
	}
}

func checkListed(t *testing.T, m [][]int, root int, tables []int, frames []int) {
	t.Helper()
	if got := impl.WalkTables(m, root); !slices.Equal(got, tables) {
		t.Errorf("in %v, WalkTables from %d returns %v, not %v", m, root, got, tables)
	}
	if got := impl.WalkFrames(m, root); !slices.Equal(got, frames) {
		t.Errorf("in %v, WalkFrames from %d returns %v, not %v", m, root, got, frames)
	}
}

func TestConstantsOfWalks(t *testing.T) {
	got := []int{impl.WalkDone, impl.WalkTop, impl.WalkLow, impl.WalkInvalid}
	if !slices.Equal(got, []int{0, 1, 2, 3}) {
		t.Errorf("the codes are %v", got)
	}
}

// P15, P16, P18: pages that are written out; the upper table has each frame once.
func TestWalkOfAllPages(t *testing.T) {
	for by := range 12 {
		m := turned(spaceMemory(), by)
		for number, want := range spacePages() {
			if want.code == 0 {
				want.frame = (want.frame + by) % 12
			}
			checkPage(t, m, (2+by)%12, number, want)
		}
	}
}

// P15, P16, P18: every frame as the upper table.
func TestWalkOfAllAddresses(t *testing.T) {
	codes := [4]int{}
	for _, m := range spaces() {
		for root := range 12 {
			for top := range 4 {
				for low := range 4 {
					want := pageOf(m, root, top, low)
					codes[want.code]++
					checkPage(t, m, root, 4*top+low, want)
				}
			}
		}
	}
	for code := range 3 {
		if codes[code] < 100 {
			t.Errorf("only %d pages have the code %d", codes[code], code)
		}
	}
}

// P15: a page may be written if both entries tell so.
func TestWalkToPagesThatMayBeWritten(t *testing.T) {
	for root := range 12 {
		table, frame := (root+5)%12, (root+7)%12
		for number := range 16 {
			m := evenMemory(0)
			check := func(first int, second int, write bool) {
				m[root][number/4], m[table][number%4] = first, second
				checkPage(t, m, root, number, page{frame, write, 0})
			}
			check(readEntries[table], readEntries[frame], false)
			check(readEntries[table], writeEntries[frame], false)
			check(writeEntries[table], readEntries[frame], false)
			check(writeEntries[table], writeEntries[frame], true)
		}
	}
}

// P15: the first frame and the last one, as upper table, lower table and page, at the first and at the last part.
func TestWalkOverTheFirstAndTheLastFrame(t *testing.T) {
	ends := []int{0, 11}
	for _, root := range ends {
		for _, table := range ends {
			for _, frame := range ends {
				if root == table && table != frame {
					continue
				}
				m := evenMemory(9999)
				m[root][0], m[root][3] = writeEntries[table], writeEntries[table]
				m[table][0], m[table][3] = writeEntries[frame], writeEntries[frame]
				for _, number := range []int{0, 3, 12, 15} {
					checkPage(t, m, root, number, page{frame, true, 0})
				}
				checkPage(t, m, root, 4, page{0, false, 1})
				checkPage(t, m, root, 1, page{0, false, 2})
			}
		}
	}
}

// P15: a table that names itself is its own lower table, and its own page.
func TestWalkOfTablesThatNameThemselves(t *testing.T) {
	m := selfMemory()
	for root := range 12 {
		for number := range 16 {
			write := []bool{false, true, true, false}
			checkPage(t, m, root, number, page{root, write[number/4] && write[number%4], 0})
		}
		checkListed(t, m, root, []int{root}, []int{root})
	}
}

// P15: from a table to the other one, and back.
func TestWalkOfTablesThatNameEachOther(t *testing.T) {
	m := pairsMemory()
	for root := range 12 {
		checkPage(t, m, root, 0, page{root, true, 0})
		checkPage(t, m, root, 3, page{root, false, 0})
		checkPage(t, m, root, 12, page{root, false, 0})
		checkPage(t, m, root, 15, page{root, false, 0})
		checkPage(t, m, root, 13, page{0, false, 2})
		checkPage(t, m, root, 7, page{0, false, 1})
		checkListed(t, m, root, []int{11 - root}, []int{root})
	}
}

// P16: each word that there is, in the upper table.
func TestWalkWithAllFirstWords(t *testing.T) {
	m := evenMemory(writeEntries[9])
	for word := range 10000 {
		m[6][2] = word
		want := page{0, false, 1}
		if _, write, ok := named(word); ok {
			want = page{9, write, 0}
		}
		checkPage(t, m, 6, 8, want)
		checkPage(t, m, 6, 11, want)
	}
}

// P16: each word that there is, in the lower table.
func TestWalkWithAllSecondWords(t *testing.T) {
	m := evenMemory(0)
	m[6][2] = writeEntries[3]
	for word := range 10000 {
		m[3][1] = word
		want := page{0, false, 2}
		if frame, write, ok := named(word); ok {
			want = page{frame, write, 0}
		}
		checkPage(t, m, 6, 9, want)
		checkPage(t, m, 6, 1, page{0, false, 1})
		checkPage(t, m, 6, 8, page{0, false, 2})
	}
}

// P16: tables that are missing, in each frame and at each part: the first word comes first, whatever the second one would be.
func TestWalkOfMissingTables(t *testing.T) {
	for _, word := range badEntries() {
		for root := range 12 {
			for number := range 16 {
				table := (root + 1 + number%11) % 12
				m := evenMemory(writeEntries[table])
				m[root][number/4] = word
				checkPage(t, m, root, number, page{0, false, 1})
				m = evenMemory(writeEntries[table])
				m[table][number%4] = word
				checkPage(t, m, root, number, page{0, false, 2})
				m[root][number/4] = word
				checkPage(t, m, root, number, page{0, false, 1})
			}
		}
	}
}

// P17: what is wrong comes before tables that are missing, which someMemory has.
func TestWalkOfInvalidMemories(t *testing.T) {
	for _, x := range invalidMemories() {
		for root := range 12 {
			for _, address := range []int{0, 1, 21, 42, 63} {
				checkInvalidWalk(t, x.m, root, address)
			}
			checkNothingListed(t, x.m, root)
		}
	}
}

// P17: a word that is out of range at any place, which most walks do not reach.
func TestWalkWithAWordOutOfRange(t *testing.T) {
	for frame := range 12 {
		for place := range 4 {
			for _, word := range badWords() {
				m := withWord(spaceMemory(), frame, place, word)
				for _, address := range []int{0, 8, 20, 35, 50, 63} {
					checkInvalidWalk(t, m, 2, address)
				}
				checkNothingListed(t, m, 2)
				checkNothingListed(t, m, 6)
			}
		}
	}
}

// P17: a frame that has a word less or more than others, or that is not there.
func TestWalkWithFramesOfOtherLengths(t *testing.T) {
	for frame := range 12 {
		words := spaceMemory()[frame]
		faults := [][][]int{
			with(spaceMemory(), frame),
			with(spaceMemory(), frame, words[:3]...),
			with(spaceMemory(), frame, append(words, 0)...),
			slices.Delete(spaceMemory(), frame, frame+1),
			append(spaceMemory(), words),
		}
		for _, m := range faults {
			for address := range 64 {
				checkInvalidWalk(t, m, 2, address)
			}
			checkNothingListed(t, m, 2)
		}
	}
}

// P17: upper tables that do not exist, also where a table would be missing.
func TestWalkFromNoFrame(t *testing.T) {
	for _, m := range [][][]int{spaceMemory(), evenMemory(0), evenMemory(writeEntries[1])} {
		for _, root := range noneOf(12) {
			for _, address := range []int{-1, 0, 7, 32, 63, 64} {
				checkInvalidWalk(t, m, root, address)
			}
			checkNothingListed(t, m, root)
		}
	}
}

// P17: addresses that do not exist, also where a table would be missing.
func TestWalkToNoAddress(t *testing.T) {
	for _, m := range [][][]int{spaceMemory(), evenMemory(0), evenMemory(writeEntries[1])} {
		for _, address := range noneOf(64) {
			for root := range 12 {
				checkInvalidWalk(t, m, root, address)
			}
		}
	}
}

// P17: exactly the other arguments are valid.
func TestWalkIsInvalidOnlyThen(t *testing.T) {
	for _, m := range spaces() {
		for root := -2; root <= 13; root++ {
			for address := -2; address <= 65; address++ {
				_, code := impl.Walk(m, root, address)
				valid := root >= 0 && root <= 11 && address >= 0 && address <= 63
				if valid == (code == 3) || code < 0 || code > 3 {
					t.Errorf("Walk from %d to %d returns %d", root, address, code)
				}
			}
		}
	}
}

// P19, P20: lists that are written out; a frame that several words name is there once.
func TestListsOfTheSpace(t *testing.T) {
	m := spaceMemory()
	checkListed(t, m, 2, []int{5, 7, 11}, []int{0, 2, 3, 4, 5, 11})
	checkListed(t, m, 1, []int{0, 1, 2, 3}, []int{0, 1, 2, 3, 5, 7, 11})
	checkListed(t, m, 4, []int{0}, nil)
	checkListed(t, m, 5, []int{0, 3, 11}, []int{2, 11})
	checkListed(t, m, 7, []int{0, 4, 5}, []int{0, 3, 11})
	checkListed(t, m, 10, []int{5, 6, 7, 8}, []int{0, 3, 4, 5, 11})
	checkListed(t, m, 11, []int{2, 11}, []int{2, 5, 7, 11})
	for _, root := range []int{0, 3, 6, 8, 9} {
		checkListed(t, m, root, nil, nil)
	}
}

// P19: tables in descending order, some of them twice, and words between them that name nothing.
func TestTablesInOrder(t *testing.T) {
	for root := range 12 {
		m := evenMemory(0)
		m[root] = []int{47, 4, 1, 45}
		checkTables(t, m, root, 0, 11)
		m[root] = []int{33, 25, 17, 9}
		checkTables(t, m, root, 2, 4, 6, 8)
		m[root] = []int{9999, 41, 0, 7}
		checkTables(t, m, root, 1, 10)
		m[root] = []int{39, 37, 37, 39}
		checkTables(t, m, root, 9)
		m[root] = []int{0, 0, 0, 5}
		checkTables(t, m, root, 1)
		m[root] = []int{48, 49, 51, 2}
		checkTables(t, m, root)
	}
}

func checkTables(t *testing.T, m [][]int, root int, want ...int) {
	t.Helper()
	if got := impl.WalkTables(m, root); !slices.Equal(got, want) {
		t.Errorf("in %v, WalkTables from %d returns %v, not %v", m, root, got, want)
	}
}

// P19: exactly the frames that a word of the frame names.
func TestTablesOfAllFrames(t *testing.T) {
	for _, m := range spaces() {
		for root := range 12 {
			want := []int{}
			for frame := range 12 {
				if slices.Contains(m[root], readEntries[frame]) || slices.Contains(m[root], writeEntries[frame]) {
					want = append(want, frame)
				}
			}
			checkTables(t, m, root, want...)
		}
	}
}

// P20: exactly the frames to which a walk leads.
func TestFramesOfAllFrames(t *testing.T) {
	longest := 0
	for _, m := range spaces() {
		for root := range 12 {
			reached := [12]bool{}
			for address := range 64 {
				if place, code := impl.Walk(m, root, address); code == 0 {
					reached[place.Frame] = true
				}
			}
			want := []int{}
			for frame := range 12 {
				if reached[frame] {
					want = append(want, frame)
				}
			}
			if got := impl.WalkFrames(m, root); !slices.Equal(got, want) {
				t.Errorf("in %v, WalkFrames from %d returns %v, not %v", m, root, got, want)
			}
			longest = max(longest, len(want))
		}
	}
	if longest < 7 {
		t.Errorf("no list is longer than %d", longest)
	}
}

// P20: all frames, of which each is named by some table, in descending order.
func TestFramesAreAllFrames(t *testing.T) {
	m := evenMemory(0)
	m[5] = []int{writeEntries[9], readEntries[8], writeEntries[7], 0}
	for i := range 12 {
		m[9-i/4][i%4] = readEntries[11-i]
	}
	checkListed(t, m, 5, []int{7, 8, 9}, []int{0, 1, 2, 3, 4, 5, 6, 7, 8, 9, 10, 11})
	m[8] = []int{0, 2, 48, 9999}
	checkListed(t, m, 5, []int{7, 8, 9}, []int{0, 1, 2, 3, 8, 9, 10, 11})
}

// P19, P20: with no entry in the table nothing is listed, and with no entry in the lower tables no frame.
func TestNothingIsListed(t *testing.T) {
	for root := range 12 {
		for _, word := range badEntries() {
			m := with(chainMemory(), root, word, word, word, word)
			checkNothingListed(t, m, root)
			table := (root + 3) % 12
			m = with(evenMemory(word), root, 0, 0, readEntries[table], word)
			checkListed(t, m, root, []int{table}, nil)
		}
	}
}
