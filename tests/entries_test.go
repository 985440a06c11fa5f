package tests

import (
	"testing"

	"loop.example/exopager/impl"
)

// The entries of all frames, written out so that the tests do not repeat the rule of the program.
var (
	readEntries  = []int{1, 5, 9, 13, 17, 21, 25, 29, 33, 37, 41, 45}
	writeEntries = []int{3, 7, 11, 15, 19, 23, 27, 31, 35, 39, 43, 47}
)

// named returns which frame a word names, and whether it may be written, as the lists above tell.
func named(word int) (int, bool, bool) {
	for frame := range readEntries {
		if readEntries[frame] == word {
			return frame, false, true
		}
		if writeEntries[frame] == word {
			return frame, true, true
		}
	}
	return 0, false, false
}

func TestConstantsOfEntries(t *testing.T) {
	got := []int{impl.Frames, impl.FrameWords, impl.WordMax, impl.Pages, impl.EntryNone, impl.EntryGood, impl.EntryBad}
	for i, want := range []int{12, 4, 9999, 16, 0, 1, 2} {
		if got[i] != want {
			t.Errorf("constant %d is %d, not %d", i, got[i], want)
		}
	}
}

// P1
func TestEntryPutThenGet(t *testing.T) {
	done := 0
	for _, frame := range allNumbers() {
		for _, write := range []bool{false, true} {
			word, ok := impl.EntryPut(frame, write)
			if !ok {
				continue
			}
			done++
			f, w, fine := impl.EntryGet(word)
			if word <= 0 || f != frame || w != write || !fine {
				t.Errorf("EntryPut(%d, %t) is %d, and EntryGet of it %d, %t, %t", frame, write, word, f, w, fine)
			}
		}
	}
	if done != 24 {
		t.Errorf("EntryPut succeeded %d times, not 24", done)
	}
}

// P2
func TestEntryPutOfAllFrames(t *testing.T) {
	for frame := range 12 {
		if word, ok := impl.EntryPut(frame, false); !ok || word != readEntries[frame] {
			t.Errorf("EntryPut(%d, false) is %d, %t", frame, word, ok)
		}
		if word, ok := impl.EntryPut(frame, true); !ok || word != writeEntries[frame] {
			t.Errorf("EntryPut(%d, true) is %d, %t", frame, word, ok)
		}
	}
}

// P2
func TestEntryPutOfNoFrame(t *testing.T) {
	for _, frame := range allNumbers() {
		if frame >= 0 && frame <= 11 {
			continue
		}
		for _, write := range []bool{false, true} {
			if word, ok := impl.EntryPut(frame, write); word != 0 || ok {
				t.Errorf("EntryPut(%d, %t) is %d, %t", frame, write, word, ok)
			}
		}
	}
}

// P3
func TestEntryGetThenPut(t *testing.T) {
	done := 0
	for _, word := range allNumbers() {
		frame, write, ok := impl.EntryGet(word)
		if !ok {
			continue
		}
		done++
		if back, fine := impl.EntryPut(frame, write); !fine || back != word {
			t.Errorf("EntryGet(%d) is %d, %t, and EntryPut of it %d, %t", word, frame, write, back, fine)
		}
	}
	if done != 24 {
		t.Errorf("EntryGet succeeded %d times, not 24", done)
	}
}

// P1, P3: words that are entries, and words that are none, whose results are zero values.
func TestEntryGetOfAllWords(t *testing.T) {
	for _, word := range allNumbers() {
		frame, write, ok := impl.EntryGet(word)
		wantFrame, wantWrite, wantOk := named(word)
		if frame != wantFrame || write != wantWrite || ok != wantOk {
			t.Errorf("EntryGet(%d) is %d, %t, %t, not %d, %t, %t", word, frame, write, ok, wantFrame, wantWrite, wantOk)
		}
	}
}

// P4
func TestEntryKindOfAllWords(t *testing.T) {
	for _, word := range allNumbers() {
		want := impl.EntryBad
		if _, _, ok := named(word); ok {
			want = impl.EntryGood
		} else if word == 0 {
			want = impl.EntryNone
		}
		if kind := impl.EntryKind(word); kind != want {
			t.Errorf("EntryKind(%d) is %d, not %d", word, kind, want)
		}
	}
}

// P4
func TestEntryKindIsThatOfEntryGet(t *testing.T) {
	for _, word := range allNumbers() {
		kind := impl.EntryKind(word)
		if _, _, ok := impl.EntryGet(word); ok != (kind == impl.EntryGood) {
			t.Errorf("EntryKind(%d) is %d, but EntryGet succeeds: %t", word, kind, ok)
		}
	}
}

// P4: the words that lie next to entries, and those that would name the frame behind the last one or in front of frame 0.
func TestWordsNextToEntries(t *testing.T) {
	for _, word := range []int{-5, -4, -3, -2, -1, 2, 4, 6, 44, 46, 48, 49, 50, 51, 9997, 9999} {
		if kind := impl.EntryKind(word); kind != impl.EntryBad {
			t.Errorf("EntryKind(%d) is %d", word, kind)
		}
	}
	kinds := map[int]int{0: impl.EntryNone, 1: impl.EntryGood, 3: impl.EntryGood, 45: impl.EntryGood, 47: impl.EntryGood}
	for word, want := range kinds {
		if kind := impl.EntryKind(word); kind != want {
			t.Errorf("EntryKind(%d) is %d, not %d", word, kind, want)
		}
	}
}

// P5
func TestEntryToBeWrittenIsGreaterByTwo(t *testing.T) {
	for frame := range 12 {
		read, _ := impl.EntryPut(frame, false)
		write, _ := impl.EntryPut(frame, true)
		if write != read+2 {
			t.Errorf("the entries of frame %d are %d and %d", frame, read, write)
		}
	}
}
