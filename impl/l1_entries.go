package impl

// Frames is the number of frames of the memory.
const Frames = 12

// FrameWords is the number of words of a frame.
const FrameWords = 4

// WordMax is the largest word.
const WordMax = 9999

// Pages is the number of pages of a space.
const Pages = 16

// EntryNone means that an entry is empty.
const EntryNone = 0

// EntryGood means that an entry names a frame.
const EntryGood = 1

// EntryBad means that a word is no entry.
const EntryBad = 2

// The parts of an entry: entryStep times its frame, entryNames, which keeps an entry of frame 0 apart from an empty one, and entryWrite if it may be written.
const (
	entryStep  = 4
	entryNames = 1
	entryWrite = 2
)

// entry is a word that is read as an entry of a table; it may be no entry at all.
type entry int

// entryOf expects a frame that exists: of others, the word may not fit into a number.
func entryOf(frame int, write bool) entry {
	e := entry(entryStep*frame + entryNames)
	if write {
		e += entryWrite
	}
	return e
}

// names tells whether a frame is named. No word below 0 passes, as its remainder is not above 0 either.
func (e entry) names() bool {
	return (e.onlyRead() || e.mayWrite()) && e.frame() < Frames
}

// frame means something only if the entry names a frame.
func (e entry) frame() int {
	return int(e / entryStep)
}

func (e entry) onlyRead() bool {
	return e%entryStep == entryNames
}

func (e entry) mayWrite() bool {
	return e%entryStep == entryNames+entryWrite
}

func (e entry) kind() int {
	switch {
	case e == 0:
		return EntryNone
	case e.names():
		return EntryGood
	}
	return EntryBad
}

// EntryPut returns the entry that names a frame, and tells whether it may be written.
func EntryPut(frame int, write bool) (int, bool) {
	if !below(frame, Frames) {
		return 0, false
	}
	return int(entryOf(frame, write)), true
}

// EntryGet returns the frame that an entry names, and whether it may be written.
func EntryGet(word int) (int, bool, bool) {
	e := entry(word)
	if !e.names() {
		return 0, false, false
	}
	return e.frame(), e.mayWrite(), true
}

// EntryKind tells what a word is as an entry.
func EntryKind(word int) int {
	return entry(word).kind()
}

// AddressCut returns the parts of an address: the indices in both tables, and the place in the frame.
func AddressCut(address int) (int, int, int, bool) {
	if !isAddress(address) {
		return 0, 0, 0, false
	}
	// A table is a frame, so it has as many entries as a frame has words.
	page, at := address/FrameWords, address%FrameWords
	return page / FrameWords, page % FrameWords, at, true
}

// AddressOf returns the address of a place in a page.
func AddressOf(page int, at int) (int, bool) {
	if !below(page, Pages) || !below(at, FrameWords) {
		return 0, false
	}
	return page*FrameWords + at, true
}

func isAddress(n int) bool {
	return below(n, Pages*FrameWords)
}

// below tells whether n is one of the first numbers from 0 on, as many as limit.
func below(n int, limit int) bool {
	return n >= 0 && n < limit
}
