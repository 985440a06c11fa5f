package tests

import (
	"slices"
	"strconv"
	"testing"

	"loop.example/exopager/impl"
)

var spoiledInfo = info(-77, "spoiled", -77)

func spoilInfos(list []impl.Info) {
	for i := range list {
		list[i] = spoiledInfo
	}
}

// roomyInfos is the list in a slice with room behind it, which holds frames that do not count.
func roomyInfos(list []impl.Info) []impl.Info {
	store := append(slices.Clone(list), info(1, "a", 0), info(0, "", 0), info(4, "d", -1), info(3, "c", 50))
	return store[:len(list)]
}

// infosChanges take and give frames; among them are those that fail.
func infosChanges() []listChange[impl.Info] {
	all := []listChange[impl.Info]{}
	for _, guard := range []string{"", "a", "cccc", "d"} {
		all = append(all, listChange[impl.Info]{"InfosTake under " + guard, func(list []impl.Info) []impl.Info {
			got, _, _ := impl.InfosTake(list, guard)
			return got
		}})
	}
	for frame := -1; frame <= 12; frame++ {
		all = append(all, listChange[impl.Info]{"InfosGive of " + strconv.Itoa(frame), func(list []impl.Info) []impl.Info {
			got, _ := impl.InfosGive(list, frame)
			return got
		}})
	}
	return all
}

// infosToChange are valid and invalid lists.
func infosToChange() [][]impl.Info {
	lists := writtenInfos()
	for n := 0; n < 4096; n += 41 {
		lists = append(lists, withFree(dataInfos(), framesOfNumber(n)...), withFree(usedInfos(n), framesOfNumber(n)...))
	}
	for i, x := range slices.Concat(faultyInfos(), otherInfos(), doublyInvalidInfos()) {
		if i%97 == 0 && len(x.list) < 50 {
			lists = append(lists, x.list)
		}
	}
	return lists
}

// P45 to P50: no function changes a list, or what lies behind it, and none reads that.
func TestInfosAreLeft(t *testing.T) {
	for _, start := range infosToChange() {
		list := roomyInfos(start)
		before := slices.Clone(list[:cap(list)])
		checkInfos(t, list, impl.InfosValid(start))
		checkFree(t, list, impl.InfosFree(start))
		if !slices.Equal(list[:cap(list)], before) {
			t.Fatalf("%v is changed to %v", before, list[:cap(list)])
		}
		checkUntouched(t, start, roomyInfos, infosChanges())
	}
}

// P45, P47: a result and the list of which it was made share nothing.
func TestChangedInfosShareNothing(t *testing.T) {
	for _, start := range infosToChange() {
		checkApart(t, start, roomyInfos, spoiledInfo, infosChanges())
	}
}

// P45, P47: two results of one list share nothing.
func TestTwoInfosShareNothing(t *testing.T) {
	for _, start := range append(writtenInfos(), withFree(dataInfos(), 2, 9)) {
		checkResultsApart(t, start, roomyInfos, spoiledInfo, infosChanges())
	}
}

// P45, P47, P48: lists that come from a call are changed by none that gets them.
func TestInfosOfInfos(t *testing.T) {
	list := withFree(dataInfos(), 3, 8)
	one, _, _ := impl.InfosTake(list, "a")
	two, _, _ := impl.InfosTake(one, "b")
	back, _ := impl.InfosGive(two, 3)
	other, _ := impl.InfosGive(two, 8)
	spoilInfos(two)
	again, _, _ := impl.InfosTake(back, "c")
	spoilInfos(back)
	wants := [][]impl.Info{
		withFree(dataInfos(), 3, 8),
		withInfo(withFree(dataInfos(), 8), 3, info(1, "a", 0)),
		withInfo(withFree(dataInfos(), 8), 3, info(1, "a", 0)),
		withInfo(withInfo(dataInfos(), 3, info(1, "c", 0)), 8, info(1, "b", 0)),
	}
	for i, got := range [][]impl.Info{list, one, other, again} {
		if !slices.Equal(got, wants[i]) {
			t.Errorf("list %d is %v, not %v", i, got, wants[i])
		}
	}
}

// P45 to P50: a call depends on nothing that earlier calls did.
func TestNoFrameIsKept(t *testing.T) {
	list := withFree(dataInfos(), 4, 6)
	checkTaken(t, list, "a", 4)
	checkTaken(t, list, "b", 4)
	checkFree(t, list, 2)
	checkGiven(t, list, 5)
	checkTaken(t, list, "", 4)
	list[4] = info(3, "ab", 7)
	checkTaken(t, list, "", 6)
	checkNotGiven(t, list, 4)
	list[4] = info(3, "ab", 51)
	checkInvalidInfos(t, "a change", list, []string{"a"}, allFrames())
	checkTaken(t, freeInfos(), "a", 0)
	checkFree(t, nil, -1)
	list[4] = info(1, "ab", 0)
	checkGiven(t, list, 4)
	checkFree(t, list, 1)
	list[6] = info(1, "", 0)
	checkFree(t, list, 0)
	checkNotTaken(t, list, "a")
	checkTaken(t, freeInfos(), "", 0)
}
