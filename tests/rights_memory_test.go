package tests

import (
	"slices"
	"testing"

	"loop.example/exopager/impl"
)

func spoilRights(list []string) {
	for i := range list {
		list[i] = "spoiled"
	}
}

// roomyRights is the list in a slice with room behind it, which holds texts that do not count.
func roomyRights(list []string) []string {
	store := append(slices.Clone(list), "cccc", "a", "a", "d", "", "behind", "cccc", "behind")
	return store[:len(list)]
}

// rightsChanges add and drop rights; among them are those that leave each list as it is.
func rightsChanges() []listChange[string] {
	all := []listChange[string]{}
	for _, s := range append(slices.Clone(shortRights), "aaa", "abca", "cccc", "d", "aaaaa") {
		all = append(all,
			listChange[string]{"RightsAdd of " + s, func(list []string) []string {
				got, _ := impl.RightsAdd(list, s)
				return got
			}},
			listChange[string]{"RightsDrop of " + s, func(list []string) []string { return impl.RightsDrop(list, s) }})
	}
	return all
}

// listsToChange are valid and invalid lists.
func listsToChange() [][]string {
	lists := append(writtenRights(), mixedRights()[:60]...)
	for _, x := range slices.Concat(doubledRights(), unorderedRights(), longRights()[:20], faultyRights()[:8]) {
		lists = append(lists, x.list)
	}
	return lists
}

// P39 to P44: no function changes a list, or what lies behind it, and none reads that.
func TestRightsAreLeft(t *testing.T) {
	for _, start := range listsToChange() {
		list := roomyRights(start)
		before := slices.Clone(list[:cap(list)])
		if impl.RightsValid(list) != impl.RightsValid(start) {
			t.Errorf("RightsValid of %q depends on what is behind it", start)
		}
		for _, s := range guardsFor(start) {
			if impl.RightsMay(list, s) != impl.RightsMay(start, s) {
				t.Errorf("RightsMay(%q, %q) depends on what is behind it", start, s)
			}
		}
		if !slices.Equal(list[:cap(list)], before) {
			t.Fatalf("%q is changed to %q", before, list[:cap(list)])
		}
		checkUntouched(t, start, roomyRights, rightsChanges())
	}
}

// P41, P42, P43: a result and the list of which it was made share nothing.
func TestChangedRightsShareNothing(t *testing.T) {
	for _, start := range listsToChange() {
		checkApart(t, start, roomyRights, "spoiled", rightsChanges())
	}
}

// P41, P42, P43: two results of one list share nothing.
func TestTwoRightsShareNothing(t *testing.T) {
	for _, start := range append(writtenRights(), mixedRights()[:30]...) {
		checkResultsApart(t, start, roomyRights, "spoiled", rightsChanges())
	}
}

// P41, P42, P43: rights that come from a call are changed by none that gets them.
func TestRightsOfRights(t *testing.T) {
	list := []string{"a", "ab", "b", "c"}
	more, _ := impl.RightsAdd(list, "aa")
	most, _ := impl.RightsAdd(more, "ba")
	same, _ := impl.RightsAdd(most, "ba")
	full, ok := impl.RightsAdd(most, "cc")
	less := impl.RightsDrop(most, "a")
	all := impl.RightsDrop(most, "abc")
	spoilRights(most)
	for _, got := range [][]string{same, full, all} {
		if !slices.Equal(got, []string{"a", "aa", "ab", "b", "ba", "c"}) || ok {
			t.Errorf("the rights are %q, %t", got, ok)
		}
		spoilRights(got)
	}
	if !slices.Equal(less, []string{"b", "ba", "c"}) || !slices.Equal(more, []string{"a", "aa", "ab", "b", "c"}) || !slices.Equal(list, []string{"a", "ab", "b", "c"}) {
		t.Errorf("the rights are %q, %q and %q", less, more, list)
	}
}

// P36 to P44: a call depends on nothing that earlier calls did.
func TestNoRightIsKept(t *testing.T) {
	list := []string{"a", "b"}
	checkAdded(t, list, "c", "a", "b", "c")
	checkAdded(t, list, "aa", "a", "aa", "b")
	checkLeft(t, list, "a", "b")
	checkMay(t, list, "ab", true)
	checkMay(t, list, "c", false)
	list[0] = "aa"
	checkMay(t, list, "ab", false)
	checkMay(t, list, "aab", true)
	checkLeft(t, list, "a", "b")
	list[0] = "c"
	checkRights(t, list, false)
	checkNothing(t, list, "b")
	list[1] = "cc"
	checkRights(t, list, true)
	checkAdded(t, list, "", "", "c", "cc")
	checkMay(t, list, "", false)
	checkMay(t, nil, "c", false)
	checkAdded(t, nil, "b", "b")
	checkLeft(t, []string{"a"}, "c", "a")
}
