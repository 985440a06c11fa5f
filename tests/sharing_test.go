package tests

import (
	"slices"
	"testing"
)

// listChange is a function that makes a list of another one, with all its arguments but the list.
type listChange[T any] struct {
	name string
	do   func(list []T) []T
}

// writesOf are the ways to write to a list: to all that it has, and only behind it, if there is room.
func writesOf[T any](junk T) []func([]T) {
	return []func([]T){
		func(list []T) {
			for i := range list {
				list[i] = junk
			}
		},
		func(list []T) { _ = append(list, junk, junk) },
	}
}

// checkUntouched expects that a call neither changes the list, or what is in the room behind it, nor reads that.
func checkUntouched[T comparable](t *testing.T, start []T, room func([]T) []T, changes []listChange[T]) {
	t.Helper()
	list := room(start)
	before := slices.Clone(list[:cap(list)])
	for _, x := range changes {
		if got, want := x.do(list), x.do(slices.Clip(slices.Clone(start))); !slices.Equal(got, want) {
			t.Errorf("%s of %v is %v, with room behind it, and otherwise %v", x.name, start, got, want)
		}
		if !slices.Equal(list[:cap(list)], before) {
			t.Fatalf("%s changes %v to %v", x.name, before, list[:cap(list)])
		}
	}
}

// checkApart expects that a result and the list of which it was made share nothing: neither is changed with the other one, nor by an append to it.
func checkApart[T comparable](t *testing.T, start []T, room func([]T) []T, junk T, changes []listChange[T]) {
	t.Helper()
	for _, x := range changes {
		for _, write := range writesOf(junk) {
			list := room(start)
			before := slices.Clone(list[:cap(list)])
			write(x.do(list))
			if !slices.Equal(list[:cap(list)], before) {
				t.Fatalf("%s: a change of the result changes %v to %v", x.name, before, list[:cap(list)])
			}
			got := x.do(list)
			want := slices.Clone(got)
			write(list)
			if !slices.Equal(got, want) {
				t.Fatalf("%s: a change of %v changes the result from %v to %v", x.name, before, want, got)
			}
		}
	}
}

// checkResultsApart expects that two results of one list share nothing, of the same function or of two. What is appended to one of them is not written over by the other one either.
func checkResultsApart[T comparable](t *testing.T, start []T, room func([]T) []T, junk T, changes []listChange[T]) {
	t.Helper()
	for _, x := range changes {
		for _, y := range changes {
			list := room(start)
			one, two := x.do(list), y.do(list)
			want := slices.Clone(two)
			var zero T
			longer := append(two, zero)
			for _, write := range writesOf(junk) {
				write(one)
			}
			if !slices.Equal(two, want) || !slices.Equal(longer, append(want, zero)) {
				t.Fatalf("of %v, a change of %s changes %s", start, x.name, y.name)
			}
		}
	}
}
