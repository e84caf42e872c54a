package policy

import (
	"slices"
	"strings"
)

// rising tells whether each name in a list stands above the one ahead of it.
func rising[T any](list []T, nameOf func(T) string) bool {
	for i := 1; i < len(list); i++ {
		if nameOf(list[i-1]) >= nameOf(list[i]) {
			return false
		}
	}
	return true
}

// place tells where a name is in a list of rising names; if it isn't there, where it would be, and false.
func place[T any](list []T, name string, nameOf func(T) string) (int, bool) {
	return slices.BinarySearchFunc(list, name, func(one T, wanted string) int {
		return strings.Compare(nameOf(one), wanted)
	})
}

// placed is a list of rising names with one more in its order; false, if there is one of its name, or no room for it.
func placed[T any](list []T, one T, most int, nameOf func(T) string) ([]T, bool) {
	at, there := place(list, nameOf(one), nameOf)
	if there || len(list) >= most {
		return nil, false
	}
	return slices.Insert(list, at, one), true
}
