// Package rising puts lists together whose elements rise.
package rising

import "slices"

// Merge returns the elements of two rising lists, those that are equal once; false if two that differ have the same place.
func Merge[T comparable](a, b []T, compare func(x, y T) int) ([]T, bool) {
	all := slices.Concat(a, b)
	slices.SortFunc(all, compare)
	all = slices.Compact(all)
	for i := 1; i < len(all); i++ {
		if compare(all[i-1], all[i]) == 0 {
			return nil, false
		}
	}
	return all, true
}
