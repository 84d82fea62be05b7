// Package sorted has what sorted slices of any kind need. It is no layer.
package sorted

// Merge returns the items of two sorted slices in one. order compares two items as cmp.Compare does; of two that are equal, join makes one, or none if it reports false.
func Merge[T any](a, b []T, order func(x, y T) int, join func(x, y T) (T, bool)) []T {
	merged := make([]T, 0, len(a)+len(b))
	for len(a) > 0 && len(b) > 0 {
		switch way := order(a[0], b[0]); {
		case way < 0:
			merged = append(merged, a[0])
			a = a[1:]
		case way > 0:
			merged = append(merged, b[0])
			b = b[1:]
		default:
			if both, stays := join(a[0], b[0]); stays {
				merged = append(merged, both)
			}
			a, b = a[1:], b[1:]
		}
	}
	merged = append(merged, a...)
	return append(merged, b...)
}
