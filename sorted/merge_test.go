package sorted

import (
	"cmp"
	"slices"
	"testing"
)

func TestMerge(t *testing.T) {
	// Of two equal numbers, the sum stays unless it is zero.
	type item struct{ key, value int }
	order := func(x, y item) int { return cmp.Compare(x.key, y.key) }
	join := func(x, y item) (item, bool) { return item{x.key, x.value + y.value}, x.value+y.value != 0 }
	for _, c := range []struct{ a, b, want []item }{
		{nil, nil, nil},
		{[]item{{1, 5}}, nil, []item{{1, 5}}},
		{nil, []item{{1, 5}, {2, 6}}, []item{{1, 5}, {2, 6}}},
		{[]item{{1, 5}, {4, 1}}, []item{{2, 6}, {3, 7}, {9, 2}}, []item{{1, 5}, {2, 6}, {3, 7}, {4, 1}, {9, 2}}},
		{[]item{{1, 5}, {2, 3}, {3, 3}}, []item{{2, 6}, {3, -3}, {4, 4}}, []item{{1, 5}, {2, 9}, {4, 4}}},
		{[]item{{1, 5}}, []item{{1, -5}}, nil},
	} {
		before, other := slices.Clone(c.a), slices.Clone(c.b)
		got := Merge(c.a, c.b, order, join)
		if !slices.Equal(got, c.want) {
			t.Errorf("Merge of %v and %v is %v", c.a, c.b, got)
		}
		got = append(got, item{7, 7})
		got[0].value++
		if !slices.Equal(c.a, before) || !slices.Equal(c.b, other) {
			t.Errorf("Merge changes %v or %v, or shares memory with it", before, other)
		}
	}
}
