package tree

import (
	"iter"
	"slices"

	"isochrone/api"
)

// nodes yields the nodes of a tree in preorder with their paths. A path changes when the walk goes on.
func nodes(root *api.Node) iter.Seq2[[]int, *api.Node] {
	return func(yield func([]int, *api.Node) bool) {
		walk(root, nil, yield)
	}
}

// walk yields the nodes below a node at a path and the node itself, and reports whether all of them were wanted.
func walk(node *api.Node, path []int, yield func([]int, *api.Node) bool) bool {
	if !yield(path, node) {
		return false
	}
	path = append(path, 0)
	for i := range node.Kids {
		path[len(path)-1] = i
		if !walk(&node.Kids[i], path, yield) {
			return false
		}
	}
	return true
}

// follow returns the node at a path, nil if the path leaves the tree.
func follow(node *api.Node, path []int) *api.Node {
	for _, i := range path {
		if i < 0 || i >= len(node.Kids) {
			return nil
		}
		node = &node.Kids[i]
	}
	return node
}

// grafted returns the tree with another node at a path that does not leave it. It shares all other nodes with the tree.
func grafted(node api.Node, path []int, with api.Node) api.Node {
	if len(path) == 0 {
		return with
	}
	node.Kids = slices.Clone(node.Kids)
	node.Kids[path[0]] = grafted(node.Kids[path[0]], path[1:], with)
	return node
}

// copied returns a tree that shares no memory with the given one.
func copied(node *api.Node) api.Node {
	result := *node
	result.Num.Num = slices.Clone(node.Num.Num)
	result.Num.Den = slices.Clone(node.Num.Den)
	result.Kids = slices.Clone(node.Kids)
	for i := range result.Kids {
		result.Kids[i] = copied(&node.Kids[i])
	}
	return result
}
