package parse

import (
	"iter"

	"glyph/api"
)

// node is a tree or a function in a tree, with its text, and whether that is a name.
type node struct {
	text  string
	tree  bool
	named bool
}

// deepest is how many levels of parts in one another are walked: all that may come up. What lies in itself has more.
const deepest = 1 << 16

// nodes yields all trees and functions of a tree, each ahead of its parts.
func nodes(t api.Tree) iter.Seq[node] {
	return func(yield func(node) bool) {
		walkTree(t, deepest, yield)
	}
}

// ends tells whether a tree has an end, so that it can be gone through.
func ends(t api.Tree) bool {
	return walkTree(t, deepest, func(node) bool { return true })
}

// walkTree tells whether it came through, in at most so many levels.
func walkTree(t api.Tree, levels int, yield func(node) bool) bool {
	return levels > 0 && yield(node{t.Text, true, bearsName(t.Kind)}) && walkFuncs(t.Fn, levels-1, yield) && walkTrees(t.Parts, levels-1, yield)
}

func walkTrees(l []api.Tree, levels int, yield func(node) bool) bool {
	for _, t := range l {
		if !walkTree(t, levels, yield) {
			return false
		}
	}
	return true
}

func walkFuncs(l []api.Func, levels int, yield func(node) bool) bool {
	for _, f := range l {
		named := f.Kind == api.User && f.Text != "∇"
		if levels == 0 || !yield(node{f.Text, false, named}) || !walkFuncs(f.Parts, levels-1, yield) || !walkTrees(f.Where, levels-1, yield) {
			return false
		}
	}
	return true
}

// bearsName tells whether the text of trees of a kind is a name.
func bearsName(kind api.TreeKind) bool {
	switch kind {
	case api.Name, api.Assign, api.AssignAt, api.Niladic:
		return true
	}
	return false
}
