package oper

import (
	"slices"

	"glyph/api"
)

// deepest is how many levels of parts in one another are copied: all that may come up. What lies in itself has more.
const deepest = 1 << 16

// copies are functions with lists of their own, whether they are right or not.
func copies(l ...api.Func) []api.Func {
	var out []api.Func
	for _, f := range l {
		f, _ = copyFunc(f, deepest)
		out = append(out, f)
	}
	return out
}

// copyList is a list with each of its things copied; false: there are more levels than that.
func copyList[T any](l []T, levels int, one func(T, int) (T, bool)) ([]T, bool) {
	var out []T
	for _, thing := range l {
		if levels == 0 {
			return nil, false
		}
		thing, ok := one(thing, levels-1)
		if !ok {
			return nil, false
		}
		out = append(out, thing)
	}
	return out, true
}

func copyFunc(f api.Func, levels int) (api.Func, bool) {
	parts, ok := copyList(f.Parts, levels, copyFunc)
	if !ok {
		return api.Func{}, false
	}
	where, ok := copyList(f.Where, levels, copyTree)
	if !ok {
		return api.Func{}, false
	}
	return api.Func{Kind: f.Kind, Text: f.Text, Parts: parts, Where: where, At: f.At}, true
}

func copyTree(t api.Tree, levels int) (api.Tree, bool) {
	constant, ok := copyArray(t.Array, levels)
	if !ok {
		return api.Tree{}, false
	}
	functions, ok := copyList(t.Fn, levels, copyFunc)
	if !ok {
		return api.Tree{}, false
	}
	parts, ok := copyList(t.Parts, levels, copyTree)
	if !ok {
		return api.Tree{}, false
	}
	return api.Tree{Kind: t.Kind, Text: t.Text, Array: constant, Fn: functions, Parts: parts, At: t.At}, true
}

func copyArray(a api.Array, levels int) (api.Array, bool) {
	items, ok := copyList(a.Items, levels, copyItem)
	if !ok {
		return api.Array{}, false
	}
	return api.Array{Shape: slices.Clone(a.Shape), Items: items}, true
}

func copyItem(i api.Item, levels int) (api.Item, bool) {
	box, ok := copyList(i.Box, levels, copyArray)
	if !ok {
		return api.Item{}, false
	}
	i.Num.Num, i.Num.Den, i.Box = slices.Clone(i.Num.Num), slices.Clone(i.Num.Den), box
	return i, true
}
