package pick

import (
	"slices"

	"glyph/api"
	"glyph/array"
	"glyph/rat"
)

// site is where in an array some places are: the shape that they have together, and the ravel place of each item.
type site struct {
	shape, places []int
}

// At is items of an array by places, one list for each axis: of a list without an array all, else those of its one.
func At(e api.Env, a api.Array, places ...[]api.Array) (api.Array, api.Errno) {
	if !areRight(e, a) || !areLists(places) {
		return api.Array{}, api.ErrForm
	}
	s, x := located(e.IO, a.Shape, places)
	if x != api.OK {
		return api.Array{}, x
	}
	return s.taken(a)
}

// PutAt is an array with other items in such places.
func PutAt(e api.Env, a, b api.Array, places ...[]api.Array) (api.Array, api.Errno) {
	if !areRight(e, a, b) || !areLists(places) {
		return api.Array{}, api.ErrForm
	}
	s, x := located(e.IO, a.Shape, places)
	if x != api.OK {
		return api.Array{}, x
	}
	if _, x := s.taken(a); x != api.OK {
		return api.Array{}, x
	}
	if x := s.unlike(b); x != api.OK {
		return api.Array{}, x
	}
	return s.put(a, b)
}

// areLists tells whether each list of places has one right array at most.
func areLists(places [][]api.Array) bool {
	for _, l := range places {
		if len(l) > 1 || len(l) == 1 && !array.Right(l[0]) {
			return false
		}
	}
	return true
}

// located are places of an array of a shape.
func located(origin int, shape []int, places [][]api.Array) (site, api.Errno) {
	if len(places) != len(shape) {
		return site{}, api.Rank
	}
	var s site
	for k, l := range places {
		s.shape = append(s.shape, shapeOf(l, shape[k])...)
	}
	if len(s.shape) > api.MaxRank {
		return site{}, api.Rank
	}
	var steps [][]int
	for k, l := range places {
		along, x := stepsOf(origin, l, shape[k])
		if x != api.OK {
			return site{}, x
		}
		steps = append(steps, along)
	}
	size, x := array.Size(s.shape)
	if x != api.OK {
		return site{}, x
	}
	if size > 0 {
		s.places = crossed(shape, steps)
	}
	return s, api.OK
}

// shapeOf is the shape of a list of places along an axis.
func shapeOf(l []api.Array, length int) []int {
	if len(l) == 0 {
		return []int{length}
	}
	return l[0].Shape
}

// stepsOf are the places, from 0 on, of a list along an axis.
func stepsOf(origin int, l []api.Array, length int) ([]int, api.Errno) {
	if len(l) == 0 {
		all := make([]int, length)
		for i := range all {
			all[i] = i
		}
		return all, api.OK
	}
	own := items(l[0])
	if !areWhole(own) {
		return nil, api.Domain
	}
	var out []int
	for _, i := range own {
		step, ok := stepOf(origin, i, length)
		if !ok {
			return nil, api.Index
		}
		out = append(out, step)
	}
	return out, api.OK
}

// stepOf is the place, from 0 on, along an axis, that a whole number tells; false: there is none.
func stepOf(origin int, i api.Item, length int) (int, bool) {
	n, ok := rat.ToInt(i.Num)
	if !ok || n < origin || n-origin >= length {
		return 0, false
	}
	return n - origin, true
}

// crossed are the ravel places of all steps along one axis with all those along the others, the last axis running fastest. There is one step along each axis at least, so there are never more on the way than at last.
func crossed(shape []int, steps [][]int) []int {
	out := []int{0}
	for k, along := range steps {
		var further []int
		for _, place := range out {
			for _, step := range along {
				further = append(further, place*shape[k]+step)
			}
		}
		out = further
	}
	return out
}

func (s site) taken(a api.Array) (api.Array, api.Errno) {
	var out []api.Item
	for _, place := range s.places {
		out = append(out, a.Items[place])
	}
	return made(s.shape, array.Proto(a), out)
}

// unlike is the error of an array whose items do not fit in the places.
func (s site) unlike(b api.Array) api.Errno {
	to, from := withoutOnes(s.shape), withoutOnes(b.Shape)
	switch {
	case len(items(b)) == 1:
		return api.OK
	case len(to) != len(from):
		return api.Rank
	case !slices.Equal(to, from):
		return api.Length
	}
	return api.OK
}

func withoutOnes(shape []int) []int {
	return slices.DeleteFunc(slices.Clone(shape), func(n int) bool { return n == 1 })
}

// put has the one item of b in all places, or each in its own.
func (s site) put(a, b api.Array) (api.Array, api.Errno) {
	if len(s.places) == 0 {
		return array.Copy(a), api.OK
	}
	out := slices.Clone(a.Items)
	for i, place := range s.places {
		out[place] = b.Items[i%len(b.Items)]
	}
	return made(a.Shape, array.Proto(a), out)
}
