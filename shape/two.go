package shape

import (
	"slices"

	"glyph/api"
	"glyph/array"
)

// wholes are the whole numbers of an argument; may is the error of so many.
func wholes(a api.Array, may func(n int) api.Errno) ([]int, api.Errno) {
	if len(a.Shape) > 1 {
		return nil, api.Rank
	}
	if e := may(count(a)); e != api.OK {
		return nil, e
	}
	l, ok := array.ToInts(a)
	if !ok {
		return nil, api.Domain
	}
	return l, api.OK
}

func reshaped(a, b api.Array) (api.Array, api.Errno) {
	l, e := wholes(a, fewAxes)
	if e != api.OK {
		return api.Array{}, e
	}
	if count(b) == 0 {
		return array.Make(l, array.Proto(b))
	}
	return array.Make(l, b.Items...)
}

func fewAxes(n int) api.Errno {
	if n > api.MaxRank {
		return api.Rank
	}
	return api.OK
}

func taken(a, b api.Array) (api.Array, api.Errno) {
	l, b, e := perAxis(a, b)
	if e != api.OK {
		return api.Array{}, e
	}
	sizes := make([]int, len(l))
	for k, n := range l {
		sizes[k] = max(n, -n)
	}
	if _, e := array.Size(sizes); e != api.OK {
		return api.Array{}, e
	}
	all := steps(b.Shape)
	for k, n := range l {
		all[k] = takenOf(all[k], n)
	}
	return selected(b, all)
}

// takenOf is so many of a list from the front, or, below 0, from the end; what is missing lies nowhere.
func takenOf(l []int, n int) []int {
	missing := slices.Repeat([]int{nowhere}, max(max(n, -n)-len(l), 0))
	if n < 0 {
		return slices.Concat(missing, l[max(len(l)+n, 0):])
	}
	return slices.Concat(l[:min(n, len(l))], missing)
}

func dropped(a, b api.Array) (api.Array, api.Errno) {
	l, b, e := perAxis(a, b)
	if e != api.OK {
		return api.Array{}, e
	}
	all := steps(b.Shape)
	for k, n := range l {
		all[k] = droppedOf(all[k], n)
	}
	return selected(b, all)
}

// droppedOf is a list without so many at the front, or, below 0, at the end.
func droppedOf(l []int, n int) []int {
	if n < 0 {
		return l[:max(len(l)+n, 0)]
	}
	return l[min(n, len(l)):]
}

// perAxis are the whole numbers of a, one for each axis of b, and b: a scalar with as many axes of length 1.
func perAxis(a, b api.Array) ([]int, api.Array, api.Errno) {
	l, e := wholes(a, func(n int) api.Errno {
		if len(b.Shape) == 0 {
			return fewAxes(n)
		}
		return justSoMany(n, len(b.Shape))
	})
	if e != api.OK {
		return nil, api.Array{}, e
	}
	if len(b.Shape) == 0 {
		b.Shape = slices.Repeat([]int{1}, len(l))
	}
	// More than any axis may have does the same, however great it is, and can be turned about.
	const most = api.MaxItems + 1
	for k, n := range l {
		l[k] = max(-most, min(n, most))
	}
	return l, b, api.OK
}

func justSoMany(n, many int) api.Errno {
	if n != many {
		return api.Length
	}
	return api.OK
}

func rotated(axis int, a, b api.Array) (api.Array, api.Errno) {
	if count(a) != 1 {
		return api.Array{}, api.Length
	}
	n, ok := array.ToInt(a)
	if !ok {
		return api.Array{}, api.Domain
	}
	return permuted(axis, b, func(l []int) []int {
		first := (n%len(l) + len(l)) % len(l)
		return slices.Concat(l[first:], l[:first])
	})
}

func transposedBy(origin int, a, b api.Array) (api.Array, api.Errno) {
	axes, e := wholes(a, func(n int) api.Errno { return justSoMany(n, len(b.Shape)) })
	if e != api.OK {
		return api.Array{}, e
	}
	for k := range axes {
		if axes[k] < origin || axes[k] >= origin+len(axes) {
			return api.Array{}, api.Domain
		}
		axes[k] -= origin
	}
	for _, greatest := range axes {
		for axis := range greatest {
			if !slices.Contains(axes, axis) {
				return api.Array{}, api.Domain
			}
		}
	}
	return laidAlong(axes, b)
}

// replicated asks of a scalar b as of a vector of it, just long enough.
func replicated(axis int, a, b api.Array) (api.Array, api.Errno) {
	all := spread(b, count(a))
	places := len(all[axis])
	often, e := wholes(a, func(n int) api.Errno {
		if n == 1 {
			return api.OK
		}
		return justSoMany(n, places)
	})
	if e != api.OK {
		return api.Array{}, e
	}
	if len(often) > 0 && slices.Min(often) < 0 {
		return api.Array{}, api.Domain
	}
	if len(often) == 1 {
		often = slices.Repeat(often, places)
	}
	shape := lengths(all)
	shape[axis] = sum(often)
	if _, e := array.Size(shape); e != api.OK {
		return api.Array{}, e
	}
	all[axis] = repeated(all[axis], often)
	return selected(b, all)
}

// spread are the steps of an array; of a scalar those of a vector of it.
func spread(b api.Array, long int) [][]int {
	if len(b.Shape) == 0 {
		return [][]int{make([]int, long)}
	}
	return steps(b.Shape)
}

// sum is that of numbers of which none is below 0; those that are too great for a length count just so much that the sum is, too.
func sum(l []int) int {
	out := 0
	for _, n := range l {
		out += min(n, api.MaxItems+1)
	}
	return out
}

func repeated(l, often []int) []int {
	var out []int
	for k, n := range often {
		out = append(out, slices.Repeat(l[k:k+1], n)...)
	}
	return out
}

// expanded asks of a scalar b as of a vector of it, just long enough.
func expanded(axis int, a, b api.Array) (api.Array, api.Errno) {
	bits, e := wholes(a, func(int) api.Errno { return api.OK })
	if e != api.OK {
		return api.Array{}, e
	}
	ones := 0
	for _, bit := range bits {
		if bit != 0 && bit != 1 {
			return api.Array{}, api.Domain
		}
		ones += bit
	}
	all := spread(b, ones)
	if len(all[axis]) != ones {
		return api.Array{}, api.Length
	}
	all[axis] = opened(all[axis], bits)
	return selected(b, all)
}

// opened is a list with a gap, which lies nowhere, where there is a 0.
func opened(l, bits []int) []int {
	var out []int
	for _, bit := range bits {
		if bit == 0 {
			out = append(out, nowhere)
			continue
		}
		out, l = append(out, l[0]), l[1:]
	}
	return out
}
