package fact

import (
	"slices"
	"timebound/api"
)

// Map says a fact about other blocks.
func Map(f api.Fact, to [][]int) (api.Fact, api.Errno) {
	if e := Check(f); e != api.OK {
		return api.Fact{}, e
	}
	if !valid(to) {
		return api.Fact{}, api.ErrForm
	}
	var terms []api.Term
	for _, t := range f.Terms {
		if t.Of >= len(to) {
			return api.Fact{}, api.ErrBlock
		}
		for _, b := range to[t.Of] {
			terms = append(terms, api.Term{Of: b, Coef: t.Coef})
		}
	}
	return Of(terms, f.Most)
}

// Points carries lists of blocks along.
func Points(points [][]int, to [][]int) ([][]int, api.Errno) {
	if !valid(points) || !valid(to) {
		return nil, api.ErrForm
	}
	if !listed(points, to) {
		return nil, api.ErrBlock
	}
	out := make([][]int, len(points))
	for i, list := range points {
		for _, b := range list {
			out[i] = append(out[i], to[b]...)
			if len(out[i]) > mostBlocks {
				return nil, api.ErrLimit
			}
		}
	}
	return out, api.OK
}

// valid reports whether lists are a map.
func valid(to [][]int) bool {
	wrong := func(b int) bool { return !block(b) }
	return len(to) <= mostBlocks && !slices.ContainsFunc(to, func(list []int) bool {
		return len(list) > mostBlocks || slices.ContainsFunc(list, wrong)
	})
}

// listed reports whether a map has a list for each block of points.
func listed(points, to [][]int) bool {
	missing := func(b int) bool { return b >= len(to) }
	return !slices.ContainsFunc(points, func(list []int) bool { return slices.ContainsFunc(list, missing) })
}
