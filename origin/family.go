package origin

import "cocket/api"

// family is a family of sets of sources: its bit s, from the lowest one on, tells whether the set s is in it. (A set is told as the sum of 2^source; of MaxSources sources there are 64.)
type family uint64

func (f family) has(set int) bool {
	return f>>set&1 == 1
}

// isLeast reports whether the set is in the family, but not without any one of its sources.
// This suffices where the family has, with a set, all that contain it.
func (f family) isLeast(m, set int) bool {
	if !f.has(set) {
		return false
	}
	for source := range m {
		if set&only(source) != 0 && f.has(set&^only(source)) {
			return false
		}
	}
	return true
}

func only(source int) int {
	return 1 << source
}

// everything is the set of all sources.
func everything(m int) int {
	return 1<<m - 1
}

// familyOf returns the sets of sources that suffice to make a thing.
func familyOf(m int, things []api.Made, no int) family {
	ring := semiring[family]{
		nothing: 0,
		all:     ^family(0),
		sum:     func(a, b family) family { return a | b },
		product: func(a, b family) family { return a & b },
	}
	sources := make([]family, m)
	for source := range sources {
		for set := range everything(m) + 1 {
			if set&only(source) != 0 {
				sources[source] |= 1 << set
			}
		}
	}
	return valued(ring, sources, things, no)[no]
}
