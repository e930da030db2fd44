package origin

import (
	"slices"

	"cocket/api"
)

// semiring is values with a sum, of which nothing is the empty one, and a product, of which all is the empty one.
type semiring[T any] struct {
	nothing, all T
	sum, product func(a, b T) T
}

// made is the value of a thing, by those of what has lesser numbers.
func (r semiring[T]) made(ways [][]int, before []T) T {
	sum := r.nothing
	for _, way := range ways {
		product := r.all
		for _, part := range way {
			product = r.product(product, before[part])
		}
		sum = r.sum(sum, product)
	}
	return sum
}

// term is the value of a term, by those of the sources.
func (r semiring[T]) term(t api.Term, sources []T) T {
	product := r.all
	for source, power := range t.Powers {
		product = r.product(product, repeated(r.product, r.all, sources[source], power))
	}
	return repeated(r.sum, r.nothing, product, t.Times)
}

// repeated is the sum or product of a value that stands so many times, by doubling it: there may be MaxTimes of it.
func repeated[T any](join func(a, b T) T, empty, v T, times int) T {
	result := empty
	for times > 0 {
		if times%2 == 1 {
			result = join(result, v)
		}
		v = join(v, v)
		times /= 2
	}
	return result
}

// valued values all sources, and the things up to no, in a semiring, as traced does.
func valued[T any](r semiring[T], sources []T, things []api.Made, no int) []T {
	return traced(sources, things, no, r.made)
}

// traced gives the sources their values, and each thing up to no what made says of it.
// A thing from which no does not come keeps a zero value instead: what is wrong with it plays no part.
func traced[T any](sources []T, things []api.Made, no int, made func(ways [][]int, before []T) T) []T {
	m := len(sources)
	values := slices.Clone(sources)
	origins := originsOf(m, things, no)
	for number := m; number <= no; number++ {
		var v T
		if origins[number] {
			v = made(things[number-m].Ways, values)
		}
		values = append(values, v)
	}
	return values
}

// originsOf tells of each number whether it is no, or no comes from it, at whatever distance.
func originsOf(m int, things []api.Made, no int) []bool {
	origins := make([]bool, m+len(things))
	origins[no] = true
	for number := no; number >= m; number-- {
		if !origins[number] {
			continue
		}
		for _, way := range things[number-m].Ways {
			for _, part := range way {
				origins[part] = true
			}
		}
	}
	return origins
}
