package origin

import (
	"slices"

	"cocket/api"
)

// powers is the power of each source; those of sources that there are not stay 0.
type powers [api.MaxSources]int

func (a powers) plus(b powers) powers {
	for source := range a {
		a[source] += b[source]
	}
	return a
}

// polynomial is the terms of a polynomial: how often the powers of each stand in it.
// A full one has more of them, or greater ones, than a polynomial may, and they are not known.
type polynomial struct {
	times map[powers]int
	full  bool
}

// add adds a term. Nothing that is added later can make a full polynomial less full: no term is ever taken away.
func (p *polynomial) add(of powers, n int) {
	p.times[of] = plus(p.times[of], n)
	if len(p.times) > api.MaxTerms || isBeyond(p.times[of]) || slices.Max(of[:]) > api.MaxPower {
		p.full = true
	}
}

func (p polynomial) isNothing() bool {
	return !p.full && len(p.times) == 0
}

func (p polynomial) plus(q polynomial) polynomial {
	if p.full || q.full {
		return polynomial{full: true}
	}
	sum := newPolynomial()
	for _, part := range []polynomial{p, q} {
		for of, n := range part.times {
			sum.add(of, n)
		}
	}
	return sum
}

// product is nothing if a factor is, even if the other one is full: what is too large only in between plays no part.
func (p polynomial) product(q polynomial) polynomial {
	if p.isNothing() || q.isNothing() {
		return newPolynomial()
	}
	if p.full || q.full {
		return polynomial{full: true}
	}
	product := newPolynomial()
	for a, n := range p.times {
		for b, k := range q.times {
			product.add(a.plus(b), times(n, k))
			if product.full {
				return product
			}
		}
	}
	return product
}

// terms lists the terms, those of the greatest powers first.
func (p polynomial) terms(m int) []api.Term {
	var list []api.Term
	for of, n := range p.times {
		list = append(list, api.Term{Times: n, Powers: slices.Clone(of[:m])})
	}
	slices.SortFunc(list, func(a, b api.Term) int { return slices.Compare(b.Powers, a.Powers) })
	return list
}

func newPolynomial() polynomial {
	return polynomial{times: map[powers]int{}}
}

// single is the polynomial of one term, which stands once.
func single(of powers) polynomial {
	return polynomial{times: map[powers]int{of: 1}}
}

// polynomialOf returns the polynomial of a thing, and whether it and those of all things from which it comes are not full.
func polynomialOf(m int, things []api.Made, no int) (polynomial, bool) {
	ring := semiring[polynomial]{nothing: newPolynomial(), all: single(powers{}), sum: polynomial.plus, product: polynomial.product}
	sources := make([]polynomial, m)
	for source := range sources {
		var of powers
		of[source] = 1
		sources[source] = single(of)
	}
	all := valued(ring, sources, things, no)
	if slices.ContainsFunc(all, func(p polynomial) bool { return p.full }) {
		return polynomial{}, false
	}
	return all[no], true
}
