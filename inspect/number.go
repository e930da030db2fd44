package inspect

import (
	"math/bits"
	"slices"
)

// number is a whole number of any size. What it keeps is never changed.
type number struct {
	negative bool
	words    []uint32 // the lowest one first; the highest one is not 0 (0 has none)
}

func numberOf(n int) number {
	size := uint64(n)
	if n < 0 {
		size = -size
	}
	return signed(n < 0, []uint32{uint32(size), uint32(size >> 32)})
}

// signed is the number of these words, which it may keep.
func signed(negative bool, words []uint32) number {
	for len(words) > 0 && words[len(words)-1] == 0 {
		words = words[:len(words)-1]
	}
	return number{negative && len(words) > 0, words}
}

// whole is the number as an int, of one that is small enough for that.
func (a number) whole() int {
	size := 0
	for i, word := range a.words {
		size += int(word) << (32 * i)
	}
	return size * a.sign()
}

func (a number) sign() int {
	if len(a.words) == 0 {
		return 0
	}
	if a.negative {
		return -1
	}
	return 1
}

func (a number) negated() number {
	return signed(!a.negative, a.words)
}

func (a number) compare(b number) int {
	return a.minus(b).sign()
}

func (a number) minus(b number) number {
	if a.negative != b.negative {
		return signed(a.negative, added(a.words, b.words))
	}
	if isLess(a.words, b.words) {
		return signed(!a.negative, reduced(b.words, a.words))
	}
	return signed(a.negative, reduced(a.words, b.words))
}

func (a number) times(b number) number {
	product := make([]uint32, len(a.words)+len(b.words))
	for i, x := range a.words {
		carry := uint64(0)
		for j, y := range b.words {
			carry += uint64(x)*uint64(y) + uint64(product[i+j])
			product[i+j] = uint32(carry)
			carry >>= 32
		}
		product[i+len(b.words)] = uint32(carry)
	}
	return signed(a.negative != b.negative, product)
}

// over is the number divided by one that is not 0 and leaves no rest.
//
// Because there is no rest, the words of the quotient follow from the lowest one on: each is the one that makes the lowest word that is left 0. Only odd numbers have such a word for each one, so both are halved first.
func (a number) over(b number) number {
	if a.sign() == 0 {
		return a
	}
	zeros := lowZeros(b.words)
	rest, by := halved(a.words, zeros), halved(b.words, zeros)
	quotient := make([]uint32, len(rest)-len(by)+1)
	inverse := inverseOf(by[0])
	for i := range quotient {
		quotient[i] = rest[i] * inverse
		takeFrom(rest[i:], by, quotient[i])
	}
	return signed(a.negative != b.negative, quotient)
}

// inverseOf is the word whose product with an odd one ends with the word 1.
func inverseOf(odd uint32) uint32 {
	inverse := odd // right in the lowest 3 bits; each turn doubles these
	for range 4 {
		inverse *= 2 - odd*inverse
	}
	return inverse
}

// takeFrom takes so many times by from the rest. What is above the rest is of no interest.
func takeFrom(rest, by []uint32, times uint32) {
	borrow := uint64(0)
	for i := range rest {
		borrow += uint64(wordAt(by, i)) * uint64(times)
		word := uint32(borrow)
		borrow >>= 32
		if rest[i] < word {
			borrow++
		}
		rest[i] -= word
	}
}

// lowZeros is how often the number of these words, which is not 0, can be halved.
func lowZeros(words []uint32) int {
	zeros := 0
	for words[zeros/32] == 0 {
		zeros += 32
	}
	return zeros + bits.TrailingZeros32(words[zeros/32])
}

// halved is the number of these words, halved so many times, in new memory and without words 0 above.
func halved(words []uint32, times int) []uint32 {
	words = words[times/32:]
	half := make([]uint32, len(words))
	for i := range words {
		pair := uint64(wordAt(words, i+1))<<32 | uint64(words[i])
		half[i] = uint32(pair >> (times % 32))
	}
	return signed(false, half).words
}

func added(a, b []uint32) []uint32 {
	words := make([]uint32, max(len(a), len(b))+1)
	carry := uint64(0)
	for i := range words {
		carry += uint64(wordAt(a, i)) + uint64(wordAt(b, i))
		words[i] = uint32(carry)
		carry >>= 32
	}
	return words
}

// reduced is a less b, which is at most a.
func reduced(a, b []uint32) []uint32 {
	words := slices.Clone(a)
	takeFrom(words, b, 1)
	return words
}

func isLess(a, b []uint32) bool {
	for i := max(len(a), len(b)) - 1; i >= 0; i-- {
		if wordAt(a, i) != wordAt(b, i) {
			return wordAt(a, i) < wordAt(b, i)
		}
	}
	return false
}

// wordAt is a word of a number, also above its highest one.
func wordAt(words []uint32, i int) uint32 {
	if i < len(words) {
		return words[i]
	}
	return 0
}
