package house

import (
	"slices"
	"strconv"
	"strings"

	"cocket/api"
)

// Kinds of parameters.
const (
	kindName   = 'a'
	kindNumber = '#'
	kindWord   = '*'
)

const (
	maxName   = 8
	maxNumber = 1 << 50
)

// none is the reply where there is nothing to be listed.
const none = "none"

// parameters are the words after the name of a command, each of its kind.
type parameters []string

// number returns the parameter, which is a number.
func (p parameters) number(i int) int {
	n, _ := number(p[i])
	return n
}

// numbers returns the parameters from one on, which are numbers.
func (p parameters) numbers(from int) []int {
	var list []int
	for i := from; i < len(p); i++ {
		list = append(list, p.number(i))
	}
	return list
}

// split returns the words of a line: false if it has some, and is too long or has a byte that is not allowed.
func split(line string) ([]string, bool) {
	if strings.Trim(line, " ") == "" {
		return nil, true
	}
	if len(line) > api.MaxLetters {
		return nil, false
	}
	for i := range len(line) {
		if line[i] < ' ' || line[i] > '~' {
			return nil, false
		}
	}
	// A house keeps names: those of a clone do not keep the text that the line is a part of.
	return strings.Fields(strings.Clone(line)), true
}

func isOfKind(word string, kind byte) bool {
	switch kind {
	case kindName:
		return isName(word)
	case kindNumber:
		_, ok := number(word)
		return ok
	}
	return true
}

func isName(word string) bool {
	for i := range len(word) {
		if word[i] < 'a' || word[i] > 'z' {
			return false
		}
	}
	return isWithin(len(word), 1, maxName)
}

// number returns the value of a word that is a number.
func number(word string) (int, bool) {
	n, err := strconv.Atoi(word)
	// A needless zero or sign would not be written again.
	if err != nil || strconv.Itoa(n) != word || !isWithin(n, -maxNumber, maxNumber) {
		return 0, false
	}
	return n, true
}

// row returns numbers with blanks between.
func row(list ...int) string {
	var words []string
	for _, n := range list {
		words = append(words, strconv.Itoa(n))
	}
	return strings.Join(words, " ")
}

// orNone returns words with blanks between, or that there are none.
func orNone(words []string) string {
	if len(words) == 0 {
		return none
	}
	return strings.Join(words, " ")
}

func ratio(r api.Ratio) string {
	return strconv.Itoa(r.Num) + "/" + strconv.Itoa(r.Den)
}

func isWithin(n, least, greatest int) bool {
	return n >= least && n <= greatest
}

func areWithin(list []int, least, greatest int) bool {
	return !slices.ContainsFunc(list, func(n int) bool { return !isWithin(n, least, greatest) })
}
