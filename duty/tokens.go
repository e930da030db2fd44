package duty

import (
	"strconv"
	"strings"

	"cocket/api"
)

const maxName = 8

// split returns the words, numbers and signs of a line: false if there is anything else in it.
func split(line string) ([]string, bool) {
	var tokens []string
	rest := strings.TrimLeft(line, " ")
	for rest != "" {
		n := tokenLength(rest, isMinusOfNumber(tokens))
		if n == 0 {
			return nil, false
		}
		tokens = append(tokens, rest[:n])
		rest = strings.TrimLeft(rest[n:], " ")
	}
	return tokens, true
}

// isMinusOfNumber reports whether a minus sign after these tokens is part of a number.
func isMinusOfNumber(before []string) bool {
	if len(before) == 0 || before[0] == "in" {
		return true
	}
	last := before[len(before)-1]
	return last != ")" && !isName(last) && !isDigit(last[len(last)-1])
}

// tokenLength is the length of the token with which a line begins: 0 if it begins with none.
func tokenLength(line string, negative bool) int {
	first := line[0]
	switch {
	case isLetter(first):
		return runLength(line, isLetter)
	case isDigit(first):
		return runLength(line, isDigit)
	case first == '-' && negative:
		// Without a digit it is no number, and no operation either: nothing takes it.
		return 1 + runLength(line[1:], isDigit)
	case strings.IndexByte("+-*/(),<=", first) >= 0:
		return 1
	}
	return 0
}

// runLength is how many bytes at the beginning are of one sort.
func runLength(line string, isOfSort func(c byte) bool) int {
	n := 0
	for n < len(line) && isOfSort(line[n]) {
		n++
	}
	return n
}

func isLetter(c byte) bool {
	return c >= 'a' && c <= 'z'
}

func isDigit(c byte) bool {
	return c >= '0' && c <= '9'
}

func isName(token string) bool {
	switch token {
	case "in", "set", "if", "else", "end", "repeat", "out", "min", "max":
		return false
	}
	return token != "" && len(token) <= maxName && runLength(token, isLetter) == len(token)
}

// number returns the value of a token that is a NUMBER.
func number(token string) (int, bool) {
	n, err := strconv.Atoi(token)
	// A needless zero or minus sign would not be written again.
	if err != nil || strconv.Itoa(n) != token {
		return 0, false
	}
	return n, n >= -api.MaxNumber && n <= api.MaxNumber
}
