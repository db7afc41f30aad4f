package lang

import (
	"strconv"
	"strings"

	"raycone/api"
)

// role of a word: what it is there for.
type role int

const (
	noWord role = iota
	endOfText
	nameWord
	numberWord
	plainWord // a word or sign that stands where the form of a text has it
	firstWord // the first one of a statement that no name begins
	relation  // stands between the terms of a test
	sumSign
	productSign
	onePart // no role of a word: what no such sign makes holds together closest
)

// roles of all words and signs that a text may have beside names and numbers.
type roles map[string]role

func wordRoles() roles {
	return roles{
		"var": plainWord, "array": plainWord, "proc": plainWord, "main": plainWord, "return": plainWord,
		"call": plainWord, "else": plainWord, "true": plainWord, "false": plainWord, "or": plainWord, "and": plainWord,
		"if": firstWord, "while": firstWord, "assert": firstWord, "assume": firstWord, "read": firstWord,
		";": plainWord, ",": plainWord, "=": plainWord,
		"{": plainWord, "}": plainWord, "(": plainWord, ")": plainWord, "[": plainWord, "]": plainWord,
		"<": relation, "<=": relation, "==": relation, "!=": relation, ">": relation, ">=": relation,
		"+": sumSign, "-": sumSign, "*": productSign, "/": productSign, "%": productSign,
	}
}

// word of a text, and the byte at which it begins.
type word struct {
	role role
	text string
	at   int
}

// wordFrom a byte of a text on.
func (m roles) wordFrom(s string, from int) word {
	rest := strings.TrimLeft(s[from:], " \n")
	text := rest[:m.lengthOf(rest)]
	return word{role: m.roleOf(text), text: text, at: len(s) - len(rest)}
}

// lengthOf the word with which a text begins, or of what stands there instead of one.
func (m roles) lengthOf(s string) int {
	if n := max(runOf(s, isLetter), runOf(s, isDigit)); n > 0 {
		return n
	}
	// A sign of two bytes counts ahead of the one with which it begins.
	if len(s) >= 2 && m[s[:2]] != noWord {
		return 2
	}
	return min(len(s), 1)
}

func (m roles) roleOf(text string) role {
	own := m[text]
	switch {
	case own != noWord:
		return own
	case text == "":
		return endOfText
	case len(text) <= api.MaxName && runOf(text, isLetter) == len(text):
		return nameWord
	case isNumber(text):
		return numberWord
	}
	return noWord
}

// runOf bytes of a kind, with which a text begins: how many.
func runOf(s string, is func(c byte) bool) int {
	n := 0
	for n < len(s) && is(s[n]) {
		n++
	}
	return n
}

func isLetter(c byte) bool { return 'a' <= c && c <= 'z' }

func isDigit(c byte) bool { return '0' <= c && c <= '9' }

func isNumber(text string) bool {
	n, err := strconv.Atoi(text)
	return err == nil && n >= 0 && n <= api.MaxValue && strconv.Itoa(n) == text
}
