package syntax

import (
	"strconv"
	"strings"
)

// spaces counts the bytes ahead of the first token.
func spaces(text string) int {
	n := 0
	for n < len(text) {
		switch text[n] {
		case ' ', '\t', '\n':
			n++
		case ';':
			n += until(text[n:], func(c byte) bool { return c == '\n' })
		default:
			return n
		}
	}
	return n
}

// until counts the bytes ahead of the first one that ends them.
func until(text string, ends func(c byte) bool) int {
	for i := range len(text) {
		if ends(text[i]) {
			return i
		}
	}
	return len(text)
}

// token returns the one with which the text begins, "" if there is no text.
func token(text string) string {
	if text == "" {
		return ""
	}
	switch text[0] {
	case '(', ')':
		return text[:1]
	case '"':
		return quoted(text)
	}
	return text[:until(text, endsWord)]
}

func endsWord(c byte) bool { return strings.IndexByte(" \t\n()\";", c) >= 0 }

// quoted returns the string with which the text begins, or its first quotation mark alone, which is never right.
func quoted(text string) string {
	n := 1 + until(text[1:], func(c byte) bool { return !inString(c) })
	if n < len(text) && text[n] == '"' {
		return text[:n+1]
	}
	return text[:1]
}

func inString(c byte) bool { return 32 <= c && c <= 126 && c != '"' }

func isName(s string) bool {
	return len(s) <= maxName && until(s, func(c byte) bool { return !inString(c) }) == len(s)
}

func isNumber(n int) bool { return -maxNumber <= n && n <= maxNumber }

func isIndex(n int) bool { return n >= 0 && isNumber(n) }

// number reads generously, as the only right word for a number is the one with which it is written.
func number(word string) (int, bool) {
	n, _ := strconv.Atoi(word)
	return n, isNumber(n) && strconv.Itoa(n) == word
}

func index(letters, word string) (int, bool) {
	rest, ok := strings.CutPrefix(word, letters)
	n, right := number(rest)
	return n, ok && right && isIndex(n)
}

func indexWord(letters string, n int) string { return letters + strconv.Itoa(n) }
