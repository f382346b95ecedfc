package syntax_test

import (
	"math/big"
	"regexp"
	"slices"
	"strings"

	"parole/api"
)

var (
	spacesRE = regexp.MustCompile(`^(?:[ \t\n]|;[^\n]*)*`)
	tokenRE  = regexp.MustCompile(`^(?s:[()]|"[ !#-~]*"|[^ \t\n()";]+|")`)
	stringRE = regexp.MustCompile(`^"[ !#-~]{0,40}"$`)
	numberRE = regexp.MustCompile(`^(?:0|-?[1-9][0-9]*)$`)
	indexRE  = regexp.MustCompile(`^(?:0|[1-9][0-9]*)$`)
)

const defSymbols = `( def n n s firm n part n budget n ( params R* ) ( given R* ) vars n refs n ( arrays A* ) S* )`

// rulesOf says which symbols stand for another one that has more than one token: behind the parenthesis, by its first word.
func rulesOf(symbol string) map[string]string {
	rules := map[string]string{}
	switch symbol {
	case "S":
		short := strings.NewReplacer("Site", "n", "Body", "( S* )", "Else", "( S* )", "Args", "( X* )", "Ptrs", "( ir* )", "Y", "X", "V", "n")
		index := regexp.MustCompile(`\b([a-z])[NM]\b`)
		for _, text := range statements()[1:] {
			word, rest, _ := strings.Cut(text, " ")
			rules[word] = short.Replace(index.ReplaceAllString(rest, "i$1"))
		}
	case "X":
		for _, word := range expressions()[api.EAdd:] {
			rules[word] = "X X"
		}
	case "C":
		for _, text := range conditions()[api.CLt:] {
			word, rest, _ := strings.Cut(text, " ")
			rules[word] = rest
		}
	}
	return rules
}

// A model reads tokens one by one with a stack of the symbols that are still to come, the next one last.
type model struct {
	stack []string
	open  int
	rules map[string]map[string]string
}

func newModel() *model {
	m := &model{rules: map[string]map[string]string{}}
	for _, s := range []string{"S", "X", "C"} {
		m.rules[s] = rulesOf(s)
	}
	m.push(defSymbols)
	return m
}

func (m *model) push(symbols string) {
	l := strings.Fields(symbols)
	slices.Reverse(l)
	m.stack = append(m.stack, l...)
}

// accepts takes the token if a text goes on with it.
func (m *model) accepts(token string) bool {
	for len(m.stack) > 0 {
		symbol := m.stack[len(m.stack)-1]
		m.stack = m.stack[:len(m.stack)-1]
		if base, many := strings.CutSuffix(symbol, "*"); many {
			if token != ")" {
				m.push(base + " " + symbol)
			}
			continue
		}
		if ok, taken := m.one(symbol, token); taken || !ok {
			return ok
		}
	}
	return false
}

// one says whether a symbol can begin with the token, and whether it has been taken.
func (m *model) one(symbol, token string) (ok, taken bool) {
	switch symbol {
	case "n":
		return isNumber(token, numberRE), true
	case "s":
		return stringRE.MatchString(token), true
	case "W":
		return token == "none" || isIndex(token, "v"), true
	case "R":
		m.push("( n n n )")
		return true, false
	case "A":
		m.push("( n n )")
		return true, false
	case "S":
		m.push("( Sword )")
		return true, false
	case "X", "C":
		if token == "(" {
			m.push("( " + symbol + "word )")
			return true, false
		}
		return symbol == "C" && token == "true" || symbol == "X" && (isNumber(token, numberRE) || isIndex(token, "v") || isIndex(token, "len")), true
	case "Sword", "Xword", "Cword":
		rest, ok := m.rules[symbol[:1]][token]
		m.push(rest)
		return ok, true
	case "(", ")":
		return token == symbol, true
	}
	if letter, ok := strings.CutPrefix(symbol, "i"); ok && len(letter) == 1 {
		return isIndex(token, letter), true
	}
	return token == symbol, true
}

func isNumber(token string, re *regexp.Regexp) bool {
	n, _ := new(big.Int).SetString(token, 10)
	return re.MatchString(token) && n.CmpAbs(big.NewInt(1<<62)) <= 0
}

func isIndex(token, letters string) bool {
	rest, ok := strings.CutPrefix(token, letters)
	return ok && isNumber(rest, indexRE)
}

// completion returns tokens with which the text ends.
func (m *model) completion() string {
	out := ""
	for _, symbol := range m.stack {
		text, ok := map[string]string{"n": "0", "s": `""`, "W": "none", "R": "(0 0 0)", "A": "(0 0)", "X": "0", "C": "true", "Sword": "use 0 p0", "Xword": "add 0 0", "Cword": "not true"}[symbol]
		letter, index := strings.CutPrefix(symbol, "i")
		switch {
		case strings.HasSuffix(symbol, "*"):
		case index && len(letter) == 1:
			text = letter + "0"
		case !ok:
			text = symbol
		}
		out = text + " " + out
	}
	return out
}

// modelParse returns how reading s ends, and what the model still waits for then.
func modelParse(s string) (int, api.Errno, *model) {
	m := newModel()
	if len(s) > 20000 {
		return 0, api.ErrBig, m
	}
	for at := 0; ; {
		at += len(spacesRE.FindString(s[at:]))
		token := tokenRE.FindString(s[at:])
		if token == "(" && m.open == 60 {
			return at, api.ErrBig, m
		}
		kept := slices.Clone(m.stack)
		switch {
		case token == "" && len(m.stack) == 0:
			return 0, api.OK, m
		case token == "" || !m.accepts(token):
			m.stack = kept
			return at, api.ErrSyntax, m
		}
		switch token {
		case "(":
			m.open++
		case ")":
			m.open--
		}
		at += len(token)
	}
}
