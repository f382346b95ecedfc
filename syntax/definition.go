package syntax

import "parole/api"

func definition(d *api.Def) part {
	return group(
		wordPart("def"), numberPart(&d.Id), numberPart(&d.Site), namePart(&d.Name),
		wordPart("firm"), numberPart(&d.Firm),
		wordPart("part"), numberPart(&d.Part),
		wordPart("budget"), numberPart(&d.Budget),
		group(wordPart("params"), many(&d.Params, rangePart)),
		group(wordPart("given"), many(&d.Given, rangePart)),
		wordPart("vars"), numberPart(&d.Vars),
		wordPart("refs"), numberPart(&d.Refs),
		group(wordPart("arrays"), many(&d.Arrays, arrayPart)),
		many(&d.Body, statement),
	)
}

func rangePart(x *api.Range) part {
	return group(numberPart(&x.Lo), numberPart(&x.Hi), numberPart(&x.Mask))
}

func arrayPart(a *api.Array) part { return group(numberPart(&a.Len), numberPart(&a.Of)) }

func statementWords() []string {
	return []string{
		"set", "load", "store", "read", "write", "new", "free", "move", "put", "get", "if", "while",
		"call", "throw", "try", "lock", "unlock", "send", "recv", "source", "sink", "use", "assert", "return",
	}
}

// statement begins a line, unless it is the first one of a block.
func statement(s *api.Stmt) part {
	form := group(
		opPart(&s.Op, api.SSet, statementWords()),
		numberPart(&s.Site),
		later(func() []part { return statementParts(s) }),
	)
	return part{
		read: form.read,
		write: func(w *writer) {
			if !w.ends("(") {
				w.line(w.indent)
			}
			form.write(w)
			w.need(isBare(*s))
		},
	}
}

// isBare says whether a statement has nothing but its operator.
func isBare(s api.Stmt) bool {
	return s.Site == 0 && s.N == 0 && s.M == 0 && s.V == 0 &&
		isNoExpr(s.X) && isNoExpr(s.Y) && isNoCond(s.C) &&
		len(s.Args) == 0 && len(s.Ptrs) == 0 && len(s.Body) == 0 && len(s.Else) == 0
}

// block is a list of statements in a line of its own.
func block(l *[]api.Stmt) part {
	list := group(many(l, statement))
	return part{
		read: list.read,
		write: func(w *writer) {
			w.line(w.indent + 2)
			w.indent += 3
			list.write(w)
			w.indent -= 3
		},
	}
}

// statementParts returns what stands behind the word and the site of a statement.
func statementParts(s *api.Stmt) []part {
	switch s.Op {
	case api.SSet:
		return []part{indexPart("v", &s.N), expression(&s.X)}
	case api.SLoad:
		return []part{indexPart("v", &s.N), indexPart("a", &s.M), expression(&s.X)}
	case api.SStore:
		return []part{indexPart("a", &s.M), expression(&s.X), expression(&s.Y)}
	case api.SRead:
		return []part{indexPart("v", &s.N), indexPart("g", &s.M)}
	case api.SWrite:
		return []part{indexPart("g", &s.M), expression(&s.X)}
	case api.SNew, api.SFree:
		return []part{referencePart(&s.N)}
	case api.SMove:
		return []part{referencePart(&s.N), referencePart(&s.M)}
	case api.SPut:
		return []part{referencePart(&s.N), expression(&s.X)}
	case api.SGet:
		return []part{indexPart("v", &s.N), referencePart(&s.M)}
	case api.SIf:
		return []part{condition(&s.C), block(&s.Body), block(&s.Else)}
	case api.SWhile:
		return []part{numberPart(&s.V), condition(&s.C), block(&s.Body)}
	case api.SCall:
		return []part{targetPart(&s.N), indexPart("d", &s.M), group(many(&s.Args, expression)), group(many(&s.Ptrs, referencePart))}
	case api.SThrow:
		return []part{numberPart(&s.V)}
	case api.STry:
		return []part{targetPart(&s.N), block(&s.Body), block(&s.Else)}
	case api.SLock, api.SUnlock:
		return []part{indexPart("l", &s.M)}
	case api.SSend:
		return []part{indexPart("q", &s.M), expression(&s.X)}
	case api.SRecv:
		return []part{indexPart("v", &s.N), indexPart("q", &s.M)}
	case api.SSource:
		return []part{indexPart("v", &s.N), indexPart("c", &s.M)}
	case api.SSink:
		return []part{indexPart("k", &s.M), expression(&s.X)}
	case api.SUse:
		return []part{indexPart("p", &s.M)}
	case api.SAssert:
		return []part{condition(&s.C)}
	case api.SReturn:
		return []part{expression(&s.X)}
	}
	return nil
}

func referencePart(n *int) part { return indexPart("r", n) }
