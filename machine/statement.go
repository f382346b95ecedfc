package machine

import "parole/api"

// operations returns what each kind of statement does.
func operations() map[int]func(*activation, api.Stmt) {
	return map[int]func(*activation, api.Stmt){
		api.SSet:    (*activation).set,
		api.SLoad:   (*activation).load,
		api.SStore:  (*activation).store,
		api.SRead:   (*activation).read,
		api.SWrite:  (*activation).write,
		api.SNew:    (*activation).create,
		api.SFree:   (*activation).free,
		api.SMove:   (*activation).move,
		api.SPut:    (*activation).put,
		api.SGet:    (*activation).get,
		api.SIf:     (*activation).choose,
		api.SWhile:  (*activation).repeat,
		api.SCall:   (*activation).call,
		api.SThrow:  (*activation).throw,
		api.STry:    (*activation).try,
		api.SLock:   (*activation).lock,
		api.SUnlock: (*activation).unlock,
		api.SSend:   (*activation).send,
		api.SRecv:   (*activation).receive,
		api.SSource: (*activation).source,
		api.SSink:   (*activation).sink,
		api.SUse:    (*activation).use,
		api.SAssert: (*activation).assert,
		api.SReturn: (*activation).leave,
	}
}

func (a *activation) set(s api.Stmt) { a.assign(s.N, a.word(s.X)) }

func (a *activation) load(s api.Stmt) {
	i := a.index(s)
	a.assign(s.N, api.Word{V: a.arrays[s.M].elements[i], Mask: a.arrays[s.M].mask})
}

func (a *activation) store(s api.Stmt) {
	i, w := a.index(s), a.word(s.Y)
	a.arrays[s.M].elements[i] = w.V
	a.arrays[s.M].mask |= w.Mask
}

func (a *activation) index(s api.Stmt) int {
	i := a.value(s.X)
	a.check(0 <= i && i < a.lens[s.M], s.Site, api.KIndex)
	return i
}

func (a *activation) choose(s api.Stmt) {
	if a.holds(s.C) {
		a.execute(s.Body)
	} else {
		a.execute(s.Else)
	}
}

// repeat begins the statement anew for each time but the first one, for which it has begun already.
func (a *activation) repeat(s api.Stmt) {
	for i := range s.V {
		if i > 0 {
			a.begin(s.Site)
		}
		if !a.holds(s.C) {
			return
		}
		a.execute(s.Body)
		if a.over {
			return
		}
	}
}

func (a *activation) throw(s api.Stmt) { panic(thrown(s.V)) }

func (a *activation) try(s api.Stmt) {
	if number := a.catch(s.Body); number != 0 {
		a.assign(s.N, api.Word{V: number})
		a.execute(s.Else)
	}
}

func (a *activation) assert(s api.Stmt) { a.check(a.holds(s.C), s.Site, api.KAssert) }

func (a *activation) leave(s api.Stmt) { a.result, a.over = a.word(s.X), true }
