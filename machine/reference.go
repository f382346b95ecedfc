package machine

import "parole/api"

func (a *activation) create(s api.Stmt) {
	a.needNull(s.N, s.Site)
	a.refs[s.N] = reference{has: true}
}

func (a *activation) free(s api.Stmt) { a.lose(s.N, s.Site) }

func (a *activation) move(s api.Stmt) {
	a.needRecord(s.M, s.Site)
	if s.N == s.M {
		return
	}
	a.needNull(s.N, s.Site)
	a.refs[s.N] = reference{true, a.lose(s.M, s.Site)}
}

func (a *activation) put(s api.Stmt) {
	a.needRecord(s.N, s.Site)
	a.refs[s.N].field = a.word(s.X)
}

func (a *activation) get(s api.Stmt) {
	a.needRecord(s.M, s.Site)
	a.assign(s.N, a.refs[s.M].field)
}

// lose makes a reference null, which must have a record, and returns the field of this.
func (a *activation) lose(n, site int) api.Word {
	a.needRecord(n, site)
	w := a.refs[n].field
	a.refs[n] = reference{}
	return w
}

func (a *activation) needRecord(n, site int) { a.check(a.refs[n].has, site, api.KUse) }

func (a *activation) needNull(n, site int) { a.check(!a.refs[n].has, site, api.KLeak) }
