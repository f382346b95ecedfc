package product

import (
	"parole/api"
	"parole/shape"
)

// settle notes whether the state fails. Of the threads, only the one that has done the last operation can have failed, as nothing follows a failure.
func (y *system) settle() {
	for t := range y.runs {
		if f := y.failure(t); f.Kind != 0 {
			y.s.Fail, y.s.By = f, t
			return
		}
	}
	if t := y.firstInCircle(); t != nobody {
		y.s.Fail, y.s.By = api.Failure{Site: y.runs[t].Next.Site, Kind: api.KOrder}, t
	}
}

// failure returns how the run of a thread fails; its kind is 0 if it does not.
func (y *system) failure(t int) api.Failure {
	r := y.runs[t]
	if r.How != api.HThrow {
		return r.Fail
	}
	d, _ := shape.Find(y.p, y.p.Threads[t])
	return api.Failure{Site: d.Site, Kind: api.KThrow}
}

// firstInCircle returns the least thread that waits for locks in a circle. Its way comes back to it within as many steps as there are threads, unless it only leads to a circle of others.
func (y *system) firstInCircle() int {
search:
	for t := range y.runs {
		next := t
		for range y.runs {
			switch next = y.waitsFor(next); next {
			case t:
				return t
			case nobody:
				continue search
			}
		}
	}
	return nobody
}

// waitsFor returns the thread with the lock for which a thread waits.
func (y *system) waitsFor(t int) int {
	if next := y.runs[t].Next; next.Kind == api.VLock {
		return y.s.Held[next.N]
	}
	return nobody
}
