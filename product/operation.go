package product

import "parole/api"

// nobody is the number of the thread that holds a lock that none holds.
const nobody = -1

// An operation of a thread says whether it is possible with the number N of its event; when it is done, it returns the word of its answer.
type operation struct {
	isPossible func(*system, int) bool
	do         func(*system, int, api.Event) api.Word
}

// operations returns those that can be possible; a call waits for good, as its definition is not open.
func operations() map[int]operation {
	return map[int]operation{
		api.VRead:   {(*system).isAlways, (*system).read},
		api.VWrite:  {(*system).isAlways, (*system).write},
		api.VSource: {(*system).hasInput, (*system).feed},
		api.VSink:   {(*system).isAlways, (*system).pass},
		api.VUse:    {(*system).isAlways, (*system).pass},
		api.VLock:   {(*system).isFree, (*system).lock},
		api.VUnlock: {(*system).isAlways, (*system).unlock},
		api.VSend:   {(*system).hasRoom, (*system).send},
		api.VRecv:   {(*system).hasElement, (*system).receive},
	}
}

func (y *system) isAlways(n int) bool { return true }

func (y *system) hasInput(n int) bool { return y.s.Fed[n] < len(y.inputs[n]) }

func (y *system) isFree(n int) bool { return y.s.Held[n] == nobody }

func (y *system) hasRoom(n int) bool { return len(y.s.Queues[n]) < y.p.D.Queues[n].Cap }

func (y *system) hasElement(n int) bool { return len(y.s.Queues[n]) > 0 }

func (y *system) read(t int, e api.Event) api.Word { return y.s.Globals[e.N] }

func (y *system) write(t int, e api.Event) api.Word {
	y.s.Globals[e.N] = e.W
	return api.Word{}
}

func (y *system) feed(t int, e api.Event) api.Word {
	w := api.Word{V: y.inputs[e.N][y.s.Fed[e.N]], Mask: y.p.D.Classes[e.N].Mask}
	y.s.Fed[e.N]++
	return w
}

func (y *system) pass(t int, e api.Event) api.Word { return api.Word{} }

func (y *system) lock(t int, e api.Event) api.Word {
	y.s.Held[e.N] = t
	return api.Word{}
}

func (y *system) unlock(t int, e api.Event) api.Word {
	y.s.Held[e.N] = nobody
	return api.Word{}
}

func (y *system) send(t int, e api.Event) api.Word {
	y.s.Queues[e.N] = append(y.s.Queues[e.N], e.W)
	return api.Word{}
}

func (y *system) receive(t int, e api.Event) api.Word {
	w := y.s.Queues[e.N][0]
	y.s.Queues[e.N] = y.s.Queues[e.N][1:]
	return w
}
