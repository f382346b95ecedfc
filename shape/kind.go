package shape

import "parole/api"

// A number says what a field stands for.
type number uint8

const (
	unused number = iota
	target
	result // a target, or -1
	variable
	array
	reference
	global
	class
	queue
	sink
	lock
	part
	identity
	bound
	exception
)

// A limit has the numbers from lo to hi, and -1 if there may be none.
type limit struct {
	lo, hi int
	orNone bool
}

func (l limit) has(v int) bool { return l.lo <= v && v <= l.hi || l.orNone && v == -1 }

// below has the indices of n elements.
func below(n int) limit { return limit{lo: 0, hi: n - 1} }

// limitsOf returns what the numbers of a definition may be, by what they stand for.
func limitsOf(d api.Def, x api.Decl) []limit {
	return []limit{
		unused:    {lo: 0, hi: 0},
		target:    {lo: len(d.Params), hi: d.Vars - 1},
		result:    {lo: len(d.Params), hi: d.Vars - 1, orNone: true},
		variable:  below(d.Vars),
		array:     below(len(d.Arrays)),
		reference: below(d.Refs),
		global:    below(len(x.Globals)),
		class:     below(len(x.Classes)),
		queue:     below(len(x.Queues)),
		sink:      below(len(x.Sinks)),
		lock:      below(x.Locks),
		part:      below(x.Parts),
		identity:  {lo: 1, hi: maxId},
		bound:     {lo: 1, hi: api.MaxBound},
		exception: {lo: 1, hi: maxException},
	}
}

// A kind of statements says what the numbers N, M and V stand for, and what else such a statement has.
type kind struct {
	n, m, v number
	has     fields
}

// fields are those that are no numbers; args are Args and Ptrs.
type fields struct{ x, y, c, args, body, other bool }

// kinds are the kinds of statements by their operators.
var kinds = [...]kind{
	api.SSet:    {n: target, has: fields{x: true}},
	api.SLoad:   {n: target, m: array, has: fields{x: true}},
	api.SStore:  {m: array, has: fields{x: true, y: true}},
	api.SRead:   {n: target, m: global},
	api.SWrite:  {m: global, has: fields{x: true}},
	api.SNew:    {n: reference},
	api.SFree:   {n: reference},
	api.SMove:   {n: reference, m: reference},
	api.SPut:    {n: reference, has: fields{x: true}},
	api.SGet:    {n: target, m: reference},
	api.SIf:     {has: fields{c: true, body: true, other: true}},
	api.SWhile:  {v: bound, has: fields{c: true, body: true}},
	api.SCall:   {n: result, m: identity, has: fields{args: true}},
	api.SThrow:  {v: exception},
	api.STry:    {n: target, has: fields{body: true, other: true}},
	api.SLock:   {m: lock},
	api.SUnlock: {m: lock},
	api.SSend:   {m: queue, has: fields{x: true}},
	api.SRecv:   {n: target, m: queue},
	api.SSource: {n: target, m: class},
	api.SSink:   {m: sink, has: fields{x: true}},
	api.SUse:    {m: part},
	api.SAssert: {has: fields{c: true}},
	api.SReturn: {has: fields{x: true}},
}

// fieldsOf returns which fields a statement has. A list is there if its kind has it, as it may be empty.
func fieldsOf(s api.Stmt, k kind) fields {
	return fields{
		x:     !isNoExpr(s.X),
		y:     !isNoExpr(s.Y),
		c:     !isNoCond(s.C),
		args:  k.has.args || len(s.Args) > 0 || len(s.Ptrs) > 0,
		body:  k.has.body || len(s.Body) > 0,
		other: k.has.other || len(s.Else) > 0,
	}
}
