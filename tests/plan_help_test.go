package tests

import (
	"slices"

	"loop.example/thread/impl"
)

const (
	least    = -1 << 63
	greatest = 1<<63 - 1
)

// form is what the document's table says of one Op.
type form struct {
	op   int
	name string
	regA bool
	regB bool
	body bool
	num  bool
	head bool
}

// forms has the numbers of the table written out, so that a constant that moves is seen.
func forms() []form {
	return []form{
		{op: 1, name: "set", regA: true, num: true},
		{op: 2, name: "add", regA: true, regB: true, num: true},
		{op: 3, name: "say", regA: true},
		{op: 4, name: "new", regA: true, body: true},
		{op: 5, name: "resume", regA: true, regB: true},
		{op: 6, name: "yield", regA: true},
		{op: 7, name: "giveup", regA: true, regB: true},
		{op: 8, name: "status", regA: true, regB: true},
		{op: 9, name: "throw", regA: true},
		{op: 10, name: "return", regA: true},
		{op: 11, name: "try", regA: true, head: true},
		{op: 12, name: "scope", head: true},
		{op: 13, name: "defer", head: true},
		{op: 14, name: "loop", regA: true, head: true},
		{op: 15, name: "if", regA: true, head: true},
	}
}

func say() impl.Step { return impl.Step{Op: impl.TSay} }

func head(op, size int) impl.Step { return impl.Step{Op: op, Size: size} }

func says(n int) []impl.Step { return slices.Repeat([]impl.Step{say()}, n) }

func one(steps ...impl.Step) impl.Plan { return plan(steps) }

func plan(bodies ...[]impl.Step) impl.Plan {
	var p impl.Plan
	for _, steps := range bodies {
		p.Bodies = append(p.Bodies, impl.Body{Steps: steps})
	}
	return p
}

// nest is n heads of the Op in one another, with the tail in the innermost.
func nest(op, n int, tail ...impl.Step) []impl.Step {
	var steps []impl.Step
	for k := range n {
		steps = append(steps, head(op, n-k-1+len(tail)))
	}
	return append(steps, tail...)
}

func copyOf(p impl.Plan) impl.Plan {
	q := impl.Plan{Bodies: slices.Clone(p.Bodies)}
	for b := range q.Bodies {
		q.Bodies[b].Steps = slices.Clone(q.Bodies[b].Steps)
	}
	return q
}

func samePlan(p, q impl.Plan) bool {
	return slices.EqualFunc(p.Bodies, q.Bodies, func(x, y impl.Body) bool {
		return slices.Equal(x.Steps, y.Steps)
	})
}

func fault(code, body, step int) impl.Fault {
	return impl.Fault{Code: code, Body: body, Step: step}
}
