package impl

import (
	"strconv"
	"strings"
)

const (
	MaxBodies = 30
	MaxSteps  = 300
	MaxDeep   = 12
	MaxTasks  = 60
	MaxTicks  = 5000
	Regs      = 4
)

const (
	TSet = iota + 1
	TAdd
	TSay
	TNew
	TResume
	TYield
	TGiveUp
	TStatus
	TThrow
	TReturn
	TTry
	TScope
	TDefer
	TLoop
	TIf
)

// Step is one thing that a body does, or the head of a block of the Size steps behind it.
type Step struct {
	Op   int
	A    int
	B    int
	N    int64
	Size int
}

// Body is what a task does.
type Body struct {
	Steps []Step
}

// Plan is bodies; the main task has the first one.
type Plan struct {
	Bodies []Body
}

// Fault is what is wrong with a plan, and where.
type Fault struct {
	Code int
	Body int
	Step int
}

const (
	faultBodies = iota + 1
	faultSteps
	faultStep
	faultEnd
	faultDeep
	faultReturn
)

const lastReg = Regs - 1

// shape is what the fields of an Op may be: A and B from 0 to topA and topB, so that one that it does not name is 0. Only the plan tells how far a body's number goes.
type shape struct {
	topA int
	topB int
	body bool
	num  bool
	head bool
}

var shapes = [...]shape{
	TSet:    {topA: lastReg, num: true},
	TAdd:    {topA: lastReg, topB: lastReg, num: true},
	TSay:    {topA: lastReg},
	TNew:    {topA: lastReg, body: true},
	TResume: {topA: lastReg, topB: lastReg},
	TYield:  {topA: lastReg},
	TGiveUp: {topA: lastReg, topB: lastReg},
	TStatus: {topA: lastReg, topB: lastReg},
	TThrow:  {topA: lastReg},
	TReturn: {topA: lastReg},
	TTry:    {topA: lastReg, head: true},
	TScope:  {head: true},
	TDefer:  {head: true},
	TLoop:   {topA: lastReg, head: true},
	TIf:     {topA: lastReg, head: true},
}

var names = [...]string{
	TSet:    "set",
	TAdd:    "add",
	TSay:    "say",
	TNew:    "new",
	TResume: "resume",
	TYield:  "yield",
	TGiveUp: "giveup",
	TStatus: "status",
	TThrow:  "throw",
	TReturn: "return",
	TTry:    "try",
	TScope:  "scope",
	TDefer:  "defer",
	TLoop:   "loop",
	TIf:     "if",
}

// PlanOk answers the first fault of a plan, the zero value when it has none.
func PlanOk(p Plan) Fault {
	if len(p.Bodies) == 0 || len(p.Bodies) > MaxBodies {
		return Fault{Code: faultBodies}
	}
	for b, body := range p.Bodies {
		if len(body.Steps) > MaxSteps {
			return Fault{Code: faultSteps, Body: b}
		}
	}
	for b, body := range p.Bodies {
		for i, s := range body.Steps {
			if !stepOk(s, len(p.Bodies)) {
				return Fault{Code: faultStep, Body: b, Step: i}
			}
		}
	}
	for b, body := range p.Bodies {
		if code, i := blockFault(body.Steps, place{to: len(body.Steps)}); code != 0 {
			return Fault{Code: code, Body: b, Step: i}
		}
	}
	return Fault{}
}

func stepOk(s Step, bodies int) bool {
	if s.Op < TSet || s.Op > TIf {
		return false
	}
	f := shapes[s.Op]
	topB := f.topB
	if f.body {
		topB = bodies - 1
	}
	return upTo(s.A, f.topA) && upTo(s.B, topB) && (f.num || s.N == 0) && sizeOk(s.Size, f.head)
}

func upTo(n, top int) bool { return n >= 0 && n <= top }

func sizeOk(size int, head bool) bool { return size == 0 || head && size > 0 }

// place is a block among the steps of its body: where its steps stand, in how many blocks, and whether one of those is a TDefer's.
type place struct {
	from    int
	to      int
	deep    int
	inDefer bool
}

// blockFault answers the code and the step of the first fault in a block, 0 and 0 when there is none. Blocks are entered as they are met, so that faults come by their step.
func blockFault(steps []Step, in place) (int, int) {
	for i := in.from; i < in.to; i++ {
		s := steps[i]
		if code := placeFault(s, in, in.to-i-1); code != 0 {
			return code, i
		}
		inner := place{from: i + 1, to: i + 1 + s.Size, deep: in.deep + 1, inDefer: in.inDefer || s.Op == TDefer}
		if code, at := blockFault(steps, inner); code != 0 {
			return code, at
		}
		i += s.Size
	}
	return 0, 0
}

// placeFault holds Size against the room behind the step: their sum could wrap.
func placeFault(s Step, in place, room int) int {
	if s.Size > room {
		return faultEnd
	}
	if shapes[s.Op].head && in.deep == MaxDeep {
		return faultDeep
	}
	if s.Op == TReturn && in.inDefer {
		return faultReturn
	}
	return 0
}

// node is a step of a valid plan as a type of its own, with its block inside of it.
type node interface {
	op() int
}

type setNode struct {
	a int
	n int64
}

type addNode struct {
	a, b int
	n    int64
}

type sayNode struct{ a int }

type newNode struct{ a, body int }

type resumeNode struct{ a, b int }

type yieldNode struct{ a int }

type giveUpNode struct{ a, b int }

type statusNode struct{ a, b int }

type throwNode struct{ a int }

type returnNode struct{ a int }

type tryNode struct {
	a     int
	block []node
}

type scopeNode struct{ block []node }

type deferNode struct{ block []node }

type loopNode struct {
	a     int
	block []node
}

type ifNode struct {
	a     int
	block []node
}

func (setNode) op() int    { return TSet }
func (addNode) op() int    { return TAdd }
func (sayNode) op() int    { return TSay }
func (newNode) op() int    { return TNew }
func (resumeNode) op() int { return TResume }
func (yieldNode) op() int  { return TYield }
func (giveUpNode) op() int { return TGiveUp }
func (statusNode) op() int { return TStatus }
func (throwNode) op() int  { return TThrow }
func (returnNode) op() int { return TReturn }
func (tryNode) op() int    { return TTry }
func (scopeNode) op() int  { return TScope }
func (deferNode) op() int  { return TDefer }
func (loopNode) op() int   { return TLoop }
func (ifNode) op() int     { return TIf }

// nodesOf asks for steps whose blocks end where they should: PlanOk goes ahead of it.
func nodesOf(steps []Step) []node {
	var out []node
	for i := 0; i < len(steps); i++ {
		s := steps[i]
		behind := steps[i+1:]
		out = append(out, nodeOf(s, nodesOf(behind[:s.Size])))
		i += s.Size
	}
	return out
}

func nodeOf(s Step, block []node) node {
	switch s.Op {
	case TSet:
		return setNode{s.A, s.N}
	case TAdd:
		return addNode{s.A, s.B, s.N}
	case TSay:
		return sayNode{s.A}
	case TNew:
		return newNode{s.A, s.B}
	case TResume:
		return resumeNode{s.A, s.B}
	case TYield:
		return yieldNode{s.A}
	case TGiveUp:
		return giveUpNode{s.A, s.B}
	case TStatus:
		return statusNode{s.A, s.B}
	case TThrow:
		return throwNode{s.A}
	case TReturn:
		return returnNode{s.A}
	case TTry:
		return tryNode{s.A, block}
	case TScope:
		return scopeNode{block}
	case TDefer:
		return deferNode{block}
	case TLoop:
		return loopNode{s.A, block}
	}
	return ifNode{s.A, block}
}

// WritePlan answers a valid plan as text, nothing for any other.
func WritePlan(p Plan) string {
	if PlanOk(p).Code != 0 {
		return ""
	}
	w := &planWriter{}
	for b, body := range p.Bodies {
		w.line(0, "body", strconv.Itoa(b))
		w.block(1, nodesOf(body.Steps))
	}
	return w.text.String()
}

type planWriter struct {
	text strings.Builder
}

func (w *planWriter) line(tabs int, words ...string) {
	w.text.WriteString(strings.Repeat("\t", tabs))
	w.text.WriteString(strings.Join(words, " "))
	w.text.WriteByte('\n')
}

func (w *planWriter) block(tabs int, nodes []node) {
	for _, n := range nodes {
		w.node(tabs, n)
	}
}

func (w *planWriter) head(tabs int, block []node, words ...string) {
	w.line(tabs, append(words, "{")...)
	w.block(tabs+1, block)
	w.line(tabs, "}")
}

func (w *planWriter) node(tabs int, n node) {
	name := names[n.op()]
	switch x := n.(type) {
	case setNode:
		w.line(tabs, name, reg(x.a), strconv.FormatInt(x.n, 10))
	case addNode:
		w.line(tabs, name, reg(x.a), reg(x.b), strconv.FormatInt(x.n, 10))
	case sayNode:
		w.line(tabs, name, reg(x.a))
	case newNode:
		w.line(tabs, name, reg(x.a), "body", strconv.Itoa(x.body))
	case resumeNode:
		w.line(tabs, name, reg(x.a), reg(x.b))
	case yieldNode:
		w.line(tabs, name, reg(x.a))
	case giveUpNode:
		w.line(tabs, name, reg(x.a), reg(x.b))
	case statusNode:
		w.line(tabs, name, reg(x.a), reg(x.b))
	case throwNode:
		w.line(tabs, name, reg(x.a))
	case returnNode:
		w.line(tabs, name, reg(x.a))
	case tryNode:
		w.head(tabs, x.block, name, reg(x.a))
	case scopeNode:
		w.head(tabs, x.block, name)
	case deferNode:
		w.head(tabs, x.block, name)
	case loopNode:
		w.head(tabs, x.block, name, reg(x.a))
	case ifNode:
		w.head(tabs, x.block, name, reg(x.a))
	}
}

func reg(r int) string { return "r" + strconv.Itoa(r) }
