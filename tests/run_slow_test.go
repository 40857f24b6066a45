package tests

import "loop.example/thread/impl"

// A run told by the document's words once more, without goroutines: each task has a list of its open blocks, and one thing is done after the other.

const (
	stays = iota
	plainly
	byReturn
	byError
	byGivingUp
)

type slowBlock struct {
	op    int // that of its head, 0 for a body
	reg   int
	steps []impl.Step
	at    int
	kept  [][]impl.Step
	way   int
	num   int64
}

type slowTask struct {
	body    int
	state   int
	regs    [4]int64
	open    []*slowBlock
	waiter  int
	lets    int
	reg     int // where the number goes that it waits for
	doomed  bool
	dropped bool
	last    int64
	met     int
	begun   int
}

type slowPlan struct {
	plan   impl.Plan
	most   int
	out    impl.Report
	tasks  []*slowTask
	cur    int
	over   bool
	looks  bool
	stands []impl.Stand
}

func slowRun(p impl.Plan, ticks int) impl.Report {
	r := &slowPlan{plan: p, most: ticks}
	r.all()
	for _, t := range r.tasks {
		r.out.States = append(r.out.States, t.state)
	}
	return r.out
}

// slowStands answers what stands at each record.
func slowStands(p impl.Plan, ticks int) []impl.Stand {
	r := &slowPlan{plan: p, most: ticks, looks: true}
	r.all()
	return r.stands
}

func slowEnd(p impl.Plan, ticks int) impl.Stand {
	r := &slowPlan{plan: p, most: ticks}
	r.all()
	return r.stand()
}

func (r *slowPlan) all() {
	main := r.add(0)
	main.state = 2
	r.open(main, 0, 0, r.plan.Bodies[0].Steps)
	for !r.over {
		r.next()
	}
}

func (r *slowPlan) stand() impl.Stand {
	s := impl.Stand{Ok: true, Running: r.cur}
	for _, t := range r.tasks {
		regs := []int64{t.regs[0], t.regs[1], t.regs[2], t.regs[3]}
		s.Tasks = append(s.Tasks, impl.TaskView{Body: t.body, State: t.state, Regs: regs, Waiter: t.waiter, Blocks: len(t.open), Kept: t.met, Begun: t.begun})
	}
	return s
}

func (r *slowPlan) add(body int) *slowTask {
	t := &slowTask{body: body, waiter: -1, lets: -1}
	r.tasks = append(r.tasks, t)
	return t
}

func (r *slowPlan) open(t *slowTask, op, reg int, steps []impl.Step) {
	t.open = append(t.open, &slowBlock{op: op, reg: reg, steps: steps})
}

func (r *slowPlan) tick() bool {
	if r.out.Ticks == r.most {
		r.over = true
		r.out.Code = 2
		return false
	}
	r.out.Ticks++
	return true
}

func (r *slowPlan) record(kind, how int, num int64) {
	if r.looks {
		r.stands = append(r.stands, r.stand())
	}
	r.out.Recs = append(r.out.Recs, impl.Rec{Kind: kind, Task: r.cur, How: how, Num: num})
}

func (r *slowPlan) next() {
	t := r.tasks[r.cur]
	b := t.open[len(t.open)-1]
	switch {
	case b.way == stays && b.at == len(b.steps):
		b.way = plainly
	case b.way == stays:
		if r.tick() {
			r.step(t, b, b.steps[b.at])
		}
	case len(b.kept) > 0:
		if r.tick() {
			r.open(t, impl.TDefer, 0, b.kept[len(b.kept)-1])
			b.kept = b.kept[:len(b.kept)-1]
			t.begun++
		}
	default:
		r.shut(t, b)
	}
}

// shut closes the innermost block, behind all of its defers.
func (r *slowPlan) shut(t *slowTask, b *slowBlock) {
	t.open = t.open[:len(t.open)-1]
	if b.op == 0 {
		r.end(t, b)
		return
	}
	around := t.open[len(t.open)-1]
	switch {
	case b.way == plainly:
	case b.way == byError && b.op == impl.TTry:
		r.record(4, 0, b.num)
		t.regs[b.reg] = b.num
	case b.way == byError && b.op == impl.TDefer && around.way == byGivingUp:
		t.dropped, t.last = true, b.num
	default:
		around.way, around.num = b.way, b.num
	}
}

func (r *slowPlan) end(t *slowTask, b *slowBlock) {
	t.state = 4
	if r.cur == 0 {
		r.over = true
		r.out.Num = b.num
		if b.way == byError {
			r.out.Code = 1
		}
		return
	}
	switch {
	case b.way == byError:
		r.back(t, 4, b.num, 0)
	case b.way == byGivingUp && t.dropped:
		r.back(t, 6, t.last, 0)
	case b.way == byGivingUp:
		r.back(t, 6, 0, 1)
	default:
		r.back(t, 3, b.num, 2)
	}
}

// back hands the turn to the one that waits for the task.
func (r *slowPlan) back(t *slowTask, how int, num, flag int64) {
	w := r.tasks[t.waiter]
	r.cur = t.waiter
	t.waiter, w.lets = -1, -1
	w.state = 2
	r.record(2, how, 0)
	w.regs[w.reg] = num
	w.regs[3] = flag
}

// ahead lets another task run, which is new or waiting.
func (r *slowPlan) ahead(t *slowTask, n, reg, how int) *slowTask {
	to := r.tasks[n]
	t.state, t.lets, t.reg = 3, n, reg
	to.state, to.waiter = 2, r.cur
	r.cur = n
	r.record(2, how, 0)
	return to
}

func (r *slowPlan) fail(b *slowBlock, num int64) {
	r.record(3, 0, num)
	b.way, b.num = byError, num
}

func (r *slowPlan) step(t *slowTask, b *slowBlock, s impl.Step) {
	block := b.steps[b.at+1 : b.at+1+s.Size]
	here := b.at
	b.at += 1 + s.Size
	switch s.Op {
	case impl.TSet:
		t.regs[s.A] = s.N
	case impl.TAdd:
		t.regs[s.A] = t.regs[s.B] + s.N
	case impl.TSay:
		r.record(1, 0, t.regs[s.A])
	case impl.TNew:
		r.made(t, b, s)
	case impl.TResume, impl.TGiveUp, impl.TStatus:
		r.ask(t, b, s)
	case impl.TYield:
		r.yield(t, b, s)
	case impl.TThrow:
		r.fail(b, t.regs[s.A])
	case impl.TReturn:
		b.way, b.num = byReturn, t.regs[s.A]
	case impl.TTry, impl.TScope:
		r.open(t, s.Op, s.A, block)
	case impl.TDefer:
		b.kept = append(b.kept, block)
		t.met++
	case impl.TLoop:
		if t.regs[s.A] > 0 {
			b.at = here
			t.regs[s.A]--
			r.open(t, s.Op, 0, block)
		}
	case impl.TIf:
		if t.regs[s.A] != 0 {
			r.open(t, s.Op, 0, block)
		}
	}
}

func (r *slowPlan) made(t *slowTask, b *slowBlock, s impl.Step) {
	if len(r.tasks) >= 60 {
		r.fail(b, -10)
		return
	}
	t.regs[s.A] = int64(len(r.tasks))
	r.add(s.B)
}

func (r *slowPlan) yield(t *slowTask, b *slowBlock, s impl.Step) {
	if r.cur == 0 || t.doomed {
		r.fail(b, -10)
		return
	}
	t.state, t.reg = 1, s.A
	r.back(t, 2, t.regs[s.A], 1)
}

func (r *slowPlan) ask(t *slowTask, b *slowBlock, s impl.Step) {
	n := t.regs[s.B]
	if n < 0 || n >= int64(len(r.tasks)) {
		r.fail(b, -12)
		return
	}
	to := r.tasks[n]
	if s.Op == impl.TStatus {
		t.regs[s.A] = int64(to.state)
		return
	}
	if to.state == 2 || to.state == 3 {
		for k := int(n); k >= 0; k = r.tasks[k].lets {
			r.record(5, 0, int64(k))
		}
	}
	if to.state > 1 {
		r.fail(b, -10)
	} else if s.Op == impl.TResume {
		r.resume(t, int(n), s.A)
	} else {
		r.giveUp(t, int(n), s.A)
	}
}

func (r *slowPlan) resume(t *slowTask, n, reg int) {
	num := t.regs[reg]
	fresh := r.tasks[n].state == 0
	to := r.ahead(t, n, reg, 1)
	if !fresh {
		to.regs[to.reg] = num
		return
	}
	to.regs[0] = num
	r.open(to, 0, 0, r.plan.Bodies[to.body].Steps)
}

func (r *slowPlan) giveUp(t *slowTask, n, reg int) {
	if r.tasks[n].state == 0 {
		r.tasks[n].state = 4
		t.regs[reg] = 0
		t.regs[3] = 1
		return
	}
	to := r.ahead(t, n, reg, 5)
	to.doomed = true
	to.open[len(to.open)-1].way = byGivingUp
}
