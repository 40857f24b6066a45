package tests

import (
	"math/rand/v2"
	"testing"

	"loop.example/thread/impl"
)

// maker makes plans whose tasks have much to do with one another. Its seed is fixed, so that each run of the tests sees the same plans.
type maker struct {
	*rand.Rand
	bodies int
}

// plan has a main task that goes on behind its errors, so that the other tasks get far.
func (m *maker) plan() impl.Plan {
	m.bodies = 2 + m.IntN(3)
	var main []impl.Step
	for range 2 + m.IntN(6) {
		block := m.block(1+m.IntN(8), 1, false)
		main = append(main, impl.Step{Op: impl.TTry, A: m.reg(), Size: len(block)})
		main = append(main, block...)
	}
	p := impl.Plan{Bodies: []impl.Body{{Steps: append(main, m.block(m.IntN(4), 0, false)...)}}}
	for range m.bodies - 1 {
		p.Bodies = append(p.Bodies, impl.Body{Steps: m.block(3+m.IntN(12), 0, false)})
	}
	return p
}

func (m *maker) block(n, deep int, inDefer bool) []impl.Step {
	var steps []impl.Step
	for len(steps) < n {
		if m.IntN(8) == 0 {
			steps = append(steps, m.life()...)
		}
		s := m.step()
		if s.Op == impl.TReturn && inDefer {
			s.Op = impl.TThrow
		}
		if s.Op < impl.TTry {
			steps = append(steps, s)
		} else if deep < 6 {
			block := m.block(m.IntN(6), deep+1, inDefer || s.Op == impl.TDefer)
			s.Size = len(block)
			steps = append(append(steps, s), block...)
		}
	}
	return steps
}

// life is a task that is made, and gets some turns.
func (m *maker) life() []impl.Step {
	r := 1 + m.IntN(2)
	steps := []impl.Step{{Op: impl.TNew, A: r, B: m.IntN(m.bodies)}}
	for range 1 + m.IntN(3) {
		steps = append(steps, impl.Step{Op: impl.TResume, A: m.reg(), B: r})
	}
	if m.IntN(2) == 0 {
		steps = append(steps, impl.Step{Op: impl.TGiveUp, A: m.reg(), B: r})
	}
	return steps
}

// reg is a register, most often one for values: 1 and 2 are for the numbers of tasks.
func (m *maker) reg() int { return []int{0, 0, 0, 3, 3, 1, 2}[m.IntN(7)] }

func (m *maker) taskReg() int { return []int{1, 1, 1, 2, 2, 2, 0, 3}[m.IntN(8)] }

// step has an Op of a list in which those stand more often that bring tasks together.
func (m *maker) step() impl.Step {
	ops := []int{1, 1, 2, 3, 3, 4, 5, 5, 6, 6, 6, 6, 6, 7, 7, 8, 9, 10, 11, 11, 12, 13, 13, 13, 14, 15}
	s := impl.Step{Op: ops[m.IntN(len(ops))]}
	f := forms()[s.Op-1]
	if f.regA {
		s.A = m.reg()
	}
	if f.regB {
		s.B = m.taskReg()
	}
	if f.body {
		s.A, s.B = m.taskReg(), m.IntN(m.bodies)
	}
	if f.num {
		s.N = int64(m.IntN(7) - 1)
	}
	return s
}

func newMaker() *maker { return &maker{Rand: rand.New(rand.NewPCG(7, 11))} }

func TestRunsOfManyPlans(t *testing.T) {
	m := newMaker()
	seen := map[impl.Rec]int{}
	codes := map[int]int{}
	for range 6000 {
		p := m.plan()
		if f := impl.PlanOk(p); f.Code != 0 {
			t.Fatal("the maker made a wrong plan: ", f)
		}
		for _, ticks := range []int{400, m.IntN(60)} {
			got := impl.RunPlan(p, ticks)
			if want := slowRun(p, ticks); !sameReport(got, want) {
				t.Fatalf("%s\nwith %d ticks: %v, want %v", impl.WritePlan(p), ticks, got, want)
			}
			checkRunning(t, got)
			codes[got.Code]++
			for _, rec := range got.Recs {
				seen[impl.Rec{Kind: rec.Kind, How: rec.How}]++
			}
		}
	}
	for code := range 3 {
		if codes[code] < 100 {
			t.Errorf("only %d runs of code %d", codes[code], code)
		}
	}
	for _, rec := range recs("0 say 0, 0 throw 0, 0 catch 0, 0 ring 0, 0 turn resume, 0 turn yield, 0 turn done, 0 turn error, 0 turn giveup, 0 turn gone") {
		if seen[rec] < 100 {
			t.Errorf("only %d records like %v", seen[rec], rec)
		}
	}
}

func TestAllowancesOfManyPlans(t *testing.T) {
	m := newMaker()
	for range 60 {
		p := m.plan()
		if impl.RunPlan(p, 300).Code != 2 {
			checkAllowances(t, p)
		}
	}
}
