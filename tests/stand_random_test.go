package tests

import (
	"slices"
	"testing"

	"loop.example/thread/impl"
)

func TestStandsOfManyPlans(t *testing.T) {
	m := newMaker()
	deepest, kept, waits := 0, 0, 0
	for range 200 {
		p := m.plan()
		for _, ticks := range []int{150, m.IntN(60)} {
			checkAllStands(t, p, ticks)
			for _, v := range impl.EndOf(p, ticks).Tasks {
				deepest, kept = max(deepest, v.Blocks), max(kept, v.Kept)
				if v.State == impl.SWaiting && v.Blocks > 1 {
					waits++
				}
			}
		}
	}
	if deepest < 4 || kept < 5 || waits < 20 {
		t.Errorf("the plans show little: at most %d blocks and %d defers, %d waiting in blocks", deepest, kept, waits)
	}
}

func TestEndsOfManyPlans(t *testing.T) {
	m := newMaker()
	for range 3000 {
		p := m.plan()
		for _, ticks := range []int{400, m.IntN(60)} {
			checkEndOf(t, p, ticks)
		}
	}
}

// Each task makes the next and resumes it, up to the most tasks there can be.
func TestStandsOfTheMostTasks(t *testing.T) {
	p := read("defer { say r1 } new r1 body 0; resume r0 r1; throw r0")
	checkAllStands(t, p, most)
	s := impl.StandAt(p, most, 58)
	if len(s.Tasks) != 60 || s.Running != 59 || s.Tasks[59].Waiter != 58 || s.Tasks[59].Blocks != 0 {
		t.Error(s)
	}
	busy := 0
	for _, v := range s.Tasks {
		if v.State == impl.SBusy && v.Kept == 1 && v.Begun == 0 && v.Blocks == 1 {
			busy++
		}
	}
	if busy != 59 {
		t.Errorf("%d are busy", busy)
	}
	end := impl.EndOf(p, most)
	if !slices.EqualFunc(end.Tasks, s.Tasks, func(x, y impl.TaskView) bool {
		return x.State == impl.SDone && x.Kept == 1 && x.Begun == 1 && x.Blocks == 0 && x.Waiter == -1 && x.Regs[1] == y.Regs[1]
	}) {
		t.Error(end)
	}
}
