package tests

import (
	"slices"
	"strings"
	"testing"

	"loop.example/thread/impl"
)

// ringCase is a plan, the records of its run, and the rings among them. The word ask stands for a resume and for a giving up: both have the same rings and errors.
type ringCase struct {
	name   string
	bodies []string
	recs   string
	rings  string
}

func asking(bodies []string, step string) impl.Plan {
	var out []string
	for _, body := range bodies {
		out = append(out, strings.ReplaceAll(body, "ask", step))
	}
	return read(out...)
}

func checkRingCases(t *testing.T, cases []ringCase) {
	for _, c := range cases {
		for _, step := range []string{"resume", "giveup"} {
			t.Run(c.name+", "+step, func(t *testing.T) {
				p := asking(c.bodies, step)
				if got := impl.RunPlan(p, most).Recs; !slices.Equal(got, recs(c.recs)) {
					t.Errorf("the records %v, want %s", got, c.recs)
				}
				if got := impl.Rings(p, most); !sameRings(got, rings(c.rings)) {
					t.Errorf("the rings %v, want %s", got, c.rings)
				}
				checkToldAtAll(t, p)
			})
		}
	}
}

func TestRunsWithNoRing(t *testing.T) {
	checkRingCases(t, []ringCase{
		{name: "no step", bodies: []string{""}},
		{name: "no other task", bodies: []string{"say r0; throw r0"}, recs: "0 say 0, 0 throw 0"},
		{name: "turns to and fro", bodies: []string{"new r1 body 1; resume r0 r1; resume r0 r1; say r3", "yield r0"}, recs: "1 turn resume, 0 turn yield, 1 turn resume, 0 turn done, 0 say 2"},
		{
			name:   "one that is done",
			bodies: []string{"new r1 body 1; resume r0 r1; try r2 { ask r0 r1 } say r2; ask r0 r1", ""},
			recs:   "1 turn resume, 0 turn done, 0 throw -10, 0 catch -10, 0 say -10, 0 throw -10",
		},
		{name: "one that was given up while new", bodies: []string{"new r1 body 1; giveup r0 r1; ask r0 r1", ""}, recs: "0 throw -10"},
		{
			name:   "one that was given up while it waited",
			bodies: []string{"new r1 body 1; resume r0 r1; giveup r0 r1; ask r0 r1", "yield r0"},
			recs:   "1 turn resume, 0 turn yield, 1 turn giveup, 0 turn gone, 0 throw -10",
		},
		{
			name:   "another asks for one that is done",
			bodies: []string{"new r1 body 1; new r2 body 2; resume r0 r1; resume r0 r2; say r0", "", "set r1 1; ask r0 r1"},
			recs:   "1 turn resume, 0 turn done, 2 turn resume, 2 throw -10, 0 turn error, 0 say -10",
		},
		{name: "of no number", bodies: []string{"new r1 body 1; set r1 2; try r2 { ask r0 r1 } set r1 -1; ask r0 r1", ""}, recs: "0 throw -12, 0 catch -12, 0 throw -12"},
		{name: "a yield in the main task", bodies: []string{"yield r0"}, recs: "0 throw -10"},
		{
			name:   "a yield in one that is given up",
			bodies: []string{"new r1 body 1; resume r0 r1; giveup r0 r1; say r0", "defer { yield r0 } yield r0"},
			recs:   "1 turn resume, 0 turn yield, 1 turn giveup, 1 throw -10, 0 turn gone, 0 say -10",
		},
		{name: "the status of those who wait and run", bodies: []string{"new r1 body 1; resume r0 r1", "status r2 r1; say r2; set r1 1; status r2 r1; say r2"}, recs: "1 turn resume, 1 say 3, 1 say 2, 0 turn done"},
		{name: "too many tasks", bodies: []string{"set r1 59; loop r1 { new r2 body 1 } new r2 body 1", ""}, recs: "0 throw -10"},
		{name: "a thrown -10", bodies: []string{"set r0 -10; throw r0"}, recs: "0 throw -10"},
	})
}

func TestRunsWithOneRing(t *testing.T) {
	checkRingCases(t, []ringCase{
		{name: "the main task for itself", bodies: []string{"ask r0 r0"}, recs: "0 ring 0, 0 throw -10", rings: "0: 0"},
		{name: "the main task for itself, behind records", bodies: []string{"say r0; say r0; ask r0 r0"}, recs: "0 say 0, 0 say 0, 0 ring 0, 0 throw -10", rings: "2: 0"},
		{
			name:   "a task for itself",
			bodies: []string{"new r1 body 1; resume r0 r1; say r0", "set r1 1; ask r0 r1"},
			recs:   "1 turn resume, 1 ring 1, 1 throw -10, 0 turn error, 0 say -10", rings: "1: 1",
		},
		{
			name:   "for the main task, which waits for it",
			bodies: []string{"new r1 body 1; resume r0 r1; say r0", "ask r0 r1"},
			recs:   "1 turn resume, 1 ring 0, 1 ring 1, 1 throw -10, 0 turn error, 0 say -10", rings: "1: 0 1",
		},
		{
			name:   "for the one that waits for it",
			bodies: []string{"new r1 body 1; new r2 body 2; resume r0 r1", "set r1 2; resume r0 r1; say r0", "set r1 1; ask r0 r1"},
			recs:   "1 turn resume, 2 turn resume, 2 ring 1, 2 ring 2, 2 throw -10, 1 turn error, 1 say -10, 0 turn done", rings: "2: 1 2",
		},
		{
			name:   "for one farther off",
			bodies: []string{"new r1 body 1; new r2 body 2; new r3 body 3; resume r0 r1", "set r1 2; resume r0 r1", "set r1 3; resume r0 r1", "set r1 1; ask r0 r1"},
			recs: "1 turn resume, 2 turn resume, 3 turn resume, 3 ring 1, 3 ring 2, 3 ring 3, 3 throw -10, 2 turn error, 1 turn done, " +
				"0 turn done", rings: "3: 1 2 3",
		},
		{
			name:   "for the main task, far off",
			bodies: []string{"new r1 body 1; new r2 body 2; new r3 body 3; resume r0 r1", "set r1 2; resume r0 r1", "set r1 3; resume r0 r1", "ask r0 r1"},
			recs: "1 turn resume, 2 turn resume, 3 turn resume, 3 ring 0, 3 ring 1, 3 ring 2, 3 ring 3, 3 throw -10, 2 turn error, 1 turn done, " +
				"0 turn done", rings: "3: 0 1 2 3",
		},
		{
			name:   "in the order in which they wait, not in that of their numbers",
			bodies: []string{"new r0 body 1; new r1 body 2; new r2 body 3; resume r0 r2", "set r1 3; ask r0 r1", "set r1 1; resume r0 r1", "set r1 2; resume r0 r1"},
			recs: "3 turn resume, 2 turn resume, 1 turn resume, 1 ring 3, 1 ring 2, 1 ring 1, 1 throw -10, 2 turn error, 3 turn done, " +
				"0 turn done", rings: "3: 3 2 1",
		},
		{
			name:   "those who wait for nobody and those who wait outside of it are not of it",
			bodies: []string{"new r1 body 1; new r2 body 2; new r3 body 1; resume r0 r1; resume r0 r2", "yield r0; set r1 1; ask r0 r1", "set r1 1; resume r0 r1"},
			recs:   "1 turn resume, 0 turn yield, 2 turn resume, 1 turn resume, 1 ring 1, 1 throw -10, 2 turn error, 0 turn done", rings: "4: 1",
		},
	})
}

func TestRingsInBlocks(t *testing.T) {
	checkRingCases(t, []ringCase{
		{name: "in a defer of the main task", bodies: []string{"defer { ask r0 r0 } say r0"}, recs: "0 say 0, 0 ring 0, 0 throw -10", rings: "1: 0"},
		{
			name:   "in a defer of one that returns",
			bodies: []string{"new r1 body 1; resume r0 r1; say r0; say r3", "defer { ask r0 r1 } set r2 9; return r2"},
			recs:   "1 turn resume, 1 ring 0, 1 ring 1, 1 throw -10, 0 turn error, 0 say -10, 0 say 0", rings: "1: 0 1",
		},
		{
			name:   "in a defer of one that an error leaves",
			bodies: []string{"new r1 body 1; resume r0 r1; say r0", "defer { ask r0 r1 } set r2 9; throw r2"},
			recs:   "1 turn resume, 1 throw 9, 1 ring 0, 1 ring 1, 1 throw -10, 0 turn error, 0 say -10", rings: "2: 0 1",
		},
		{
			name:   "one that is given up, for the one that gives it up",
			bodies: []string{"new r1 body 1; resume r0 r1; giveup r0 r1; say r0; say r3", "defer { ask r0 r1 } yield r0"},
			recs:   "1 turn resume, 0 turn yield, 1 turn giveup, 1 ring 0, 1 ring 1, 1 throw -10, 0 turn gone, 0 say -10, 0 say 0", rings: "3: 0 1",
		},
		{
			name:   "one that is given up, for itself, in a try in its defer",
			bodies: []string{"new r1 body 1; resume r0 r1; giveup r0 r1; say r0; say r3", "defer { try r2 { set r1 1; ask r0 r1 } } yield r0"},
			recs:   "1 turn resume, 0 turn yield, 1 turn giveup, 1 ring 1, 1 throw -10, 1 catch -10, 0 turn gone, 0 say 0, 0 say 1", rings: "3: 1",
		},
		{
			name:   "one that is given up, for the main task behind the one that gives it up",
			bodies: []string{"new r1 body 1; new r2 body 2; resume r0 r2; resume r0 r1", "set r1 2; giveup r0 r1; say r0; say r3", "defer { ask r0 r1 } yield r0"},
			recs: "2 turn resume, 0 turn yield, 1 turn resume, 2 turn giveup, 2 ring 0, 2 ring 1, 2 ring 2, 2 throw -10, 1 turn gone, 1 say -10, 1 say 0, " +
				"0 turn done", rings: "4: 0 1 2",
		},
		{
			name:   "for one that is given up, by one that its defer resumes",
			bodies: []string{"new r1 body 1; resume r0 r1; giveup r0 r1; say r0", "new r1 body 2; defer { resume r0 r1; say r0 } yield r0", "set r1 1; ask r0 r1"},
			recs:   "1 turn resume, 0 turn yield, 1 turn giveup, 2 turn resume, 2 ring 1, 2 ring 2, 2 throw -10, 1 turn error, 1 say -10, 0 turn gone, 0 say 0", rings: "4: 1 2",
		},
		{
			name:   "in a try",
			bodies: []string{"new r1 body 1; resume r0 r1; say r0", "try r2 { ask r0 r1; say r0 } say r2; return r2"},
			recs:   "1 turn resume, 1 ring 0, 1 ring 1, 1 throw -10, 1 catch -10, 1 say -10, 0 turn done, 0 say -10", rings: "1: 0 1",
		},
		{
			name:   "in a scope and an if",
			bodies: []string{"set r1 1; scope { if r1 { say r1; set r1 0; ask r0 r1 } }"},
			recs:   "0 say 1, 0 ring 0, 0 throw -10", rings: "1: 0",
		},
	})
}

func TestRunsWithSeveralRings(t *testing.T) {
	checkRingCases(t, []ringCase{
		{
			name:   "in a loop",
			bodies: []string{"new r1 body 1; resume r0 r1", "set r2 3; loop r2 { try r0 { say r2; ask r0 r1 } }"},
			recs: "1 turn resume, 1 say 2, 1 ring 0, 1 ring 1, 1 throw -10, 1 catch -10, 1 say 1, 1 ring 0, 1 ring 1, 1 throw -10, 1 catch -10, " +
				"1 say 0, 1 ring 0, 1 ring 1, 1 throw -10, 1 catch -10, 0 turn done", rings: "2: 0 1, 7: 0 1, 12: 0 1",
		},
		{name: "one right behind the other", bodies: []string{"defer { ask r0 r0 } ask r0 r0"}, recs: "0 ring 0, 0 throw -10, 0 ring 0, 0 throw -10", rings: "0: 0, 2: 0"},
		{
			name:   "one right behind the other, of other tasks",
			bodies: []string{"new r1 body 1; resume r0 r1", "defer { ask r0 r1 } set r2 1; ask r0 r2"},
			recs:   "1 turn resume, 1 ring 1, 1 throw -10, 1 ring 0, 1 ring 1, 1 throw -10, 0 turn error", rings: "1: 1, 3: 0 1",
		},
		{
			name:   "one right behind the other, of one that is given up",
			bodies: []string{"new r1 body 1; resume r0 r1; giveup r0 r1; say r0", "set r2 1; defer { ask r0 r1 } defer { ask r0 r2 } yield r0"},
			recs:   "1 turn resume, 0 turn yield, 1 turn giveup, 1 ring 1, 1 throw -10, 1 ring 0, 1 ring 1, 1 throw -10, 0 turn gone, 0 say -10", rings: "3: 1, 5: 0 1",
		},
		{
			name:   "of one task after the other",
			bodies: []string{"new r1 body 1; new r2 body 2; resume r0 r1; set r1 0; ask r0 r1", "set r1 2; resume r0 r1; set r1 0; ask r0 r1", "set r1 1; ask r0 r1"},
			recs: "1 turn resume, 2 turn resume, 2 ring 1, 2 ring 2, 2 throw -10, 1 turn error, 1 ring 0, 1 ring 1, 1 throw -10, 0 turn error, " +
				"0 ring 0, 0 throw -10", rings: "2: 1 2, 6: 0 1, 10: 0",
		},
		{
			name:   "of fewer and of more, by one task",
			bodies: []string{"new r1 body 1; new r2 body 2; resume r0 r1", "set r1 2; resume r0 r1", "set r1 2; try r0 { ask r0 r1 } set r1 0; try r0 { ask r0 r1 } set r1 1; ask r0 r1"},
			recs: "1 turn resume, 2 turn resume, 2 ring 2, 2 throw -10, 2 catch -10, 2 ring 0, 2 ring 1, 2 ring 2, 2 throw -10, 2 catch -10, " +
				"2 ring 1, 2 ring 2, 2 throw -10, 1 turn error, 0 turn done", rings: "2: 2, 5: 0 1 2, 10: 1 2",
		},
	})
}

// A ring is told whole or not at all, by the tick of the step that asks.
func TestRingsAtTheEndOfTheTicks(t *testing.T) {
	cases := []struct {
		bodies []string
		ticks  int
		recs   string
		rings  string
	}{
		{[]string{"defer { say r0 } ask r0 r0"}, 0, "", ""},
		{[]string{"defer { say r0 } ask r0 r0"}, 1, "", ""},
		{[]string{"defer { say r0 } ask r0 r0"}, 2, "0 ring 0, 0 throw -10", "0: 0"},
		{[]string{"defer { say r0 } ask r0 r0"}, 3, "0 ring 0, 0 throw -10", "0: 0"},
		{[]string{"new r1 body 1; resume r0 r1", "defer { say r0 } ask r0 r1"}, 3, "1 turn resume", ""},
		{[]string{"new r1 body 1; resume r0 r1", "defer { say r0 } ask r0 r1"}, 4, "1 turn resume, 1 ring 0, 1 ring 1, 1 throw -10", "1: 0 1"},
		{[]string{"defer { ask r0 r0 } ask r0 r0"}, 3, "0 ring 0, 0 throw -10", "0: 0"},
	}
	for _, c := range cases {
		for _, step := range []string{"resume", "giveup"} {
			p := asking(c.bodies, step)
			r := impl.RunPlan(p, c.ticks)
			if r.Code != 2 || !slices.Equal(r.Recs, recs(c.recs)) {
				t.Errorf("%v with %d ticks: %v, want %s", c.bodies, c.ticks, r, c.recs)
			}
			if got := impl.Rings(p, c.ticks); !sameRings(got, rings(c.rings)) {
				t.Errorf("%v with %d ticks: the rings %v, want %s", c.bodies, c.ticks, got, c.rings)
			}
			checkTold(t, p, c.ticks)
		}
	}
}

func TestRingsUpToTheMostTicks(t *testing.T) {
	p := read("set r1 1; loop r1 { set r1 1; try r0 { resume r2 r2 } }")
	got := impl.Rings(p, most)
	if len(got) != 1249 {
		t.Fatalf("%d rings", len(got))
	}
	for i, ring := range got {
		if ring.At != 3*i || !slices.Equal(ring.Tasks, []int{0}) {
			t.Fatalf("ring %d: %v", i, ring)
		}
	}
	checkCover(t, impl.Turns(p, most), impl.RunPlan(p, most).Recs)
}

// Each task makes the next and resumes it, up to the most tasks there can be; the last one asks for the main task.
func TestRingOfTheMostTasks(t *testing.T) {
	p := read("try r2 { new r1 body 0; resume r0 r1; return r0 } set r2 0; resume r0 r2")
	var all []int
	for n := range 60 {
		all = append(all, n)
	}
	if got, want := impl.Rings(p, most), []impl.Ring{{At: 61, Tasks: all}}; !sameRings(got, want) {
		t.Errorf("%v, want %v", got, want)
	}
	checkToldAtAll(t, p)
}

// Of n tasks that each resume the next one the last asks for each of them: it alone gets an error.
func TestRingsOfChains(t *testing.T) {
	for n := 1; n <= 20; n++ {
		for target := range n + 1 {
			for _, step := range []string{"resume", "giveup"} {
				p := chain(n, target, step)
				ring := impl.Ring{At: n}
				for k := target; k <= n; k++ {
					ring.Tasks = append(ring.Tasks, k)
				}
				if got := impl.Rings(p, most); !sameRings(got, []impl.Ring{ring}) {
					t.Errorf("%d tasks, %s of %d: %v, want %v", n, step, target, got, ring)
				}
				checkOneError(t, impl.RunPlan(p, most), n)
				checkTold(t, p, most)
			}
		}
	}
}

func checkOneError(t *testing.T, r impl.Report, last int) {
	t.Helper()
	thrown, told := 0, 0
	for _, rec := range r.Recs {
		if rec.Kind == impl.RThrow {
			thrown++
			if rec.Task != last || rec.Num != -10 {
				t.Errorf("%d of %d has an error: %v", rec.Task, last, rec)
			}
		}
		if rec.Kind == impl.RTurn && rec.How == impl.HError {
			told++
			if rec.Task != last-1 {
				t.Errorf("%d is told of the error of %d", rec.Task, last)
			}
		}
	}
	if thrown != 1 || told != 1 || r.Code != 0 {
		t.Errorf("%d errors, told %d times, in %v", thrown, told, r)
	}
}
