package tests

import (
	"slices"
	"strings"
	"testing"

	"loop.example/thread/impl"
)

// stand makes a Stand of a text like "1 turn resume | b0 busy 3,1,0,0 w- o1 d0/0 | b1 runs 0,0,0,0 w0 o2 d1/3": the running task (what is behind it is for the reader, and for recordOf), then each task: its body, state and registers, who waits for it, its open blocks, its defers begun and met.
func stand(text string) impl.Stand {
	parts := strings.Split(text, "|")
	s := impl.Stand{Ok: true, Running: int(number(strings.Fields(parts[0])[0]))}
	for _, part := range parts[1:] {
		s.Tasks = append(s.Tasks, view(part))
	}
	return s
}

func view(text string) impl.TaskView {
	states := map[string]int{"new": 0, "waits": 1, "runs": 2, "busy": 3, "done": 4}
	w := strings.Fields(text)
	state, ok := states[w[1]]
	if len(w) != 6 || !ok {
		panic("no task: " + text)
	}
	v := impl.TaskView{Body: after(w[0], "b"), State: state, Waiter: -1, Blocks: after(w[4], "o")}
	for _, n := range strings.Split(w[2], ",") {
		v.Regs = append(v.Regs, number(n))
	}
	if w[3] != "w-" {
		v.Waiter = after(w[3], "w")
	}
	begun, met, _ := strings.Cut(w[5], "/")
	v.Begun, v.Kept = after(begun, "d"), after(met, "")
	return v
}

func after(word, mark string) int {
	rest, ok := strings.CutPrefix(word, mark)
	if !ok {
		panic("not with " + mark + ": " + word)
	}
	return int(number(rest))
}

func recordOf(text string) impl.Rec {
	first, _, _ := strings.Cut(text, "|")
	return recs(first)[0]
}

func sameStand(x, y impl.Stand) bool {
	return x.Ok == y.Ok && x.Running == y.Running && slices.EqualFunc(x.Tasks, y.Tasks, sameView)
}

func sameView(x, y impl.TaskView) bool {
	return x.Body == y.Body && x.State == y.State && slices.Equal(x.Regs, y.Regs) && x.Waiter == y.Waiter && x.Blocks == y.Blocks && x.Kept == y.Kept && x.Begun == y.Begun
}

func isZero(s impl.Stand) bool { return sameStand(s, impl.Stand{}) }

// standCase is a plan, what stands at each record of its run, and at its end.
type standCase struct {
	name   string
	bodies []string
	at     []string
	end    string
}

func checkStands(t *testing.T, cases []standCase) {
	for _, c := range cases {
		t.Run(c.name, func(t *testing.T) {
			p := read(c.bodies...)
			made := impl.RunPlan(p, most).Recs
			if len(made) != len(c.at) {
				t.Fatalf("the records are %v", made)
			}
			for k, text := range c.at {
				if made[k] != recordOf(text) {
					t.Errorf("record %d is %v, want %s", k, made[k], text)
				}
				if got := impl.StandAt(p, most, k); !sameStand(got, stand(text)) {
					t.Errorf("at record %d: %v, want %s", k, got, text)
				}
			}
			if got := impl.EndOf(p, most); !sameStand(got, stand(c.end)) {
				t.Errorf("at the end: %v, want %s", got, c.end)
			}
			checkAllStands(t, p, most)
			checkEnds(t, p)
		})
	}
}

// checkEnds holds the end against the slow run at each allowance up to the ticks of the whole run, and past it.
func checkEnds(t *testing.T, p impl.Plan) {
	t.Helper()
	for ticks := range min(impl.RunPlan(p, most).Ticks+3, most) {
		checkEndOf(t, p, ticks)
	}
}

func checkEndOf(t *testing.T, p impl.Plan, ticks int) {
	t.Helper()
	got, want := impl.EndOf(p, ticks), slowEnd(p, ticks)
	if !sameStand(got, want) {
		t.Fatalf("%s\nat the end of %d ticks: %v, want %v", impl.WritePlan(p), ticks, got, want)
	}
	checkEnd(t, impl.RunPlan(p, ticks), got)
}

// checkAllStands holds each stand of a run against the slow run, and against all that holds of every run.
func checkAllStands(t *testing.T, p impl.Plan, ticks int) {
	t.Helper()
	at := slowStands(p, ticks)
	r := impl.RunPlan(p, ticks)
	if len(at) != len(r.Recs) {
		t.Fatalf("%s\n%d records, want %d", impl.WritePlan(p), len(r.Recs), len(at))
	}
	for k, want := range at {
		got := impl.StandAt(p, ticks, k)
		if !sameStand(got, want) {
			t.Fatalf("%s\nat record %d of %d ticks: %v, want %v", impl.WritePlan(p), k, ticks, got, want)
		}
		checkAtRecord(t, r.Recs[k], got)
	}
	for _, k := range []int{-1, len(at), len(at) + 1} {
		if got := impl.StandAt(p, ticks, k); !isZero(got) {
			t.Fatalf("%s\nat record %d of %d: %v", impl.WritePlan(p), k, len(at), got)
		}
	}
	checkEndOf(t, p, ticks)
}

func checkAtRecord(t *testing.T, rec impl.Rec, s impl.Stand) {
	t.Helper()
	if s.Running != rec.Task {
		t.Fatalf("at %v: %d runs", rec, s.Running)
	}
	checkOneRuns(t, s)
	first := rec.Kind == impl.RTurn && rec.How == impl.HResume
	for n, v := range s.Tasks {
		checkView(t, n, v, first && n == s.Running)
	}
}

func checkEnd(t *testing.T, r impl.Report, s impl.Stand) {
	t.Helper()
	var states []int
	for n, v := range s.Tasks {
		states = append(states, v.State)
		checkView(t, n, v, false)
	}
	if !s.Ok || !slices.Equal(states, r.States) {
		t.Fatalf("at the end: %v, want the states %v", s, r.States)
	}
	if r.Code == 2 {
		checkOneRuns(t, s)
	} else if s.Running != 0 || states[0] != impl.SDone || slices.Contains(states, impl.SRunning) || slices.Contains(states, impl.SBusy) {
		t.Fatalf("at the end of a run of code %d: %v", r.Code, s)
	}
}

// checkOneRuns: one task runs, those that wait for it are busy, up to the main task, and all others are new, waiting or done.
func checkOneRuns(t *testing.T, s impl.Stand) {
	t.Helper()
	row := []int{s.Running}
	for n := s.Tasks[s.Running].Waiter; n >= 0; n = s.Tasks[n].Waiter {
		if slices.Contains(row, n) {
			t.Fatalf("%d waits for itself in %v", n, s)
		}
		row = append(row, n)
	}
	if !s.Ok || row[len(row)-1] != 0 {
		t.Fatalf("the row %v in %v", row, s)
	}
	for n, v := range s.Tasks {
		in := slices.Index(row, n)
		switch {
		case in == 0 && v.State == impl.SRunning:
		case in > 0 && v.State == impl.SBusy:
		case in < 0 && v.Waiter == -1 && (v.State == impl.SNew || v.State == impl.SWaiting || v.State == impl.SDone):
		default:
			t.Fatalf("task %d, with the row %v, in %v", n, row, s)
		}
	}
}

// checkView: fresh is for the one task that may be running with no block open.
func checkView(t *testing.T, n int, v impl.TaskView, fresh bool) {
	t.Helper()
	started := v.Blocks > 0
	none := v.Blocks == 0 && v.Kept == 0 && v.Begun == 0 && slices.Equal(v.Regs, make([]int64, 4))
	ok := false
	switch v.State {
	case impl.SNew:
		ok = none
	case impl.SDone:
		ok = !started && v.Begun == v.Kept
	case impl.SWaiting, impl.SBusy:
		ok = started && v.Begun <= v.Kept
	case impl.SRunning:
		ok = (started || fresh && none) && v.Begun <= v.Kept
	}
	if !ok || len(v.Regs) != 4 {
		t.Fatalf("task %d stands as %v", n, v)
	}
}
