package tests

import (
	"fmt"
	"slices"
	"strings"
	"testing"

	"loop.example/thread/impl"
)

// rings makes rings of a text like "2: 1 2, 7: 0": the first record of each, and its tasks.
func rings(text string) []impl.Ring {
	var out []impl.Ring
	if text == "" {
		return out
	}
	for _, part := range strings.Split(text, ",") {
		at, tasks, _ := strings.Cut(part, ":")
		ring := impl.Ring{At: int(number(strings.TrimSpace(at)))}
		for _, w := range strings.Fields(tasks) {
			ring.Tasks = append(ring.Tasks, int(number(w)))
		}
		out = append(out, ring)
	}
	return out
}

func sameRings(x, y []impl.Ring) bool {
	return slices.EqualFunc(x, y, func(x, y impl.Ring) bool {
		return x.At == y.At && slices.Equal(x.Tasks, y.Tasks)
	})
}

// turns makes stays of a text like "0 - 0 2, 1 resume 2 5": the task, how it began, from where up to where.
func turns(text string) []impl.Turn {
	hows := map[string]int{"-": 0, "resume": 1, "yield": 2, "done": 3, "error": 4, "giveup": 5, "gone": 6}
	var out []impl.Turn
	for _, part := range strings.Split(text, ",") {
		w := strings.Fields(part)
		how, ok := hows[w[1]]
		if len(w) != 4 || !ok {
			panic("no stay: " + part)
		}
		out = append(out, impl.Turn{Task: int(number(w[0])), How: how, From: int(number(w[2])), To: int(number(w[3]))})
	}
	return out
}

// checkTold holds the rings, the turns and the answer of a run against the slow run, and against all that holds of every run.
func checkTold(t *testing.T, p impl.Plan, ticks int) {
	t.Helper()
	r := slowRun(p, ticks)
	got := impl.Rings(p, ticks)
	if want := ringsIn(r.Recs); !sameRings(got, want) {
		t.Fatalf("%s\nwith %d ticks: the rings %v, want %v", impl.WritePlan(p), ticks, got, want)
	}
	for _, ring := range got {
		checkRing(t, ring, r.Recs, impl.StandAt(p, ticks, ring.At))
	}
	stays := impl.Turns(p, ticks)
	checkCover(t, stays, r.Recs)
	checkStays(t, stays)
	if got, want := impl.Answer(p, ticks), textOf(r); got != want {
		t.Fatalf("%s\nwith %d ticks: %q, want %q", impl.WritePlan(p), ticks, got, want)
	}
}

// checkToldAtAll is checkTold at each allowance up to the ticks of the whole run, and past it.
func checkToldAtAll(t *testing.T, p impl.Plan) {
	t.Helper()
	for ticks := range min(impl.RunPlan(p, most).Ticks+3, most) {
		checkTold(t, p, ticks)
	}
	checkTold(t, p, most)
}

func ringsIn(recs []impl.Rec) []impl.Ring {
	var out []impl.Ring
	for k, rec := range recs {
		if rec.Kind != 5 {
			continue
		}
		if k == 0 || recs[k-1].Kind != 5 {
			out = append(out, impl.Ring{At: k})
		}
		last := &out[len(out)-1]
		last.Tasks = append(last.Tasks, int(rec.Num))
	}
	return out
}

// checkRing: at its first record each of its tasks waits for the next one, and the last one runs and gets the error.
func checkRing(t *testing.T, ring impl.Ring, recs []impl.Rec, s impl.Stand) {
	t.Helper()
	last := len(ring.Tasks) - 1
	for i, n := range ring.Tasks {
		v := s.Tasks[n]
		if i > 0 && v.Waiter != ring.Tasks[i-1] {
			t.Fatalf("the ring %v: %d waits for %d in %v", ring, v.Waiter, n, s)
		}
		if i < last && v.State != impl.SBusy || i == last && (v.State != impl.SRunning || s.Running != n) {
			t.Fatalf("the ring %v: %d is %d in %v", ring, n, v.State, s)
		}
	}
	if behind, want := recs[ring.At+last+1], (impl.Rec{Kind: impl.RThrow, Task: ring.Tasks[last], Num: -10}); behind != want {
		t.Fatalf("behind the ring %v: %v, want %v", ring, behind, want)
	}
}

// checkCover: each stay begins with its turn where the one ahead of it ends, and has all records of its task up to the next turn.
func checkCover(t *testing.T, stays []impl.Turn, recs []impl.Rec) {
	t.Helper()
	if len(stays) == 0 || stays[0].From != 0 || stays[0].Task != 0 || stays[0].How != 0 || stays[len(stays)-1].To != len(recs) {
		t.Fatalf("the stays %v of %v", stays, recs)
	}
	for i, stay := range stays {
		inside := recs[stay.From:stay.To]
		if i > 0 {
			begins := impl.Rec{Kind: impl.RTurn, Task: stay.Task, How: stay.How}
			if stay.From != stays[i-1].To || len(inside) == 0 || inside[0] != begins {
				t.Fatalf("stay %d of %v, of %v", i, stays, recs)
			}
			inside = inside[1:]
		}
		for _, rec := range inside {
			if rec.Kind == impl.RTurn || rec.Task != stay.Task {
				t.Fatalf("%v in stay %d of %v", rec, i, stays)
			}
		}
	}
}

// checkStays: a resume or giving up goes to a task that nobody waits for, any other turn to the one that waits.
func checkStays(t *testing.T, stays []impl.Turn) {
	t.Helper()
	row := []int{0}
	for i, stay := range stays[1:] {
		switch stay.How {
		case impl.HResume, impl.HGiveUp:
			if slices.Contains(row, stay.Task) {
				t.Fatalf("stay %d of %v: to a task in the row %v", i+1, stays, row)
			}
			row = append(row, stay.Task)
		default:
			row = row[:len(row)-1]
			if len(row) == 0 || row[len(row)-1] != stay.Task {
				t.Fatalf("stay %d of %v: not to the last of the row %v", i+1, stays, row)
			}
		}
	}
}

// textOf writes a report by the document's words, with its numbers written out.
func textOf(r impl.Report) string {
	var text strings.Builder
	for _, rec := range r.Recs {
		text.WriteString(lineOf(rec) + "\n")
	}
	last := []string{"returned", "error", "no more ticks"}[r.Code]
	return text.String() + fmt.Sprintf("%s %d\n", last, r.Num)
}

func lineOf(rec impl.Rec) string {
	if rec.Kind == 2 {
		how := []string{1: "resume", 2: "yield", 3: "done", 4: "error", 5: "giveup", 6: "gone"}[rec.How]
		return fmt.Sprintf("%d turn %s", rec.Task, how)
	}
	word := []string{1: "say", 3: "throw", 4: "catch", 5: "ring"}[rec.Kind]
	return fmt.Sprintf("%d %s %d", rec.Task, word, rec.Num)
}
