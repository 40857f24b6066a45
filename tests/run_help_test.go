package tests

import (
	"slices"
	"strconv"
	"strings"
	"testing"

	"loop.example/thread/impl"
)

const most = 5000

// read makes a plan of a text a body: the words of WritePlan, with ; wherever it helps.
func read(bodies ...string) impl.Plan {
	var p impl.Plan
	for _, text := range bodies {
		words := strings.Fields(strings.ReplaceAll(text, ";", " "))
		r := &reader{words: words}
		p.Bodies = append(p.Bodies, impl.Body{Steps: r.block()})
		if len(r.words) != 0 {
			panic("left over in a body: " + r.words[0])
		}
	}
	return p
}

type reader struct {
	words []string
}

func (r *reader) word() string {
	w := r.words[0]
	r.words = r.words[1:]
	return w
}

func (r *reader) expect(w string) {
	if got := r.word(); got != w {
		panic("not " + w + ": " + got)
	}
}

func (r *reader) reg() int {
	return int(number(strings.TrimPrefix(r.word(), "r")))
}

func number(w string) int64 {
	n, err := strconv.ParseInt(w, 10, 64)
	if err != nil {
		panic(err)
	}
	return n
}

func (r *reader) block() []impl.Step {
	var steps []impl.Step
	for len(r.words) > 0 && r.words[0] != "}" {
		steps = append(steps, r.step()...)
	}
	return steps
}

func (r *reader) step() []impl.Step {
	name := r.word()
	i := slices.IndexFunc(forms(), func(f form) bool { return f.name == name })
	f := forms()[i]
	s := impl.Step{Op: f.op}
	if f.regA {
		s.A = r.reg()
	}
	if f.regB {
		s.B = r.reg()
	}
	if f.body {
		r.expect("body")
		s.B = int(number(r.word()))
	}
	if f.num {
		s.N = number(r.word())
	}
	var block []impl.Step
	if f.head {
		r.expect("{")
		block = r.block()
		r.expect("}")
		s.Size = len(block)
	}
	return append([]impl.Step{s}, block...)
}

// recs makes records of a text like "1 turn resume, 1 say 8", with the document's numbers written out.
func recs(text string) []impl.Rec {
	var out []impl.Rec
	if text == "" {
		return out
	}
	kinds := map[string]int{"say": 1, "turn": 2, "throw": 3, "catch": 4, "ring": 5}
	hows := map[string]int{"resume": 1, "yield": 2, "done": 3, "error": 4, "giveup": 5, "gone": 6}
	for _, line := range strings.Split(text, ",") {
		w := strings.Fields(line)
		if len(w) != 3 || kinds[w[1]] == 0 || w[1] == "turn" && hows[w[2]] == 0 {
			panic("no record: " + line)
		}
		rec := impl.Rec{Task: int(number(w[0])), Kind: kinds[w[1]]}
		if w[1] == "turn" {
			rec.How = hows[w[2]]
		} else {
			rec.Num = number(w[2])
		}
		out = append(out, rec)
	}
	return out
}

func sameReport(x, y impl.Report) bool {
	return x.Code == y.Code && x.Num == y.Num && x.Ticks == y.Ticks && slices.Equal(x.Recs, y.Recs) && slices.Equal(x.States, y.States)
}

// runCase is a plan and all that its run shows when it has ticks enough.
type runCase struct {
	name   string
	bodies []string
	recs   string
	code   int
	num    int64
	ticks  int
	states []int
}

func checkRuns(t *testing.T, cases []runCase) {
	for _, c := range cases {
		t.Run(c.name, func(t *testing.T) {
			want := impl.Report{Code: c.code, Recs: recs(c.recs), Num: c.num, Ticks: c.ticks, States: c.states}
			checkRun(t, read(c.bodies...), want)
		})
	}
}

// checkRun holds a run against what is wanted, and against all that holds of every run.
func checkRun(t *testing.T, p impl.Plan, want impl.Report) {
	t.Helper()
	if got := impl.RunPlan(p, most); !sameReport(got, want) {
		t.Errorf("answered %v, want %v", got, want)
	}
	if got := slowRun(p, most); !sameReport(got, want) {
		t.Errorf("the slow run answers %v, want %v", got, want)
	}
	checkRunning(t, want)
	checkAllowances(t, p)
	checkAllStands(t, p, most)
	checkEnds(t, p)
	checkToldAtAll(t, p)
}

// checkAllowances: at each allowance below the ticks of the whole run its beginning is shown, at any other the whole.
func checkAllowances(t *testing.T, p impl.Plan) {
	t.Helper()
	whole := impl.RunPlan(p, most)
	for ticks := range min(whole.Ticks+3, most) {
		got := impl.RunPlan(p, ticks)
		if ticks >= whole.Ticks {
			if !sameReport(got, whole) {
				t.Fatalf("with %d of %d ticks: %v, want %v", ticks, whole.Ticks, got, whole)
			}
			continue
		}
		if got.Code != 2 || got.Num != 0 || got.Ticks != ticks || !isBeginning(got.Recs, whole.Recs) {
			t.Fatalf("with %d of %d ticks: %v, want the beginning of %v", ticks, whole.Ticks, got, whole)
		}
		if want := slowRun(p, ticks); !sameReport(got, want) {
			t.Fatalf("with %d of %d ticks: %v, want %v", ticks, whole.Ticks, got, want)
		}
	}
}

func isBeginning(recs, whole []impl.Rec) bool {
	return len(recs) <= len(whole) && slices.Equal(recs, whole[:len(recs)])
}

// checkRunning follows the turns: who is busy stands in a row that ends with the running one, and each turn adds to it or takes away from it.
func checkRunning(t *testing.T, r impl.Report) {
	t.Helper()
	row := []int{0}
	for i, rec := range r.Recs {
		if rec.Kind == impl.RTurn && (rec.How == impl.HResume || rec.How == impl.HGiveUp) {
			if slices.Contains(row, rec.Task) {
				t.Fatalf("record %d, %v: to a task in the row %v", i, rec, row)
			}
			row = append(row, rec.Task)
		} else if rec.Kind == impl.RTurn {
			row = row[:len(row)-1]
		}
		if len(row) == 0 || rec.Task != row[len(row)-1] {
			t.Fatalf("record %d, %v: not of the running task of the row %v", i, rec, row)
		}
	}
	checkRow(t, r, row)
}

func checkRow(t *testing.T, r impl.Report, row []int) {
	t.Helper()
	for n, state := range r.States {
		if i := slices.Index(row, n); i >= 0 && i < len(row)-1 && state != impl.SBusy {
			t.Fatalf("task %d of the row %v is %d at the end", n, row, state)
		} else if i == len(row)-1 && state != impl.SRunning && (n != 0 || state != impl.SDone) {
			t.Fatalf("task %d, which runs, is %d at the end", n, state)
		} else if i < 0 && (state == impl.SBusy || state == impl.SRunning) {
			t.Fatalf("task %d, not of the row %v, is %d at the end", n, row, state)
		}
	}
}
