package tests

import (
	"strconv"
	"testing"

	"loop.example/thread/impl"
)

func TestPlainSteps(t *testing.T) {
	checkRuns(t, []runCase{
		{name: "nothing", bodies: []string{""}, states: []int{4}},
		{name: "registers are 0 at first", bodies: []string{"say r0; say r1; say r2; say r3"}, recs: "0 say 0, 0 say 0, 0 say 0, 0 say 0", ticks: 4, states: []int{4}},
		{name: "set, add and say", bodies: []string{"set r0 5; add r1 r0 -7; say r1; say r0"}, recs: "0 say -2, 0 say 5", ticks: 4, states: []int{4}},
		{name: "add to itself", bodies: []string{"set r3 5; add r3 r3 1; say r3"}, recs: "0 say 6", ticks: 3, states: []int{4}},
		{
			name:   "sums wrap",
			bodies: []string{"set r0 9223372036854775807; add r0 r0 1; say r0; add r1 r0 -1; say r1"},
			recs:   "0 say -9223372036854775808, 0 say 9223372036854775807", ticks: 5, states: []int{4},
		},
		{name: "return", bodies: []string{"set r1 7; return r1; say r1"}, num: 7, ticks: 2, states: []int{4}},
		{name: "return of the flag", bodies: []string{"set r3 -1; return r3"}, num: -1, ticks: 2, states: []int{4}},
		{name: "throw", bodies: []string{"set r1 -3; throw r1; say r1"}, recs: "0 throw -3", code: 1, num: -3, ticks: 2, states: []int{4}},
		{name: "throw of 0", bodies: []string{"throw r0"}, recs: "0 throw 0", code: 1, ticks: 1, states: []int{4}},
		{name: "throw of the least", bodies: []string{"set r0 -9223372036854775808; throw r0"}, recs: "0 throw -9223372036854775808", code: 1, num: least, ticks: 2, states: []int{4}},
	})
}

func TestBlocks(t *testing.T) {
	checkRuns(t, []runCase{
		{name: "scope", bodies: []string{"scope { say r0; scope { say r1 } } say r2"}, recs: "0 say 0, 0 say 0, 0 say 0", ticks: 5, states: []int{4}},
		{name: "try without an error", bodies: []string{"set r1 2; try r1 { say r1 } say r1"}, recs: "0 say 2, 0 say 2", ticks: 4, states: []int{4}},
		{name: "try", bodies: []string{"set r0 6; try r1 { throw r0; say r0 } say r1"}, recs: "0 throw 6, 0 catch 6, 0 say 6", ticks: 4, states: []int{4}},
		{name: "try into the flag", bodies: []string{"set r0 6; try r3 { throw r0 } say r3"}, recs: "0 throw 6, 0 catch 6, 0 say 6", ticks: 4, states: []int{4}},
		{
			name:   "the inner try, then the outer one",
			bodies: []string{"set r0 1; try r1 { try r2 { throw r0 } say r2; set r0 3; throw r0 } say r1"},
			recs:   "0 throw 1, 0 catch 1, 0 say 1, 0 throw 3, 0 catch 3, 0 say 3", ticks: 8, states: []int{4},
		},
		{
			name:   "an error passes all that is no try",
			bodies: []string{"set r0 1; try r1 { scope { if r0 { loop r0 { throw r0; say r0 } say r0 } say r0 } say r0 } say r1"},
			recs:   "0 throw 0, 0 catch 0, 0 say 0", ticks: 7, states: []int{4},
		},
		{
			name:   "a return passes all",
			bodies: []string{"set r0 2; try r1 { scope { loop r0 { if r0 { return r0 } say r0 } say r0 } say r0 } say r1"},
			num:    1, ticks: 6, states: []int{4},
		},
		{name: "if of 0", bodies: []string{"if r1 { say r1 } say r0"}, recs: "0 say 0", ticks: 2, states: []int{4}},
		{name: "if of 1", bodies: []string{"set r1 1; if r1 { say r1 } say r0"}, recs: "0 say 1, 0 say 0", ticks: 4, states: []int{4}},
		{name: "if below 0", bodies: []string{"set r1 -1; if r1 { say r1 } say r0"}, recs: "0 say -1, 0 say 0", ticks: 4, states: []int{4}},
		{name: "loop of 3", bodies: []string{"set r1 3; loop r1 { say r1 } say r1"}, recs: "0 say 2, 0 say 1, 0 say 0, 0 say 0", ticks: 9, states: []int{4}},
		{name: "loop of 0", bodies: []string{"loop r1 { say r1 } say r1"}, recs: "0 say 0", ticks: 2, states: []int{4}},
		{name: "loop below 0", bodies: []string{"set r1 -1; loop r1 { say r1 } say r1"}, recs: "0 say -1", ticks: 3, states: []int{4}},
		{name: "loop of the least", bodies: []string{"set r1 -9223372036854775808; loop r1 { say r1 }"}, ticks: 2, states: []int{4}},
		{name: "a loop whose block ends it", bodies: []string{"set r1 3; loop r1 { say r1; set r1 0 } say r1"}, recs: "0 say 2, 0 say 0", ticks: 6, states: []int{4}},
		{
			name:   "a loop whose block makes it longer",
			bodies: []string{"set r1 1; set r2 1; loop r1 { if r2 { set r1 2; set r2 0 } say r1 }"},
			recs:   "0 say 2, 0 say 1, 0 say 0", ticks: 14, states: []int{4},
		},
		{
			name:   "a loop in a loop",
			bodies: []string{"set r1 2; loop r1 { set r2 2; loop r2 { say r2 } say r1 }"},
			recs:   "0 say 1, 0 say 0, 0 say 1, 0 say 1, 0 say 0, 0 say 0", ticks: 1 + 3 + 2*(1+3+2+1), states: []int{4},
		},
		{name: "empty blocks", bodies: []string{"try r0 { } scope { } defer { } loop r1 { } if r0 { } say r0"}, recs: "0 say 0", ticks: 7, states: []int{4}},
		{name: "empty blocks that are done", bodies: []string{"set r1 2; if r1 { } loop r1 { } say r1"}, recs: "0 say 0", ticks: 6, states: []int{4}},
		{name: "a defer has a tick, and its block one", bodies: []string{"defer { say r0; say r0 } say r1"}, recs: "0 say 0, 0 say 0, 0 say 0", ticks: 5, states: []int{4}},
		{
			name:   "a defer of a loop's block is done at each of its turns",
			bodies: []string{"set r1 2; loop r1 { defer { say r1 } set r2 9; say r2 }"},
			recs:   "0 say 9, 0 say 1, 0 say 9, 0 say 0", ticks: 1 + 3 + 2*5, states: []int{4},
		},
		{name: "a defer that is not met", bodies: []string{"if r0 { defer { say r0 } } return r0; defer { say r0 }"}, ticks: 2, states: []int{4}},
	})
}

func TestRefused(t *testing.T) {
	ok := read("say r0")
	for _, ticks := range []int{-1, 5001, least, greatest} {
		if got := impl.RunPlan(ok, ticks); !sameReport(got, impl.Report{Code: 3}) {
			t.Errorf("%d ticks: %v", ticks, got)
		}
	}
	for i, p := range wrongPlans() {
		for _, ticks := range []int{-1, 0, 1, 5000, 5001} {
			if got := impl.RunPlan(p, ticks); !sameReport(got, impl.Report{Code: 3}) {
				t.Errorf("wrong plan %d with %d ticks: %v", i, ticks, got)
			}
		}
	}
}

// wrongPlans has a plan for each kind of fault, and some more.
func wrongPlans() []impl.Plan {
	return []impl.Plan{
		{},
		{Bodies: make([]impl.Body, 31)},
		one(says(301)...),
		one(say(), impl.Step{}),
		one(say(), impl.Step{Op: impl.TSay, A: 4}),
		one(say(), impl.Step{Op: impl.TNew, B: 1}),
		one(say(), head(impl.TScope, 2), say()),
		one(nest(impl.TScope, 13)...),
		one(head(impl.TDefer, 1), impl.Step{Op: impl.TReturn}),
		plan(says(1), []impl.Step{{Op: 16}}),
	}
}

func TestLimitsOfPlans(t *testing.T) {
	bodies := make([]impl.Body, 30)
	bodies[0].Steps = says(300)
	got := impl.RunPlan(impl.Plan{Bodies: bodies}, most)
	if got.Code != 0 || got.Ticks != 300 || len(got.Recs) != 300 {
		t.Error(got.Code, got.Ticks, len(got.Recs))
	}
	got = impl.RunPlan(one(nest(impl.TScope, 12, say())...), most)
	if want := (impl.Report{Recs: recs("0 say 0"), Ticks: 13, States: []int{4}}); !sameReport(got, want) {
		t.Error(got)
	}
}

func TestTicksAtTheirEdges(t *testing.T) {
	cases := []struct {
		body  string
		ticks int
		code  int
		used  int
		said  int
		state int
	}{
		{"", 0, 0, 0, 0, 4},
		{"say r0", 0, 2, 0, 0, 2},
		{"say r0", 1, 0, 1, 1, 4},
		{"defer { say r0 }", 1, 2, 1, 0, 2},
		{"defer { say r0 }", 2, 2, 2, 0, 2},
		{"defer { say r0 }", 3, 0, 3, 1, 4},
		{"defer { }", 1, 2, 1, 0, 2},
		{"loop r0 { }", 0, 2, 0, 0, 2},
		{"set r0 1; loop r0 { }", 2, 2, 2, 0, 2},
		{"set r0 1; loop r0 { }", 3, 0, 3, 0, 4},
		{"set r1 2498; loop r1 { say r0 } say r0; say r0", 5000, 0, 5000, 2500, 4},
		{"set r1 2498; loop r1 { say r0 } say r0; say r0; say r0", 5000, 2, 5000, 2500, 2},
		{"set r1 1; loop r1 { set r1 1 }", 5000, 2, 5000, 0, 2},
	}
	for _, c := range cases {
		got := impl.RunPlan(read(c.body), c.ticks)
		if got.Code != c.code || got.Num != 0 || got.Ticks != c.used || len(got.Recs) != c.said || len(got.States) != 1 || got.States[0] != c.state {
			t.Errorf("%s with %d ticks: code %d, %d used, %d said, states %v", c.body, c.ticks, got.Code, got.Ticks, len(got.Recs), got.States)
		}
	}
}

// When the ticks are used up, nothing that was put off is done, and no try catches that.
func TestNothingBehindTheTicks(t *testing.T) {
	bodies := []string{
		"new r1 body 1; try r2 { defer { say r1 } resume r0 r1 } say r2",
		"defer { say r0 } try r2 { defer { say r2 } say r0; say r0 }",
	}
	got := impl.RunPlan(read(bodies...), 8)
	want := impl.Report{Code: 2, Recs: recs("1 turn resume, 1 say 0"), Ticks: 8, States: []int{3, 2}}
	if !sameReport(got, want) {
		t.Errorf("%v, want %v", got, want)
	}
}

func TestNumberOfNoTask(t *testing.T) {
	for _, op := range []string{"resume", "giveup", "status"} {
		for _, n := range []int64{-1, 2, 59, 60, 1 << 32, 1<<32 + 1, -1 << 32, least, least + 1, greatest} {
			text := "new r1 body 1; set r0 7; set r2 " + strconv.FormatInt(n, 10) + "; try r1 { " + op + " r0 r2 } say r1; say r0; " + op + " r0 r2"
			want := impl.Report{Code: 1, Num: -12, Recs: recs("0 throw -12, 0 catch -12, 0 say -12, 0 say 7, 0 throw -12"), Ticks: 8, States: []int{4, 0}}
			checkRun(t, read(text, ""), want)
		}
	}
}

func TestTooManyTasks(t *testing.T) {
	news := make([]int, 60)
	news[0] = 4
	gone := make([]int, 60)
	for i := range gone {
		gone[i] = 4
	}
	checkRuns(t, []runCase{
		{
			name:   "59 new ones",
			bodies: []string{"set r1 59; loop r1 { new r2 body 1 } say r2; try r0 { new r2 body 1 } say r2; new r2 body 1", ""},
			recs:   "0 say 59, 0 throw -10, 0 catch -10, 0 say 59, 0 throw -10", code: 1, num: -10, ticks: 1 + 60 + 59 + 5, states: news,
		},
		{
			name:   "59 that are done",
			bodies: []string{"set r1 59; loop r1 { new r2 body 1; giveup r0 r2 } say r2; new r2 body 1", ""},
			recs:   "0 say 59, 0 throw -10", code: 1, num: -10, ticks: 1 + 60 + 118 + 2, states: gone,
		},
		{
			name:   "made by another one",
			bodies: []string{"set r1 58; loop r1 { new r2 body 1 } resume r0 r2; say r0; say r3", "new r1 body 1; say r1; new r1 body 1"},
			recs:   "58 turn resume, 58 say 59, 58 throw -10, 0 turn error, 0 say -10, 0 say 0", ticks: 1 + 59 + 58 + 1 + 3 + 2,
			states: append(append([]int{4}, make([]int, 57)...), 4, 0),
		},
	})
}
