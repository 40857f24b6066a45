package tests

import (
	"strconv"
	"testing"

	"loop.example/thread/impl"
)

func TestResumes(t *testing.T) {
	checkRuns(t, []runCase{
		{
			name:   "the value comes into register 0, the others are 0",
			bodies: []string{"new r1 body 1; set r2 8; set r3 5; resume r2 r1; say r0; say r1; say r2; say r3", "say r0; say r1; say r2; say r3"},
			recs:   "1 turn resume, 1 say 8, 1 say 0, 1 say 0, 1 say 0, 0 turn done, 0 say 0, 0 say 1, 0 say 0, 0 say 2", ticks: 12, states: []int{4, 4},
		},
		{
			name:   "to and fro",
			bodies: []string{"new r1 body 1; set r0 3; resume r0 r1; say r0; say r3; set r0 4; resume r0 r1; say r0; say r3", "add r2 r0 5; set r3 9; yield r2; say r2; say r3; return r2"},
			recs:   "1 turn resume, 0 turn yield, 0 say 8, 0 say 1, 1 turn resume, 1 say 4, 1 say 9, 0 turn done, 0 say 4, 0 say 2", ticks: 15, states: []int{4, 4},
		},
		{
			name:   "an empty body",
			bodies: []string{"new r1 body 1; set r0 3; resume r0 r1; say r0; say r3", ""},
			recs:   "1 turn resume, 0 turn done, 0 say 0, 0 say 2", ticks: 5, states: []int{4, 4},
		},
		{
			name:   "an error",
			bodies: []string{"new r1 body 1; set r3 7; resume r0 r1; say r0; say r3", "set r0 -5; throw r0; say r0"},
			recs:   "1 turn resume, 1 throw -5, 0 turn error, 0 say -5, 0 say 0", ticks: 7, states: []int{4, 4},
		},
		{
			name:   "an error of another task is no error of the one that resumes",
			bodies: []string{"new r1 body 1; try r2 { resume r0 r1; say r0 } say r2", "set r0 6; throw r0"},
			recs:   "1 turn resume, 1 throw 6, 0 turn error, 0 say 6, 0 say 0", ticks: 7, states: []int{4, 4},
		},
		{
			name:   "registers A and B are the same",
			bodies: []string{"new r1 body 1; resume r1 r1; say r1; say r3", "say r0; add r0 r0 10; yield r0"},
			recs:   "1 turn resume, 1 say 1, 0 turn yield, 0 say 11, 0 say 1", ticks: 7, states: []int{4, 1},
		},
		{
			name:   "register A is the flag",
			bodies: []string{"new r1 body 1; set r3 8; resume r3 r1; say r3; resume r3 r1; say r3; new r1 body 2; resume r3 r1; say r3", "set r1 50; say r0; yield r1; say r1; return r1", "set r0 60; throw r0"},
			recs: "1 turn resume, 1 say 8, 0 turn yield, 0 say 1, 1 turn resume, 1 say 1, 0 turn done, 0 say 2, " +
				"2 turn resume, 2 throw 60, 0 turn error, 0 say 0", ticks: 16, states: []int{4, 4, 4},
		},
		{
			name:   "register B is the flag",
			bodies: []string{"new r3 body 1; resume r0 r3; say r3; resume r0 r3; say r3", "yield r0"},
			recs:   "1 turn resume, 0 turn yield, 0 say 1, 1 turn resume, 0 turn done, 0 say 2", ticks: 6, states: []int{4, 4},
		},
		{
			name:   "a yield of the flag, which gets the value and nothing else",
			bodies: []string{"new r1 body 1; resume r0 r1; say r0; set r0 70; resume r0 r1", "set r3 9; yield r3; say r3"},
			recs:   "1 turn resume, 0 turn yield, 0 say 9, 1 turn resume, 1 say 70, 0 turn done", ticks: 8, states: []int{4, 4},
		},
		{
			name:   "a task in a task",
			bodies: []string{"new r1 body 1; resume r0 r1; say r0; resume r0 r1; say r0", "new r1 body 2; resume r0 r1; say r0; yield r0; resume r0 r1; return r0", "set r0 3; yield r0; set r0 4; return r0"},
			recs: "1 turn resume, 2 turn resume, 1 turn yield, 1 say 3, 0 turn yield, 0 say 3, " +
				"1 turn resume, 2 turn resume, 1 turn done, 0 turn done, 0 say 4", ticks: 15, states: []int{4, 4, 4},
		},
		{
			name:   "a task is resumed by another than the one that made it",
			bodies: []string{"new r1 body 1; new r2 body 2; resume r0 r1; set r0 1; resume r0 r2; resume r0 r1; say r0", "set r0 5; yield r0; yield r0; set r0 6; return r0", "add r1 r0 0; resume r0 r1; say r0; say r3"},
			recs:   "1 turn resume, 0 turn yield, 2 turn resume, 1 turn resume, 2 turn yield, 2 say 1, 2 say 1, 0 turn done, 1 turn resume, 0 turn done, 0 say 6",
			ticks:  16, states: []int{4, 4, 4},
		},
		{
			name:   "the main task ends while others wait",
			bodies: []string{"new r1 body 1; new r2 body 1; resume r0 r1; set r0 9; return r0", "defer { say r0 } yield r0"},
			recs:   "1 turn resume, 0 turn yield", num: 9, ticks: 7, states: []int{4, 1, 0},
		},
		{
			name:   "an error leaves the main task while others wait",
			bodies: []string{"new r1 body 1; resume r0 r1; set r0 9; throw r0", "defer { say r0 } try r1 { yield r0 } say r1"},
			recs:   "1 turn resume, 0 turn yield, 0 throw 9", code: 1, num: 9, ticks: 7, states: []int{4, 1},
		},
	})
}

func TestStatus(t *testing.T) {
	checkRuns(t, []runCase{
		{
			name:   "new, waiting, done, and itself",
			bodies: []string{"new r1 body 1; status r0 r1; say r0; resume r0 r1; status r0 r1; say r0; resume r0 r1; status r0 r1; say r0; set r2 0; status r2 r2; say r2", "yield r0"},
			recs:   "0 say 0, 1 turn resume, 0 turn yield, 0 say 1, 1 turn resume, 0 turn done, 0 say 4, 0 say 2", ticks: 13, states: []int{4, 4},
		},
		{
			name:   "busy",
			bodies: []string{"new r1 body 1; resume r0 r1", "new r1 body 2; resume r0 r1", "status r0 r1; say r0; set r1 1; status r0 r1; say r0; set r1 2; status r1 r1; say r1"},
			recs:   "1 turn resume, 2 turn resume, 2 say 3, 2 say 3, 2 say 2, 1 turn done, 0 turn done", ticks: 12, states: []int{4, 4, 4},
		},
	})
}

func TestGivingUp(t *testing.T) {
	checkRuns(t, []runCase{
		{
			name:   "a new one",
			bodies: []string{"new r1 body 1; set r0 5; giveup r0 r1; say r0; say r3; status r0 r1; say r0", "defer { say r0 } say r0"},
			recs:   "0 say 0, 0 say 1, 0 say 4", ticks: 7, states: []int{4, 4},
		},
		{name: "a new one into the flag", bodies: []string{"new r1 body 1; set r3 9; giveup r3 r1; say r3", ""}, recs: "0 say 1", ticks: 4, states: []int{4, 4}},
		{name: "a new one whose number stands in register A", bodies: []string{"new r1 body 1; giveup r1 r1; say r1; say r3", ""}, recs: "0 say 0, 0 say 1", ticks: 4, states: []int{4, 4}},
		{
			name:   "a waiting one",
			bodies: []string{"new r1 body 1; resume r0 r1; set r0 5; giveup r0 r1; say r0; say r3", "set r0 8; yield r0; say r0"},
			recs:   "1 turn resume, 0 turn yield, 1 turn giveup, 0 turn gone, 0 say 0, 0 say 1", ticks: 8, states: []int{4, 4},
		},
		{
			name:   "a waiting one into the flag",
			bodies: []string{"new r1 body 1; resume r0 r1; giveup r3 r1; say r3", "yield r0"},
			recs:   "1 turn resume, 0 turn yield, 1 turn giveup, 0 turn gone, 0 say 1", ticks: 5, states: []int{4, 4},
		},
		{
			name:   "no try catches it",
			bodies: []string{"new r1 body 1; resume r0 r1; giveup r0 r1; say r0; say r3", "try r1 { scope { try r2 { loop r0 { } yield r0; say r0 } say r0 } say r0 } say r0"},
			recs:   "1 turn resume, 0 turn yield, 1 turn giveup, 0 turn gone, 0 say 0, 0 say 1", ticks: 10, states: []int{4, 4},
		},
		{
			name:   "a loop does not go on",
			bodies: []string{"new r1 body 1; set r0 3; resume r0 r1; giveup r0 r1", "loop r0 { yield r1 } say r0"},
			recs:   "1 turn resume, 0 turn yield, 1 turn giveup, 0 turn gone", ticks: 6, states: []int{4, 4},
		},
		{
			name:   "by a task that is given up itself",
			bodies: []string{"new r1 body 1; resume r0 r1; giveup r0 r1; say r0; say r3", "new r1 body 2; resume r0 r1; defer { giveup r0 r1; say r0; say r3 } yield r0", "defer { set r0 4; throw r0 } yield r0"},
			recs: "1 turn resume, 2 turn resume, 1 turn yield, 0 turn yield, 1 turn giveup, 2 turn giveup, 2 throw 4, 1 turn gone, 1 say 4, 1 say 0, " +
				"0 turn gone, 0 say 0, 0 say 1", ticks: 18, states: []int{4, 4, 4},
		},
	})
}

func TestTurnsThatCannotBe(t *testing.T) {
	checkRuns(t, []runCase{
		{name: "a yield in the main task", bodies: []string{"set r0 5; try r1 { yield r0; say r0 } say r0; say r1; yield r1"}, recs: "0 throw -10, 0 catch -10, 0 say 5, 0 say -10, 0 throw -10", code: 1, num: -10, ticks: 6, states: []int{4}},
		{
			name:   "a yield in one that is being given up",
			bodies: []string{"new r1 body 1; resume r0 r1; giveup r0 r1; say r0; say r3", "defer { yield r0; say r0 } yield r0"},
			recs:   "1 turn resume, 0 turn yield, 1 turn giveup, 1 throw -10, 0 turn gone, 0 say -10, 0 say 0", ticks: 9, states: []int{4, 4},
		},
		{
			name:   "a yield in one that is being given up, in a try of its defer",
			bodies: []string{"new r1 body 1; resume r0 r1; giveup r0 r1; say r0; say r3", "defer { try r1 { yield r0 } say r1 } yield r0"},
			recs:   "1 turn resume, 0 turn yield, 1 turn giveup, 1 throw -10, 1 catch -10, 1 say -10, 0 turn gone, 0 say 0, 0 say 1", ticks: 11, states: []int{4, 4},
		},
		{
			name:   "one that ended",
			bodies: []string{"new r1 body 1; resume r0 r1; set r3 7; try r2 { resume r0 r1 } say r3; try r2 { giveup r0 r1 } say r3; say r0; resume r0 r1", "set r0 3; return r0"},
			recs:   "1 turn resume, 0 turn done, 0 throw -10, 0 catch -10, 0 say 7, 0 throw -10, 0 catch -10, 0 say 7, 0 say 3, 0 throw -10", code: 1, num: -10, ticks: 13, states: []int{4, 4},
		},
		{
			name:   "one that failed",
			bodies: []string{"new r1 body 1; resume r0 r1; try r2 { giveup r0 r1 } resume r0 r1", "throw r0"},
			recs:   "1 turn resume, 1 throw 0, 0 turn error, 0 throw -10, 0 catch -10, 0 throw -10", code: 1, num: -10, ticks: 6, states: []int{4, 4},
		},
		{
			name:   "one that was given up when it was new",
			bodies: []string{"new r1 body 1; giveup r0 r1; try r2 { giveup r0 r1 } resume r0 r1", "say r0"},
			recs:   "0 throw -10, 0 catch -10, 0 throw -10", code: 1, num: -10, ticks: 5, states: []int{4, 4},
		},
		{
			name:   "one that was given up when it waited",
			bodies: []string{"new r1 body 1; resume r0 r1; giveup r0 r1; try r2 { giveup r0 r1 } resume r0 r1", "yield r0"},
			recs:   "1 turn resume, 0 turn yield, 1 turn giveup, 0 turn gone, 0 throw -10, 0 catch -10, 0 throw -10", code: 1, num: -10, ticks: 7, states: []int{4, 4},
		},
	})
}

// A number goes to and fro n times, and each of the two tasks adds 1.
func TestHandedToAndFro(t *testing.T) {
	for n := range 151 {
		p := read("new r1 body 1; set r2 "+strconv.Itoa(n)+"; loop r2 { add r0 r0 1; resume r0 r1 } say r0",
			"set r2 1000; loop r2 { add r0 r0 1; yield r0 }")
		got := impl.RunPlan(p, most)
		if got.Code != 0 || len(got.Recs) != 2*n+1 {
			t.Fatalf("%d times: code %d, %d records", n, got.Code, len(got.Recs))
		}
		for i, rec := range got.Recs[:2*n] {
			want := impl.Rec{Kind: impl.RTurn, Task: 1 - i%2, How: impl.HResume + i%2}
			if rec != want {
				t.Fatalf("%d times: record %d is %v", n, i, rec)
			}
		}
		if last := got.Recs[2*n]; last != (impl.Rec{Kind: impl.RSay, Num: int64(2 * n)}) {
			t.Errorf("%d times: %v at the end", n, last)
		}
	}
}
