package tests

import (
	"slices"
	"strconv"
	"testing"

	"loop.example/thread/impl"
)

// nested is n blocks in one another (the outermost is the body), each with a defer that says its depth, and the last step in the innermost.
func nested(headText string, n int, last string) string {
	text := last
	for k := n; k >= 1; k-- {
		text = "defer { set r2 " + strconv.Itoa(k) + "; say r2 } " + text
		if k > 1 {
			text = "set r1 1; " + headText + " { " + text + " }"
		}
	}
	return text
}

func saysDown(task, n int) []impl.Rec {
	var out []impl.Rec
	for k := n; k >= 1; k-- {
		out = append(out, impl.Rec{Kind: 1, Task: task, Num: int64(k)})
	}
	return out
}

// ending is a way in which a task ends: its last step, what it shows ahead of its defers, and the report's code and number when it is the main task.
type ending struct {
	name string
	last string
	told string
	how  int
	code int
	num  int64
	flag int64
}

func endings() []ending {
	return []ending{
		{name: "a plain end", how: 3, flag: 2},
		{name: "a return", last: "set r0 7; return r0; say r0", how: 3, num: 7, flag: 2},
		{name: "an error", last: "set r0 8; throw r0; say r0", told: "throw 8", how: 4, code: 1, num: 8},
	}
}

func TestDefersInOneAnother(t *testing.T) {
	for n := 1; n <= 10; n++ {
		for _, headText := range []string{"scope", "if r1", "loop r1", "try r3"} {
			for _, e := range endings() {
				if e.code == 1 && headText == "try r3" && n > 1 {
					continue // the error would end in a try
				}
				body := nested(headText, n, e.last)
				checkMainDefers(t, e, n, body)
				checkTaskDefers(t, e, n, body)
			}
			checkGivenUpDefers(t, n, nested(headText, n, "yield r0; say r0"))
		}
	}
}

func checkMainDefers(t *testing.T, e ending, n int, body string) {
	t.Helper()
	var want []impl.Rec
	if e.told != "" {
		want = recs("0 " + e.told)
	}
	want = append(want, saysDown(0, n)...)
	got := impl.RunPlan(read(body), most)
	if got.Code != e.code || got.Num != e.num || !slices.Equal(got.Recs, want) {
		t.Errorf("main task, %s, %s: %v", e.name, body, got)
	}
}

func checkTaskDefers(t *testing.T, e ending, n int, body string) {
	t.Helper()
	want := recs("1 turn resume")
	if e.told != "" {
		want = append(want, recs("1 "+e.told)...)
	}
	want = append(want, saysDown(1, n)...)
	want = append(want, impl.Rec{Kind: 2, How: e.how}, impl.Rec{Kind: 1, Num: e.num}, impl.Rec{Kind: 1, Num: e.flag})
	got := impl.RunPlan(read("new r1 body 1; resume r0 r1; say r0; say r3", body), most)
	if got.Code != 0 || !slices.Equal(got.Recs, want) || !slices.Equal(got.States, []int{4, 4}) {
		t.Errorf("task, %s, %s: %v", e.name, body, got)
	}
}

func checkGivenUpDefers(t *testing.T, n int, body string) {
	t.Helper()
	want := recs("1 turn resume, 0 turn yield, 1 turn giveup")
	want = append(want, saysDown(1, n)...)
	want = append(want, recs("0 turn gone, 0 say 0, 0 say 1")...)
	got := impl.RunPlan(read("new r1 body 1; resume r0 r1; giveup r0 r1; say r0; say r3", body), most)
	if got.Code != 0 || !slices.Equal(got.Recs, want) || !slices.Equal(got.States, []int{4, 4}) {
		t.Errorf("given up, %s: %v", body, got)
	}
}

// Of n defers of a task that is given up, each of which throws its depth, the last one done is told.
func TestDroppedErrors(t *testing.T) {
	for n := 1; n <= 10; n++ {
		body := "yield r0"
		want := recs("1 turn resume, 0 turn yield, 1 turn giveup")
		for k := n; k >= 1; k-- {
			body = "try r1 { defer { set r2 " + strconv.Itoa(k) + "; throw r2 } " + body + " }"
			want = append(want, impl.Rec{Kind: 3, Task: 1, Num: int64(k)})
		}
		want = append(want, recs("0 turn gone, 0 say 1, 0 say 0")...)
		got := impl.RunPlan(read("new r1 body 1; resume r0 r1; giveup r0 r1; say r0; say r3", body), most)
		if got.Code != 0 || !slices.Equal(got.Recs, want) {
			t.Errorf("%d errors: %v, want %v", n, got.Recs, want)
		}
	}
}

func TestDefers(t *testing.T) {
	checkRuns(t, []runCase{
		{name: "the last one first", bodies: []string{"defer { set r0 1; say r0 } defer { set r0 2; say r0 } defer { set r0 3; say r0 }"}, recs: "0 say 3, 0 say 2, 0 say 1", ticks: 12, states: []int{4}},
		{name: "what is returned is read at the return", bodies: []string{"defer { set r1 9 } set r1 7; return r1"}, num: 7, ticks: 5, states: []int{4}},
		{name: "what is thrown is read at the throw", bodies: []string{"try r2 { defer { set r1 9 } set r1 7; throw r1 } say r2"}, recs: "0 throw 7, 0 catch 7, 0 say 7", ticks: 7, states: []int{4}},
		{name: "the register of a try is set behind the defers", bodies: []string{"try r1 { defer { say r1; set r1 2 } set r0 7; throw r0 } say r1"}, recs: "0 throw 7, 0 say 0, 0 catch 7, 0 say 7", ticks: 8, states: []int{4}},
		{
			name:   "a defer in a defer",
			bodies: []string{"defer { defer { set r0 1; say r0 } set r0 2; say r0 } set r0 3; say r0"},
			recs:   "0 say 3, 0 say 2, 0 say 1", ticks: 10, states: []int{4},
		},
		{
			name:   "a defer of a block inside is done at its end, not at that of the body",
			bodies: []string{"defer { set r0 1; say r0 } scope { defer { set r0 2; say r0 } } set r0 3; say r0"},
			recs:   "0 say 2, 0 say 3, 0 say 1", ticks: 11, states: []int{4},
		},
		{
			name:   "blocks in a defer",
			bodies: []string{"defer { set r0 2; loop r0 { say r0 } if r1 { say r1 } scope { say r1 } } set r1 5"},
			recs:   "0 say 1, 0 say 0, 0 say 5, 0 say 5", ticks: 13, states: []int{4},
		},
		{
			name:   "a yield in a defer, while the task returns",
			bodies: []string{"new r1 body 1; resume r0 r1; say r0; say r3; set r0 30; resume r0 r1; say r0; say r3", "defer { set r1 20; yield r1; say r1 } set r2 9; return r2"},
			recs:   "1 turn resume, 0 turn yield, 0 say 20, 0 say 1, 1 turn resume, 1 say 30, 0 turn done, 0 say 9, 0 say 2", ticks: 15, states: []int{4, 4},
		},
		{
			name:   "a yield in a defer, while an error leaves the task",
			bodies: []string{"new r1 body 1; resume r0 r1; resume r0 r1; say r0; say r3", "defer { yield r1 } set r2 9; throw r2"},
			recs:   "1 turn resume, 1 throw 9, 0 turn yield, 1 turn resume, 0 turn error, 0 say 9, 0 say 0", ticks: 10, states: []int{4, 4},
		},
	})
}

func TestErrorsOutOfDefers(t *testing.T) {
	checkRuns(t, []runCase{
		{name: "at a plain end of the body", bodies: []string{"defer { set r0 2; throw r0; say r0 } say r0"}, recs: "0 say 0, 0 throw 2", code: 1, num: 2, ticks: 5, states: []int{4}},
		{name: "at a return of the body", bodies: []string{"defer { set r0 2; throw r0 } set r0 1; return r0"}, recs: "0 throw 2", code: 1, num: 2, ticks: 6, states: []int{4}},
		{name: "at an error of the body", bodies: []string{"defer { set r0 2; throw r0 } set r0 1; throw r0"}, recs: "0 throw 1, 0 throw 2", code: 1, num: 2, ticks: 6, states: []int{4}},
		{name: "at a plain end, caught", bodies: []string{"try r1 { defer { set r0 2; throw r0 } say r0 } say r1"}, recs: "0 say 0, 0 throw 2, 0 catch 2, 0 say 2", ticks: 7, states: []int{4}},
		{name: "at a return, caught: the task goes on, and ends with 0", bodies: []string{"set r0 5; try r1 { defer { set r0 2; throw r0 } return r0 } say r1"}, recs: "0 throw 2, 0 catch 2, 0 say 2", ticks: 8, states: []int{4}},
		{name: "at a return, caught: the task returns again", bodies: []string{"set r0 5; try r1 { defer { set r0 2; throw r0 } return r0 } return r1"}, recs: "0 throw 2, 0 catch 2", num: 2, ticks: 8, states: []int{4}},
		{name: "at an error, caught", bodies: []string{"set r0 5; try r1 { defer { set r0 2; throw r0 } throw r0 } say r1"}, recs: "0 throw 5, 0 throw 2, 0 catch 2, 0 say 2", ticks: 8, states: []int{4}},
		{
			name:   "the other defers of the block are done, before the error is caught",
			bodies: []string{"try r1 { defer { say r1 } defer { set r0 2; throw r0 } defer { say r0 } } say r1"},
			recs:   "0 say 0, 0 throw 2, 0 say 0, 0 catch 2, 0 say 2", ticks: 12, states: []int{4},
		},
		{
			name:   "one error after the other",
			bodies: []string{"try r1 { defer { set r0 4; throw r0 } defer { set r0 3; throw r0 } defer { set r0 2; throw r0 } set r0 1; throw r0 } say r1"},
			recs:   "0 throw 1, 0 throw 2, 0 throw 3, 0 throw 4, 0 catch 4, 0 say 4", ticks: 16, states: []int{4},
		},
		{
			name:   "a block inside of the try: its error goes through what is left",
			bodies: []string{"try r1 { scope { defer { set r0 2; throw r0 } say r0 } say r0 } say r1"},
			recs:   "0 say 0, 0 throw 2, 0 catch 2, 0 say 2", ticks: 8, states: []int{4},
		},
		{
			name:   "a loop whose block's defer throws does not go on",
			bodies: []string{"set r2 3; try r1 { loop r2 { defer { throw r2 } } } say r1; say r2"},
			recs:   "0 throw 2, 0 catch 2, 0 say 2, 0 say 2", ticks: 8, states: []int{4},
		},
		{
			name:   "a try inside of the defer catches, and the return goes on",
			bodies: []string{"defer { try r1 { set r0 2; throw r0 } say r1 } set r0 5; return r0"},
			recs:   "0 throw 2, 0 catch 2, 0 say 2", num: 5, ticks: 8, states: []int{4},
		},
		{
			name:   "a try inside of the defer catches, and the error goes on",
			bodies: []string{"try r2 { defer { try r1 { set r0 2; throw r0 } say r1 } set r0 5; throw r0 } say r2"},
			recs:   "0 throw 5, 0 throw 2, 0 catch 2, 0 say 2, 0 catch 5, 0 say 5", ticks: 10, states: []int{4},
		},
		{
			name:   "an error out of a defer in a defer",
			bodies: []string{"try r1 { defer { defer { set r0 3; throw r0 } set r0 2; throw r0 } set r0 1; throw r0 } say r1"},
			recs:   "0 throw 1, 0 throw 2, 0 throw 3, 0 catch 3, 0 say 3", ticks: 12, states: []int{4},
		},
		{
			name:   "an error of a step",
			bodies: []string{"try r1 { defer { set r0 -1; status r0 r0 } return r0 } say r1"},
			recs:   "0 throw -12, 0 catch -12, 0 say -12", ticks: 7, states: []int{4},
		},
		{
			name:   "out of a task that returned",
			bodies: []string{"new r1 body 1; resume r0 r1; say r0; say r3", "defer { set r0 2; throw r0 } set r0 5; return r0"},
			recs:   "1 turn resume, 1 throw 2, 0 turn error, 0 say 2, 0 say 0", ticks: 10, states: []int{4, 4},
		},
	})
}

const giver = "new r1 body 1; resume r0 r1; giveup r0 r1; say r0; say r3"

func TestGivingUpAndDefers(t *testing.T) {
	checkRuns(t, []runCase{
		{
			name:   "an error of a defer is dropped, and the leaving goes on",
			bodies: []string{giver, "defer { say r2 } try r2 { defer { set r0 4; throw r0 } yield r0 } say r2"},
			recs:   "1 turn resume, 0 turn yield, 1 turn giveup, 1 throw 4, 1 say 0, 0 turn gone, 0 say 4, 0 say 0", ticks: 14, states: []int{4, 4},
		},
		{
			name:   "an error of 0 is dropped",
			bodies: []string{giver, "defer { throw r2 } yield r0"},
			recs:   "1 turn resume, 0 turn yield, 1 turn giveup, 1 throw 0, 0 turn gone, 0 say 0, 0 say 0", ticks: 9, states: []int{4, 4},
		},
		{
			name:   "the flag is last when an error was dropped",
			bodies: []string{"new r1 body 1; resume r0 r1; giveup r3 r1; say r3", "defer { set r0 4; throw r0 } yield r0"},
			recs:   "1 turn resume, 0 turn yield, 1 turn giveup, 1 throw 4, 0 turn gone, 0 say 0", ticks: 9, states: []int{4, 4},
		},
		{
			name:   "a defer without an error behind one with an error",
			bodies: []string{giver, "defer { say r1 } defer { set r0 4; throw r0 } defer { set r0 5; throw r0 } yield r0"},
			recs:   "1 turn resume, 0 turn yield, 1 turn giveup, 1 throw 5, 1 throw 4, 1 say 0, 0 turn gone, 0 say 4, 0 say 0", ticks: 17, states: []int{4, 4},
		},
		{
			name:   "a try inside of a defer catches",
			bodies: []string{giver, "defer { try r1 { set r0 4; throw r0 } say r1 } yield r0"},
			recs:   "1 turn resume, 0 turn yield, 1 turn giveup, 1 throw 4, 1 catch 4, 1 say 4, 0 turn gone, 0 say 0, 0 say 1", ticks: 12, states: []int{4, 4},
		},
		{
			name:   "a try inside of a defer catches what a defer in it throws",
			bodies: []string{giver, "defer { try r1 { defer { set r0 4; throw r0 } say r1 } say r1 } yield r0"},
			recs:   "1 turn resume, 0 turn yield, 1 turn giveup, 1 say 0, 1 throw 4, 1 catch 4, 1 say 4, 0 turn gone, 0 say 0, 0 say 1", ticks: 15, states: []int{4, 4},
		},
		{
			name:   "of an error in a defer's defer only the later one is dropped",
			bodies: []string{giver, "defer { defer { set r0 6; throw r0 } set r0 5; throw r0 } yield r0"},
			recs:   "1 turn resume, 0 turn yield, 1 turn giveup, 1 throw 5, 1 throw 6, 0 turn gone, 0 say 6, 0 say 0", ticks: 14, states: []int{4, 4},
		},
		{
			name:   "it waits in a defer while it leaves plainly",
			bodies: []string{giver, "defer { set r1 1; say r1 } scope { defer { set r1 2; say r1 } defer { yield r0; say r0 } } say r0"},
			recs:   "1 turn resume, 0 turn yield, 1 turn giveup, 1 say 2, 1 say 1, 0 turn gone, 0 say 0, 0 say 1", ticks: 5 + 4 + 2 + 3 + 3, states: []int{4, 4},
		},
		{
			name:   "it waits in a defer while it leaves by a return",
			bodies: []string{giver, "defer { set r1 1; say r1 } defer { yield r0; say r0 } set r2 9; return r2"},
			recs:   "1 turn resume, 0 turn yield, 1 turn giveup, 1 say 1, 0 turn gone, 0 say 0, 0 say 1", ticks: 5 + 4 + 2 + 3, states: []int{4, 4},
		},
		{
			name:   "it waits in a defer while it leaves by an error",
			bodies: []string{giver, "try r2 { defer { set r1 1; say r1 } defer { yield r0; say r0 } set r1 5; throw r1 } say r2"},
			recs:   "1 turn resume, 1 throw 5, 0 turn yield, 1 turn giveup, 1 say 1, 0 turn gone, 0 say 0, 0 say 1", ticks: 5 + 5 + 2 + 3, states: []int{4, 4},
		},
		{
			name:   "it waits in a defer with a defer in it, in a try",
			bodies: []string{giver, "try r2 { defer { try r2 { defer { set r1 1; say r1; throw r1 } yield r0 } say r2 } } say r2"},
			recs:   "1 turn resume, 0 turn yield, 1 turn giveup, 1 say 1, 1 throw 1, 0 turn gone, 0 say 1, 0 say 0", ticks: 5 + 2 + 4 + 4, states: []int{4, 4},
		},
		{
			name:   "an error behind a giving up that took the place of an error is dropped",
			bodies: []string{giver, "try r2 { defer { set r1 6; throw r1 } defer { yield r0 } set r1 5; throw r1 } say r2"},
			recs:   "1 turn resume, 1 throw 5, 0 turn yield, 1 turn giveup, 1 throw 6, 0 turn gone, 0 say 6, 0 say 0", ticks: 5 + 5 + 2 + 3, states: []int{4, 4},
		},
		{
			name:   "a defer resumes another task, which waits and ends",
			bodies: []string{giver, "new r1 body 2; defer { resume r0 r1; say r0; resume r0 r1; say r3 } yield r0", "set r0 3; yield r0"},
			recs: "1 turn resume, 0 turn yield, 1 turn giveup, 2 turn resume, 1 turn yield, 1 say 3, 2 turn resume, 1 turn done, 1 say 2, " +
				"0 turn gone, 0 say 0, 0 say 1", ticks: 5 + 3 + 5 + 2, states: []int{4, 4, 4},
		},
		{
			name:   "a defer gives another task up at a return",
			bodies: []string{"new r1 body 1; resume r0 r1; defer { giveup r2 r1; say r2; say r3 } set r0 9; return r0", "defer { set r0 4; throw r0 } defer { say r0 } yield r0"},
			recs:   "1 turn resume, 0 turn yield, 1 turn giveup, 1 say 0, 1 throw 4, 0 turn gone, 0 say 4, 0 say 0", num: 9, ticks: 5 + 3 + 4 + 5, states: []int{4, 4},
		},
		{
			name:   "a defer gives another task up at an error",
			bodies: []string{"new r1 body 1; resume r0 r1; try r0 { defer { giveup r2 r1; say r3 } throw r0 } say r0", "yield r0"},
			recs:   "1 turn resume, 0 turn yield, 0 throw 0, 1 turn giveup, 0 turn gone, 0 say 1, 0 catch 0, 0 say 0", ticks: 10, states: []int{4, 4},
		},
	})
}
