package tests

import (
	"slices"
	"strconv"
	"testing"

	"loop.example/thread/impl"
)

// turnCase is a plan, its ticks, the records of its run, and the stays in it.
type turnCase struct {
	name   string
	bodies []string
	ticks  int
	recs   string
	turns  string
}

func checkTurnCases(t *testing.T, cases []turnCase) {
	for _, c := range cases {
		t.Run(c.name, func(t *testing.T) {
			p := read(c.bodies...)
			if got := impl.RunPlan(p, c.ticks).Recs; !slices.Equal(got, recs(c.recs)) {
				t.Errorf("the records %v, want %s", got, c.recs)
			}
			if got := impl.Turns(p, c.ticks); !slices.Equal(got, turns(c.turns)) {
				t.Errorf("the stays %v, want %s", got, c.turns)
			}
			checkToldAtAll(t, p)
		})
	}
}

func TestTheFirstStay(t *testing.T) {
	checkTurnCases(t, []turnCase{
		{name: "no step", bodies: []string{""}, ticks: most, turns: "0 - 0 0"},
		{name: "no step and no tick", bodies: []string{""}, turns: "0 - 0 0"},
		{name: "no tick", bodies: []string{"say r0"}, turns: "0 - 0 0"},
		{name: "no record", bodies: []string{"set r0 1; new r1 body 1; giveup r0 r1", ""}, ticks: most, turns: "0 - 0 0"},
		{name: "a record", bodies: []string{"say r0"}, ticks: 1, recs: "0 say 0", turns: "0 - 0 1"},
		{name: "records of each kind but a turn", bodies: []string{"say r0; try r1 { throw r0 } resume r0 r0"}, ticks: most, recs: "0 say 0, 0 throw 0, 0 catch 0, 0 ring 0, 0 throw -10", turns: "0 - 0 5"},
		{name: "a turn as the first record", bodies: []string{"new r1 body 1; resume r0 r1; say r0", "say r0"}, ticks: most, recs: "1 turn resume, 1 say 0, 0 turn done, 0 say 0", turns: "0 - 0 0, 1 resume 0 2, 0 done 2 4"},
		{name: "a record and a turn", bodies: []string{"say r0; new r1 body 1; resume r0 r1; say r0", "say r0"}, ticks: most, recs: "0 say 0, 1 turn resume, 1 say 0, 0 turn done, 0 say 0", turns: "0 - 0 1, 1 resume 1 3, 0 done 3 5"},
	})
}

func TestTheLastStay(t *testing.T) {
	bodies := []string{"say r0; new r1 body 1; resume r0 r1", "say r0; say r0"}
	checkTurnCases(t, []turnCase{
		{name: "the first one too", bodies: bodies, ticks: 2, recs: "0 say 0", turns: "0 - 0 1"},
		{name: "a turn alone, of another task", bodies: bodies, ticks: 3, recs: "0 say 0, 1 turn resume", turns: "0 - 0 1, 1 resume 1 2"},
		{name: "a turn and a record, of another task", bodies: bodies, ticks: 4, recs: "0 say 0, 1 turn resume, 1 say 0", turns: "0 - 0 1, 1 resume 1 3"},
		{name: "a turn alone, of the main task", bodies: bodies, ticks: 5, recs: "0 say 0, 1 turn resume, 1 say 0, 1 say 0, 0 turn done", turns: "0 - 0 1, 1 resume 1 4, 0 done 4 5"},
	})
}

func TestEachHow(t *testing.T) {
	checkTurnCases(t, []turnCase{
		{
			name:   "all of them",
			bodies: []string{"new r1 body 1; resume r0 r1; giveup r0 r1; new r1 body 2; resume r0 r1; new r1 body 3; resume r0 r1; say r0", "yield r0", "throw r0", ""},
			ticks:  most,
			recs:   "1 turn resume, 0 turn yield, 1 turn giveup, 0 turn gone, 2 turn resume, 2 throw 0, 0 turn error, 3 turn resume, 0 turn done, 0 say 0",
			turns:  "0 - 0 0, 1 resume 0 1, 0 yield 1 2, 1 giveup 2 3, 0 gone 3 4, 2 resume 4 6, 0 error 6 7, 3 resume 7 8, 0 done 8 10",
		},
		{
			name:   "all of them between two that are not the main task",
			bodies: []string{"new r1 body 1; resume r0 r1", "new r1 body 2; resume r0 r1; giveup r0 r1; new r1 body 3; resume r0 r1; resume r0 r1; say r0", "defer { say r0 } yield r0", "yield r0; throw r0"},
			ticks:  most,
			recs: "1 turn resume, 2 turn resume, 1 turn yield, 2 turn giveup, 2 say 0, 1 turn gone, 3 turn resume, 1 turn yield, 3 turn resume, 3 throw 0, " +
				"1 turn error, 1 say 0, 0 turn done",
			turns: "0 - 0 0, 1 resume 0 1, 2 resume 1 2, 1 yield 2 3, 2 giveup 3 5, 1 gone 5 6, 3 resume 6 7, 1 yield 7 8, 3 resume 8 10, 1 error 10 12, 0 done 12 13",
		},
		{
			name:   "a giving up of a new one is no turn",
			bodies: []string{"say r0; new r1 body 1; giveup r0 r1; say r0", "say r0"},
			ticks:  most, recs: "0 say 0, 0 say 0", turns: "0 - 0 2",
		},
		{
			name:   "errors that are no turn",
			bodies: []string{"new r1 body 1; resume r0 r1; say r3", "try r2 { resume r0 r1 } set r1 7; try r2 { giveup r0 r1 } yield r2"},
			ticks:  most,
			recs:   "1 turn resume, 1 ring 0, 1 ring 1, 1 throw -10, 1 catch -10, 1 throw -12, 1 catch -12, 0 turn yield, 0 say 1",
			turns:  "0 - 0 0, 1 resume 0 7, 0 yield 7 9",
		},
		{
			name:   "one resumed by two, one after the other",
			bodies: []string{"new r1 body 1; resume r0 r1; new r2 body 2; resume r0 r2; say r3", "yield r0; say r0", "set r1 1; resume r0 r1; say r3"},
			ticks:  most,
			recs:   "1 turn resume, 0 turn yield, 2 turn resume, 1 turn resume, 1 say 0, 2 turn done, 2 say 2, 0 turn done, 0 say 2",
			turns:  "0 - 0 0, 1 resume 0 1, 0 yield 1 2, 2 resume 2 3, 1 resume 3 5, 2 done 5 7, 0 done 7 9",
		},
	})
}

// A number is handed to and fro: each of the n times has two turns, of which each begins a stay with no record but its own.
func TestStaysToAndFro(t *testing.T) {
	for _, n := range []int{0, 1, 2, 75, 150} {
		p := read("new r1 body 1; set r2 "+strconv.Itoa(n)+"; loop r2 { add r0 r0 1; resume r0 r1 } return r0", "set r2 1000; loop r2 { add r0 r0 1; yield r0 }")
		got := impl.Turns(p, most)
		want := []impl.Turn{{}}
		for k := range n {
			want = append(want, impl.Turn{Task: 1, How: 1, From: 2 * k, To: 2*k + 1}, impl.Turn{How: 2, From: 2*k + 1, To: 2*k + 2})
		}
		if !slices.Equal(got, want) {
			t.Errorf("%d times: %v, want %v", n, got, want)
		}
	}
}
