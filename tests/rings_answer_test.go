package tests

import (
	"slices"
	"strings"
	"testing"

	"loop.example/thread/impl"
)

func TestAnswers(t *testing.T) {
	each := []string{
		"new r1 body 1; resume r0 r1; giveup r0 r1; new r1 body 2; resume r0 r1; new r1 body 3; resume r0 r1; say r0; new r1 body 4; resume r0 r1; say r3; resume r0 r2; say r0",
		"yield r0", "set r0 5; try r2 { throw r0 } throw r0", "resume r0 r1", "",
	}
	cases := []struct {
		name   string
		bodies []string
		ticks  int
		want   string
	}{
		{"no step", []string{""}, most, "returned 0\n"},
		{"no step and no tick", []string{""}, 0, "returned 0\n"},
		{"no tick", []string{"say r0"}, 0, "no more ticks 0\n"},
		{"no record", []string{"set r0 7; return r0"}, most, "returned 7\n"},
		{"a record", []string{"say r0"}, 1, "0 say 0\nreturned 0\n"},
		{"an error", []string{"set r0 7; throw r0"}, most, "0 throw 7\nerror 7\n"},
		{"an error that is caught", []string{"set r0 7; try r1 { throw r0 } say r1; return r1"}, most, "0 throw 7\n0 catch 7\n0 say 7\nreturned 7\n"},
		{"a ring", []string{"resume r0 r0"}, most, "0 ring 0\n0 throw -10\nerror -10\n"},
		{"no task", []string{"set r1 1; status r0 r1"}, most, "0 throw -12\nerror -12\n"},
		{"the greatest", []string{"set r0 9223372036854775807; say r0; try r1 { throw r0 } return r0"}, most, "0 say 9223372036854775807\n0 throw 9223372036854775807\n0 catch 9223372036854775807\nreturned 9223372036854775807\n"},
		{"the least", []string{"set r0 -9223372036854775808; say r0; try r1 { throw r0 } return r0"}, most, "0 say -9223372036854775808\n0 throw -9223372036854775808\n0 catch -9223372036854775808\nreturned -9223372036854775808\n"},
		{"an error of the greatest", []string{"set r0 9223372036854775807; throw r0"}, most, "0 throw 9223372036854775807\nerror 9223372036854775807\n"},
		{"an error of the least", []string{"set r0 -9223372036854775808; throw r0"}, most, "0 throw -9223372036854775808\nerror -9223372036854775808\n"},
		{"past the greatest", []string{"set r0 9223372036854775807; add r0 r0 1; say r0; return r0"}, most, "0 say -9223372036854775808\nreturned -9223372036854775808\n"},
		{"returned -1", []string{"set r0 -1; return r0"}, most, "returned -1\n"},
		{"the ticks are used up behind a set", []string{"set r0 7; say r0; return r0"}, 2, "0 say 7\nno more ticks 0\n"},
		{"the ticks are used up on the way of a return", []string{"set r0 7; defer { say r0 } return r0"}, 3, "no more ticks 0\n"},
		{"the ticks are used up on the way of an error", []string{"set r0 7; defer { say r0 } throw r0"}, 3, "0 throw 7\nno more ticks 0\n"},
		{"each record and each word", each, most, "1 turn resume\n0 turn yield\n1 turn giveup\n0 turn gone\n2 turn resume\n2 throw 5\n2 catch 5\n2 throw 5\n0 turn error\n" +
			"3 turn resume\n3 ring 0\n3 ring 3\n3 throw -10\n0 turn error\n0 say -10\n4 turn resume\n0 turn done\n0 say 2\n0 ring 0\n0 throw -10\nerror -10\n"},
		{"an end", []string{"new r1 body 1; resume r0 r1; say r0; say r3", "set r0 4; return r0"}, most, "1 turn resume\n0 turn done\n0 say 4\n0 say 2\nreturned 0\n"},
		{"a number of two digits", []string{"set r1 59; loop r1 { new r2 body 1 } resume r0 r2", "say r0; resume r0 r1; say r0"}, most, "59 turn resume\n59 say 0\n59 ring 0\n59 ring 59\n59 throw -10\n0 turn error\nreturned 0\n"},
	}
	for _, c := range cases {
		t.Run(c.name, func(t *testing.T) {
			p := read(c.bodies...)
			if got := impl.Answer(p, c.ticks); got != c.want {
				t.Errorf("%q, want %q", got, c.want)
			}
			checkToldAtAll(t, p)
		})
	}
}

// Each line is that of RunPlan's record at its place, read back by its words; the last is that of Code and Num.
func TestAnswersTellWhatRunPlanAnswers(t *testing.T) {
	m := newMaker()
	for range 500 {
		p := m.plan()
		ticks := m.IntN(300)
		r := impl.RunPlan(p, ticks)
		lines := strings.SplitAfter(impl.Answer(p, ticks), "\n")
		if len(lines) != len(r.Recs)+2 || lines[len(r.Recs)+1] != "" {
			t.Fatalf("%s\n%q for %v", impl.WritePlan(p), lines, r)
		}
		for k, rec := range r.Recs {
			if lines[k] != lineOf(rec)+"\n" || recs(lines[k])[0] != rec {
				t.Fatalf("%s\nline %d is %q, want that of %v", impl.WritePlan(p), k, lines[k], rec)
			}
		}
		last := []string{"returned ", "error ", "no more ticks "}[r.Code]
		num, ok := strings.CutPrefix(lines[len(r.Recs)], last)
		if !ok || number(strings.TrimSuffix(num, "\n")) != r.Num {
			t.Fatalf("%s\nthe last line of code %d, num %d is %q", impl.WritePlan(p), r.Code, r.Num, lines[len(r.Recs)])
		}
	}
}

func TestNothingIsToldOfWhatIsRefused(t *testing.T) {
	p := read("new r1 body 1; resume r0 r1", "resume r0 r1")
	for _, ticks := range []int{-1, 5001, 1 << 32, 1<<32 + 1, -1 << 32, least, greatest} {
		checkNothingTold(t, p, ticks)
	}
	for _, p := range wrongPlans() {
		for _, ticks := range []int{-1, 0, 1, 5000, 5001} {
			checkNothingTold(t, p, ticks)
		}
	}
}

func checkNothingTold(t *testing.T, p impl.Plan, ticks int) {
	t.Helper()
	if got := impl.Rings(p, ticks); len(got) != 0 {
		t.Errorf("%d ticks: the rings %v", ticks, got)
	}
	if got := impl.Turns(p, ticks); len(got) != 0 {
		t.Errorf("%d ticks: the turns %v", ticks, got)
	}
	if got := impl.Answer(p, ticks); got != "no plan\n" {
		t.Errorf("%d ticks: %q", ticks, got)
	}
}

// The loop uses 4998 ticks, so that the run that asks uses the most there can be, and the one that says once more lacks one.
func TestToldAtTheEdgesOfTicks(t *testing.T) {
	const loop = "set r1 2498; loop r1 { say r1 } say r1; "
	cases := []struct {
		body  string
		ticks int
		last  string
		lines int
		rings string
	}{
		{loop + "resume r0 r0", 5000, "\n0 ring 0\n0 throw -10\nerror -10\n", 2502, "2499: 0"},
		{loop + "say r1; resume r0 r0", 5000, "\n0 say 0\nno more ticks 0\n", 2501, ""},
		{loop + "resume r0 r0", 4999, "\n0 say 0\nno more ticks 0\n", 2500, ""},
		{loop + "resume r0 r0", 0, "no more ticks 0\n", 1, ""},
	}
	for _, c := range cases {
		p := read(c.body)
		got := impl.Answer(p, c.ticks)
		if !strings.HasSuffix(got, c.last) || strings.Count(got, "\n") != c.lines {
			t.Errorf("%s with %d ticks: %d lines, the last %q", c.body, c.ticks, strings.Count(got, "\n"), got[max(0, len(got)-60):])
		}
		if got := impl.Rings(p, c.ticks); !sameRings(got, rings(c.rings)) {
			t.Errorf("%s with %d ticks: the rings %v", c.body, c.ticks, got)
		}
		if got, want := impl.Turns(p, c.ticks), []impl.Turn{{To: c.lines - 1}}; !slices.Equal(got, want) {
			t.Errorf("%s with %d ticks: the turns %v, want %v", c.body, c.ticks, got, want)
		}
	}
}
