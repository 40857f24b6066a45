package tests

import (
	"strconv"
	"strings"
	"testing"

	"loop.example/thread/impl"
)

type writeCase struct {
	name string
	p    impl.Plan
	want string
}

func checkText(t *testing.T, cases []writeCase) {
	t.Helper()
	for _, c := range cases {
		before := copyOf(c.p)
		for range 2 {
			if got := impl.WritePlan(c.p); got != c.want {
				t.Errorf("%s: %q, not %q", c.name, got, c.want)
			}
		}
		if !samePlan(before, c.p) {
			t.Errorf("%s: the plan was changed", c.name)
		}
	}
}

func TestWriteOps(t *testing.T) {
	for _, c := range []struct {
		s    impl.Step
		want string
	}{
		{impl.Step{Op: impl.TSet, A: 1, N: 5}, "set r1 5"},
		{impl.Step{Op: impl.TAdd, A: 1, B: 2, N: 6}, "add r1 r2 6"},
		{impl.Step{Op: impl.TSay, A: 3}, "say r3"},
		{impl.Step{Op: impl.TNew, A: 2, B: 1}, "new r2 body 1"},
		{impl.Step{Op: impl.TResume, A: 2, B: 3}, "resume r2 r3"},
		{impl.Step{Op: impl.TYield, A: 1}, "yield r1"},
		{impl.Step{Op: impl.TGiveUp, A: 3, B: 1}, "giveup r3 r1"},
		{impl.Step{Op: impl.TStatus, A: 1, B: 3}, "status r1 r3"},
		{impl.Step{Op: impl.TThrow, A: 2}, "throw r2"},
		{impl.Step{Op: impl.TReturn, A: 1}, "return r1"},
		{impl.Step{Op: impl.TTry, A: 2}, "try r2 {\n\t}"},
		{impl.Step{Op: impl.TScope}, "scope {\n\t}"},
		{impl.Step{Op: impl.TDefer}, "defer {\n\t}"},
		{impl.Step{Op: impl.TLoop, A: 3}, "loop r3 {\n\t}"},
		{impl.Step{Op: impl.TIf, A: 1}, "if r1 {\n\t}"},
	} {
		text := "body 0\n\t" + c.want + "\nbody 1\n"
		checkText(t, []writeCase{{c.want, plan([]impl.Step{c.s}, nil), text}})
	}
}

func TestWriteHeads(t *testing.T) {
	for _, f := range forms() {
		if !f.head {
			continue
		}
		text := "body 0\n\t" + f.name
		if f.regA {
			text += " r0"
		}
		text += " {\n\t\tsay r0\n\t\tsay r0\n\t}\n\tsay r0\n"
		checkText(t, []writeCase{{f.name, one(head(f.op, 2), say(), say(), say()), text}})
	}
}

func TestWriteNested(t *testing.T) {
	back := impl.Step{Op: impl.TReturn, A: 3}
	checkText(t, []writeCase{
		{"two ends at one step", one(head(impl.TTry, 2), head(impl.TScope, 1), back, say()),
			"body 0\n\ttry r0 {\n\t\tscope {\n\t\t\treturn r3\n\t\t}\n\t}\n\tsay r0\n"},
		{"empty blocks in a block", one(head(impl.TIf, 3), head(impl.TDefer, 0), head(impl.TLoop, 0), say()),
			"body 0\n\tif r0 {\n\t\tdefer {\n\t\t}\n\t\tloop r0 {\n\t\t}\n\t\tsay r0\n\t}\n"},
		{"a block behind a block", one(head(impl.TDefer, 1), say(), head(impl.TScope, 1), back),
			"body 0\n\tdefer {\n\t\tsay r0\n\t}\n\tscope {\n\t\treturn r3\n\t}\n"},
	})
	var want strings.Builder
	want.WriteString("body 0\n")
	for k := 1; k <= 12; k++ {
		want.WriteString(strings.Repeat("\t", k) + "loop r0 {\n")
	}
	want.WriteString(strings.Repeat("\t", 13) + "say r0\n")
	for k := 12; k >= 1; k-- {
		want.WriteString(strings.Repeat("\t", k) + "}\n")
	}
	checkText(t, []writeCase{{"12 deep", one(nest(impl.TLoop, 12, say())...), want.String()}})
}

func TestWriteBodies(t *testing.T) {
	var all strings.Builder
	for b := range 30 {
		all.WriteString("body " + strconv.Itoa(b) + "\n")
	}
	checkText(t, []writeCase{
		{"an empty body", plan(nil), "body 0\n"},
		{"an empty body between", plan(says(1), nil, says(2)), "body 0\n\tsay r0\nbody 1\nbody 2\n\tsay r0\n\tsay r0\n"},
		{"30 empty bodies", impl.Plan{Bodies: make([]impl.Body, 30)}, all.String()},
		{"300 steps", one(says(300)...), "body 0\n" + strings.Repeat("\tsay r0\n", 300)},
	})
	last := impl.Plan{Bodies: make([]impl.Body, 30)}
	last.Bodies[29].Steps = []impl.Step{{Op: impl.TNew, A: 1, B: 29}}
	checkText(t, []writeCase{{"a body of two digits", last, all.String() + "\tnew r1 body 29\n"}})
}

func TestWriteNumbers(t *testing.T) {
	for _, c := range []struct {
		n    int64
		text string
	}{
		{0, "0"},
		{-1, "-1"},
		{1000000, "1000000"},
		{greatest, "9223372036854775807"},
		{least, "-9223372036854775808"},
	} {
		p := one(impl.Step{Op: impl.TSet, A: 2, N: c.n}, impl.Step{Op: impl.TAdd, A: 3, B: 1, N: c.n})
		want := "body 0\n\tset r2 " + c.text + "\n\tadd r3 r1 " + c.text + "\n"
		checkText(t, []writeCase{{c.text, p, want}})
	}
}

func TestWriteNothing(t *testing.T) {
	checkText(t, []writeCase{
		{"1, none", impl.Plan{}, ""},
		{"1, too many", impl.Plan{Bodies: make([]impl.Body, 31)}, ""},
		{"2", one(says(301)...), ""},
		{"3", one(say(), impl.Step{Op: 16}), ""},
		{"3 in the last body", plan(says(1), []impl.Step{{Op: impl.TSay, A: 4}}), ""},
		{"4", one(say(), head(impl.TScope, 1)), ""},
		{"4, very great", one(head(impl.TScope, greatest), say()), ""},
		{"5", one(nest(impl.TTry, 13)...), ""},
		{"6", one(head(impl.TDefer, 1), impl.Step{Op: impl.TReturn}), ""},
	})
}
