package tests

import (
	"testing"

	"loop.example/thread/impl"
)

func TestEndsByErrors(t *testing.T) {
	checkStands(t, []standCase{
		{
			name:   "one is new still, one waits still, one was given up while new",
			bodies: []string{"new r1 body 1; new r2 body 1; new r3 body 2; giveup r0 r3; resume r0 r2; set r0 7; throw r0", "defer { say r0 } scope { yield r0 }", "say r0"},
			at: []string{
				"2 turn resume | b0 busy 0,1,2,1 w- o1 d0/0 | b1 new 0,0,0,0 w- o0 d0/0 | b1 runs 0,0,0,0 w0 o0 d0/0 | b2 done 0,0,0,0 w- o0 d0/0",
				"0 turn yield  | b0 runs 0,1,2,1 w- o1 d0/0 | b1 new 0,0,0,0 w- o0 d0/0 | b1 waits 0,0,0,0 w- o2 d0/1 | b2 done 0,0,0,0 w- o0 d0/0",
				"0 throw 7     | b0 runs 7,1,2,1 w- o1 d0/0 | b1 new 0,0,0,0 w- o0 d0/0 | b1 waits 0,0,0,0 w- o2 d0/1 | b2 done 0,0,0,0 w- o0 d0/0",
			},
			end: "0 | b0 done 7,1,2,1 w- o0 d0/0 | b1 new 0,0,0,0 w- o0 d0/0 | b1 waits 0,0,0,0 w- o2 d0/1 | b2 done 0,0,0,0 w- o0 d0/0",
		},
		{
			name:   "an error that another task left",
			bodies: []string{"defer { say r0 } new r1 body 1; resume r0 r1; throw r0", "set r0 4; defer { throw r0 }"},
			at: []string{
				"1 turn resume | b0 busy 0,1,0,0 w- o1 d0/1 | b1 runs 0,0,0,0 w0 o0 d0/0",
				"1 throw 4     | b0 busy 0,1,0,0 w- o1 d0/1 | b1 runs 4,0,0,0 w0 o2 d1/1",
				"0 turn error  | b0 runs 0,1,0,0 w- o1 d0/1 | b1 done 4,0,0,0 w- o0 d1/1",
				"0 throw 4     | b0 runs 4,1,0,0 w- o1 d0/1 | b1 done 4,0,0,0 w- o0 d1/1",
				"0 say 4       | b0 runs 4,1,0,0 w- o2 d1/1 | b1 done 4,0,0,0 w- o0 d1/1",
			},
			end: "0 | b0 done 4,1,0,0 w- o0 d1/1 | b1 done 4,0,0,0 w- o0 d1/1",
		},
	})
}

// endCase is a plan and what stands when so many ticks were allowed; from is the fewest that the first end has.
type endCase struct {
	name   string
	bodies []string
	from   int
	ends   []string
}

func TestEndsByTicks(t *testing.T) {
	cases := []endCase{
		{
			name:   "no step",
			bodies: []string{""},
			ends:   []string{"0 | b0 done 0,0,0,0 w- o0 d0/0", "0 | b0 done 0,0,0,0 w- o0 d0/0"},
		},
		{
			name:   "a defer",
			bodies: []string{"defer { set r0 1; set r1 2; set r2 3 }"},
			ends: []string{
				"0 | b0 runs 0,0,0,0 w- o1 d0/0",
				"0 | b0 runs 0,0,0,0 w- o1 d0/1",
				"0 | b0 runs 0,0,0,0 w- o2 d1/1",
				"0 | b0 runs 1,0,0,0 w- o2 d1/1",
				"0 | b0 runs 1,2,0,0 w- o2 d1/1",
				"0 | b0 done 1,2,3,0 w- o0 d1/1",
				"0 | b0 done 1,2,3,0 w- o0 d1/1",
			},
		},
		{
			name:   "two defers",
			bodies: []string{"scope { defer { set r0 1 } defer { set r0 2 } }"},
			from:   3,
			ends: []string{
				"0 | b0 runs 0,0,0,0 w- o2 d0/2",
				"0 | b0 runs 0,0,0,0 w- o3 d1/2",
				"0 | b0 runs 2,0,0,0 w- o2 d1/2",
				"0 | b0 runs 2,0,0,0 w- o3 d2/2",
				"0 | b0 done 1,0,0,0 w- o0 d2/2",
			},
		},
		{
			name:   "a loop",
			bodies: []string{"set r0 2; loop r0 { set r1 4; set r2 5 } set r3 1"},
			ends: []string{
				"0 | b0 runs 0,0,0,0 w- o1 d0/0",
				"0 | b0 runs 2,0,0,0 w- o1 d0/0",
				"0 | b0 runs 1,0,0,0 w- o2 d0/0",
				"0 | b0 runs 1,4,0,0 w- o2 d0/0",
				"0 | b0 runs 1,4,5,0 w- o1 d0/0",
				"0 | b0 runs 0,4,5,0 w- o2 d0/0",
				"0 | b0 runs 0,4,5,0 w- o2 d0/0",
				"0 | b0 runs 0,4,5,0 w- o1 d0/0",
				"0 | b0 runs 0,4,5,0 w- o1 d0/0",
				"0 | b0 done 0,4,5,1 w- o0 d0/0",
			},
		},
		{
			name:   "an error on its way",
			bodies: []string{"set r0 6; try r1 { defer { set r2 1 } scope { throw r0 } } set r3 2"},
			from:   4,
			ends: []string{
				"0 | b0 runs 6,0,0,0 w- o3 d0/1",
				"0 | b0 runs 6,0,0,0 w- o2 d0/1",
				"0 | b0 runs 6,0,0,0 w- o3 d1/1",
				"0 | b0 runs 6,6,1,0 w- o1 d1/1",
				"0 | b0 done 6,6,1,2 w- o0 d1/1",
			},
		},
		{
			name:   "a return on its way",
			bodies: []string{"new r1 body 1; resume r0 r1; set r2 3", "scope { defer { set r1 1 } set r0 6; scope { return r0 } }"},
			from:   7,
			ends: []string{
				"1 | b0 busy 0,1,0,0 w- o1 d0/0 | b1 runs 6,0,0,0 w0 o2 d0/1",
				"1 | b0 busy 0,1,0,0 w- o1 d0/0 | b1 runs 6,0,0,0 w0 o3 d1/1",
				"0 | b0 runs 6,1,0,2 w- o1 d0/0 | b1 done 6,1,0,0 w- o0 d1/1",
				"0 | b0 done 6,1,3,2 w- o0 d0/0 | b1 done 6,1,0,0 w- o0 d1/1",
			},
		},
		{
			name:   "a giving up in the midst of blocks",
			bodies: []string{"new r1 body 1; resume r0 r1; giveup r0 r1; set r2 3", "scope { defer { set r1 1 } scope { scope { yield r0 } } }"},
			from:   1,
			ends: []string{
				"0 | b0 runs 0,1,0,0 w- o1 d0/0 | b1 new 0,0,0,0 w- o0 d0/0",
				"1 | b0 busy 0,1,0,0 w- o1 d0/0 | b1 runs 0,0,0,0 w0 o1 d0/0",
				"1 | b0 busy 0,1,0,0 w- o1 d0/0 | b1 runs 0,0,0,0 w0 o2 d0/0",
				"1 | b0 busy 0,1,0,0 w- o1 d0/0 | b1 runs 0,0,0,0 w0 o2 d0/1",
				"1 | b0 busy 0,1,0,0 w- o1 d0/0 | b1 runs 0,0,0,0 w0 o3 d0/1",
				"1 | b0 busy 0,1,0,0 w- o1 d0/0 | b1 runs 0,0,0,0 w0 o4 d0/1",
				"0 | b0 runs 0,1,0,1 w- o1 d0/0 | b1 waits 0,0,0,0 w- o4 d0/1",
				"1 | b0 busy 0,1,0,1 w- o1 d0/0 | b1 runs 0,0,0,0 w0 o2 d0/1",
				"1 | b0 busy 0,1,0,1 w- o1 d0/0 | b1 runs 0,0,0,0 w0 o3 d1/1",
				"0 | b0 runs 0,1,0,1 w- o1 d0/0 | b1 done 0,1,0,0 w- o0 d1/1",
				"0 | b0 done 0,1,3,1 w- o0 d0/0 | b1 done 0,1,0,0 w- o0 d1/1",
			},
		},
		{
			name:   "one that waits in a defer",
			bodies: []string{"scope { new r1 body 1; defer { resume r0 r1; set r2 1 } }", "defer { yield r0 }"},
			from:   5,
			ends: []string{
				"1 | b0 busy 0,1,0,0 w- o3 d1/1 | b1 runs 0,0,0,0 w0 o1 d0/0",
				"1 | b0 busy 0,1,0,0 w- o3 d1/1 | b1 runs 0,0,0,0 w0 o1 d0/1",
				"1 | b0 busy 0,1,0,0 w- o3 d1/1 | b1 runs 0,0,0,0 w0 o2 d1/1",
				"0 | b0 runs 0,1,0,1 w- o3 d1/1 | b1 waits 0,0,0,0 w- o2 d1/1",
				"0 | b0 done 0,1,1,1 w- o0 d1/1 | b1 waits 0,0,0,0 w- o2 d1/1",
			},
		},
	}
	for _, c := range cases {
		t.Run(c.name, func(t *testing.T) {
			p := read(c.bodies...)
			for i, want := range c.ends {
				if got := impl.EndOf(p, c.from+i); !sameStand(got, stand(want)) {
					t.Errorf("with %d ticks: %v, want %s", c.from+i, got, want)
				}
			}
			checkEnds(t, p)
		})
	}
}

func TestEndsAtTheMostTicks(t *testing.T) {
	p := read("set r1 1; loop r1 { set r1 2; add r0 r0 1 }")
	if got, want := impl.EndOf(p, most), stand("0 | b0 runs 1666,1,0,0 w- o2 d0/0"); !sameStand(got, want) {
		t.Errorf("%v, want %v", got, want)
	}
	p = read("set r1 2498; loop r1 { say r0 } set r2 1; set r3 1")
	if got, want := impl.EndOf(p, most), stand("0 | b0 done 0,0,1,1 w- o0 d0/0"); !sameStand(got, want) {
		t.Errorf("%v, want %v", got, want)
	}
	if got, want := impl.StandAt(p, most, 2497), stand("0 | b0 runs 0,0,0,0 w- o2 d0/0"); !sameStand(got, want) {
		t.Errorf("%v, want %v", got, want)
	}
}

// What is refused, and what is no record, has the zero value.
func TestNoStand(t *testing.T) {
	p := read("say r0; say r0; say r0")
	for _, k := range []int{-1, 3, 4, 5000, 1 << 32, 1<<32 + 1, -1 << 32, least, greatest} {
		if got := impl.StandAt(p, most, k); !isZero(got) {
			t.Errorf("record %d: %v", k, got)
		}
	}
	for _, ticks := range []int{-1, 5001, 1<<32 + 1, least, greatest} {
		checkNoStand(t, p, ticks)
	}
	for _, p := range wrongPlans() {
		for _, ticks := range []int{-1, 0, 1, 5000, 5001} {
			checkNoStand(t, p, ticks)
		}
	}
	if got := impl.StandAt(p, 0, 0); !isZero(got) {
		t.Errorf("no ticks: %v", got)
	}
	if got := impl.StandAt(read(""), most, 0); !isZero(got) {
		t.Errorf("no records: %v", got)
	}
}

func checkNoStand(t *testing.T, p impl.Plan, ticks int) {
	t.Helper()
	for _, k := range []int{least, -1, 0, 1, greatest} {
		if got := impl.StandAt(p, ticks, k); !isZero(got) {
			t.Errorf("%d ticks, record %d: %v", ticks, k, got)
		}
	}
	if got := impl.EndOf(p, ticks); !isZero(got) {
		t.Errorf("end of %d ticks: %v", ticks, got)
	}
}

// A record is there as soon as its tick is, and stands the same with more of them.
func TestStandsAtEachAllowance(t *testing.T) {
	p := read("say r0; set r0 2; say r0")
	for _, ticks := range []int{1, 2, 3, 4, 4999, 5000} {
		first := impl.StandAt(p, ticks, 0)
		if !sameStand(first, stand("0 | b0 runs 0,0,0,0 w- o1 d0/0")) {
			t.Errorf("%d ticks: %v", ticks, first)
		}
		second := impl.StandAt(p, ticks, 1)
		if ticks < 3 && !isZero(second) || ticks >= 3 && !sameStand(second, stand("0 | b0 runs 2,0,0,0 w- o1 d0/0")) {
			t.Errorf("%d ticks: %v", ticks, second)
		}
	}
}
