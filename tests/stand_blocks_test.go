package tests

import (
	"testing"

	"loop.example/thread/impl"
)

// A block that is being left is open until its defers are done.
func TestStandsInBlocks(t *testing.T) {
	checkStands(t, []standCase{
		{
			name:   "heads in one another",
			bodies: []string{"set r0 1; say r0; scope { say r0; try r1 { say r0; if r0 { say r0; loop r0 { say r0 } say r0 } say r0 } say r0 } say r0; if r0 { say r1 } loop r0 { say r1 }"},
			at: []string{
				"0 say 1 | b0 runs 1,0,0,0 w- o1 d0/0",
				"0 say 1 | b0 runs 1,0,0,0 w- o2 d0/0",
				"0 say 1 | b0 runs 1,0,0,0 w- o3 d0/0",
				"0 say 1 | b0 runs 1,0,0,0 w- o4 d0/0",
				"0 say 0 | b0 runs 0,0,0,0 w- o5 d0/0",
				"0 say 0 | b0 runs 0,0,0,0 w- o4 d0/0",
				"0 say 0 | b0 runs 0,0,0,0 w- o3 d0/0",
				"0 say 0 | b0 runs 0,0,0,0 w- o2 d0/0",
				"0 say 0 | b0 runs 0,0,0,0 w- o1 d0/0",
			},
			end: "0 | b0 done 0,0,0,0 w- o0 d0/0",
		},
		{
			name:   "two defers in one another",
			bodies: []string{"set r0 1; set r1 2; set r2 3; defer { defer { say r0 } say r1 } say r2"},
			at: []string{
				"0 say 3 | b0 runs 1,2,3,0 w- o1 d0/1",
				"0 say 2 | b0 runs 1,2,3,0 w- o2 d1/2",
				"0 say 1 | b0 runs 1,2,3,0 w- o3 d2/2",
			},
			end: "0 | b0 done 1,2,3,0 w- o0 d2/2",
		},
		{
			name:   "two defers of one block",
			bodies: []string{"set r0 1; set r1 2; scope { defer { say r0 } defer { say r1 } } say r2"},
			at: []string{
				"0 say 2 | b0 runs 1,2,0,0 w- o3 d1/2",
				"0 say 1 | b0 runs 1,2,0,0 w- o3 d2/2",
				"0 say 0 | b0 runs 1,2,0,0 w- o1 d2/2",
			},
			end: "0 | b0 done 1,2,0,0 w- o0 d2/2",
		},
		{
			name:   "a defer in each turn of a loop",
			bodies: []string{"set r0 2; loop r0 { defer { say r0 } say r1 }"},
			at: []string{
				"0 say 0 | b0 runs 1,0,0,0 w- o2 d0/1",
				"0 say 1 | b0 runs 1,0,0,0 w- o3 d1/1",
				"0 say 0 | b0 runs 0,0,0,0 w- o2 d1/2",
				"0 say 0 | b0 runs 0,0,0,0 w- o3 d2/2",
			},
			end: "0 | b0 done 0,0,0,0 w- o0 d2/2",
		},
		{
			name:   "a return out of several blocks",
			bodies: []string{"new r1 body 1; resume r0 r1; say r0", "set r1 6; defer { say r1 } scope { if r1 { defer { set r1 9; say r1 } return r1 } }"},
			at: []string{
				"1 turn resume | b0 busy 0,1,0,0 w- o1 d0/0 | b1 runs 0,0,0,0 w0 o0 d0/0",
				"1 say 9       | b0 busy 0,1,0,0 w- o1 d0/0 | b1 runs 0,9,0,0 w0 o4 d1/2",
				"1 say 9       | b0 busy 0,1,0,0 w- o1 d0/0 | b1 runs 0,9,0,0 w0 o2 d2/2",
				"0 turn done   | b0 runs 0,1,0,0 w- o1 d0/0 | b1 done 0,9,0,0 w- o0 d2/2",
				"0 say 6       | b0 runs 6,1,0,2 w- o1 d0/0 | b1 done 0,9,0,0 w- o0 d2/2",
			},
			end: "0 | b0 done 6,1,0,2 w- o0 d0/0 | b1 done 0,9,0,0 w- o0 d2/2",
		},
	})
}

func TestStandsInBlocksLeftByErrors(t *testing.T) {
	checkStands(t, []standCase{
		{
			name:   "a try that is being left",
			bodies: []string{"defer { say r1 } set r0 5; try r1 { defer { say r0 } scope { defer { set r2 1; say r2 } throw r0 } } say r1"},
			at: []string{
				"0 throw 5 | b0 runs 5,0,0,0 w- o3 d0/3",
				"0 say 1   | b0 runs 5,0,1,0 w- o4 d1/3",
				"0 say 5   | b0 runs 5,0,1,0 w- o3 d2/3",
				"0 catch 5 | b0 runs 5,0,1,0 w- o1 d2/3",
				"0 say 5   | b0 runs 5,5,1,0 w- o1 d2/3",
				"0 say 5   | b0 runs 5,5,1,0 w- o2 d3/3",
			},
			end: "0 | b0 done 5,5,1,0 w- o0 d3/3",
		},
		{
			name:   "an error in place of another",
			bodies: []string{"try r1 { defer { set r2 8; throw r2 } set r0 3; throw r0 } say r1"},
			at: []string{
				"0 throw 3 | b0 runs 3,0,0,0 w- o2 d0/1",
				"0 throw 8 | b0 runs 3,0,8,0 w- o3 d1/1",
				"0 catch 8 | b0 runs 3,0,8,0 w- o1 d1/1",
				"0 say 8   | b0 runs 3,8,8,0 w- o1 d1/1",
			},
			end: "0 | b0 done 3,8,8,0 w- o0 d1/1",
		},
		{
			name:   "an error is caught inside a defer",
			bodies: []string{"set r0 3; scope { defer { try r1 { throw r0 } say r1 } } say r0"},
			at: []string{
				"0 throw 3 | b0 runs 3,0,0,0 w- o4 d1/1",
				"0 catch 3 | b0 runs 3,0,0,0 w- o3 d1/1",
				"0 say 3   | b0 runs 3,3,0,0 w- o3 d1/1",
				"0 say 3   | b0 runs 3,3,0,0 w- o1 d1/1",
			},
			end: "0 | b0 done 3,3,0,0 w- o0 d1/1",
		},
		{
			name:   "one that waits in a defer while an error is on its way",
			bodies: []string{"new r1 body 1; set r0 2; resume r0 r1; resume r0 r1", "scope { defer { yield r0 } throw r0 }"},
			at: []string{
				"1 turn resume | b0 busy 2,1,0,0 w- o1 d0/0 | b1 runs 0,0,0,0 w0 o0 d0/0",
				"1 throw 2     | b0 busy 2,1,0,0 w- o1 d0/0 | b1 runs 2,0,0,0 w0 o2 d0/1",
				"0 turn yield  | b0 runs 2,1,0,0 w- o1 d0/0 | b1 waits 2,0,0,0 w- o3 d1/1",
				"1 turn resume | b0 busy 2,1,0,1 w- o1 d0/0 | b1 runs 2,0,0,0 w0 o3 d1/1",
				"0 turn error  | b0 runs 2,1,0,1 w- o1 d0/0 | b1 done 2,0,0,0 w- o0 d1/1",
			},
			end: "0 | b0 done 2,1,0,0 w- o0 d0/0 | b1 done 2,0,0,0 w- o0 d1/1",
		},
		{
			name:   "given up in a defer while an error is on its way",
			bodies: []string{"new r1 body 1; set r0 2; resume r0 r1; giveup r0 r1", "scope { defer { say r0 } defer { scope { yield r0 } } throw r0 }"},
			at: []string{
				"1 turn resume | b0 busy 2,1,0,0 w- o1 d0/0 | b1 runs 0,0,0,0 w0 o0 d0/0",
				"1 throw 2     | b0 busy 2,1,0,0 w- o1 d0/0 | b1 runs 2,0,0,0 w0 o2 d0/2",
				"0 turn yield  | b0 runs 2,1,0,0 w- o1 d0/0 | b1 waits 2,0,0,0 w- o4 d1/2",
				"1 turn giveup | b0 busy 2,1,0,1 w- o1 d0/0 | b1 runs 2,0,0,0 w0 o4 d1/2",
				"1 say 2       | b0 busy 2,1,0,1 w- o1 d0/0 | b1 runs 2,0,0,0 w0 o3 d2/2",
				"0 turn gone   | b0 runs 2,1,0,1 w- o1 d0/0 | b1 done 2,0,0,0 w- o0 d2/2",
			},
			end: "0 | b0 done 0,1,0,1 w- o0 d0/0 | b1 done 2,0,0,0 w- o0 d2/2",
		},
	})
}

// Of n blocks in one another, each with a defer, those around the defer that is done are open still.
func TestStandsInDefersInOneAnother(t *testing.T) {
	for n := 1; n <= 10; n++ {
		for _, e := range endings() {
			checkDefersOf(t, read(nested("scope", n, e.last)), 0, n)
			checkDefersOf(t, read("new r1 body 1; resume r0 r1", nested("if r1", n, e.last)), 1, n)
		}
		checkDefersOf(t, read("new r1 body 1; resume r0 r1; giveup r0 r1", nested("loop r1", n, "yield r0")), 1, n)
	}
}

func checkDefersOf(t *testing.T, p impl.Plan, task, n int) {
	t.Helper()
	begun := 0
	for k, rec := range impl.RunPlan(p, most).Recs {
		if rec.Kind != impl.RSay {
			continue
		}
		begun++
		v := impl.StandAt(p, most, k).Tasks[task]
		if v.Kept != n || v.Begun != begun || v.Blocks != n-begun+2 {
			t.Errorf("%s\nat defer %d of %d: %v", impl.WritePlan(p), begun, n, v)
		}
	}
	v := impl.EndOf(p, most).Tasks[task]
	if begun != n || v.State != impl.SDone || v.Kept != n || v.Begun != n || v.Blocks != 0 {
		t.Errorf("%s\nat the end, behind %d defers: %v", impl.WritePlan(p), begun, v)
	}
}
