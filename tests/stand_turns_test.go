package tests

import "testing"

// At the record of a turn states have changed, registers have not.
func TestStandsAtTurns(t *testing.T) {
	checkStands(t, []standCase{
		{
			name:   "no record",
			bodies: []string{"set r0 3", "say r0"},
			end:    "0 | b0 done 3,0,0,0 w- o0 d0/0",
		},
		{
			name:   "one task",
			bodies: []string{"set r0 3; say r0; add r1 r0 2; set r3 4; say r1"},
			at: []string{
				"0 say 3 | b0 runs 3,0,0,0 w- o1 d0/0",
				"0 say 5 | b0 runs 3,5,0,4 w- o1 d0/0",
			},
			end: "0 | b0 done 3,5,0,4 w- o0 d0/0",
		},
		{
			name:   "resume, yield, resume of a waiting one, return",
			bodies: []string{"new r1 body 1; set r0 3; resume r0 r1; set r2 8; resume r2 r1; say r2", "add r1 r0 4; yield r1; add r2 r1 1; return r2"},
			at: []string{
				"1 turn resume | b0 busy 3,1,0,0 w- o1 d0/0 | b1 runs 0,0,0,0 w0 o0 d0/0",
				"0 turn yield  | b0 runs 3,1,0,0 w- o1 d0/0 | b1 waits 3,7,0,0 w- o1 d0/0",
				"1 turn resume | b0 busy 7,1,8,1 w- o1 d0/0 | b1 runs 3,7,0,0 w0 o1 d0/0",
				"0 turn done   | b0 runs 7,1,8,1 w- o1 d0/0 | b1 done 3,8,9,0 w- o0 d0/0",
				"0 say 9       | b0 runs 7,1,9,2 w- o1 d0/0 | b1 done 3,8,9,0 w- o0 d0/0",
			},
			end: "0 | b0 done 7,1,9,2 w- o0 d0/0 | b1 done 3,8,9,0 w- o0 d0/0",
		},
		{
			name:   "a plain end",
			bodies: []string{"new r1 body 2; set r0 3; resume r0 r1", "", "scope { set r1 6 }"},
			at: []string{
				"1 turn resume | b0 busy 3,1,0,0 w- o1 d0/0 | b2 runs 0,0,0,0 w0 o0 d0/0",
				"0 turn done   | b0 runs 3,1,0,0 w- o1 d0/0 | b2 done 3,6,0,0 w- o0 d0/0",
			},
			end: "0 | b0 done 0,1,0,2 w- o0 d0/0 | b2 done 3,6,0,0 w- o0 d0/0",
		},
		{
			name:   "an error that ends a task",
			bodies: []string{"new r1 body 1; set r2 5; set r3 9; resume r2 r1; say r3", "scope { scope { add r0 r0 1; throw r0 } }"},
			at: []string{
				"1 turn resume | b0 busy 0,1,5,9 w- o1 d0/0 | b1 runs 0,0,0,0 w0 o0 d0/0",
				"1 throw 6     | b0 busy 0,1,5,9 w- o1 d0/0 | b1 runs 6,0,0,0 w0 o3 d0/0",
				"0 turn error  | b0 runs 0,1,5,9 w- o1 d0/0 | b1 done 6,0,0,0 w- o0 d0/0",
				"0 say 0       | b0 runs 0,1,6,0 w- o1 d0/0 | b1 done 6,0,0,0 w- o0 d0/0",
			},
			end: "0 | b0 done 0,1,6,0 w- o0 d0/0 | b1 done 6,0,0,0 w- o0 d0/0",
		},
		{
			name:   "the flag is where the value goes",
			bodies: []string{"new r1 body 1; set r3 7; resume r3 r1; say r3", "yield r0"},
			at: []string{
				"1 turn resume | b0 busy 0,1,0,7 w- o1 d0/0 | b1 runs 0,0,0,0 w0 o0 d0/0",
				"0 turn yield  | b0 runs 0,1,0,7 w- o1 d0/0 | b1 waits 7,0,0,0 w- o1 d0/0",
				"0 say 1       | b0 runs 0,1,0,1 w- o1 d0/0 | b1 waits 7,0,0,0 w- o1 d0/0",
			},
			end: "0 | b0 done 0,1,0,1 w- o0 d0/0 | b1 waits 7,0,0,0 w- o1 d0/0",
		},
		{
			name:   "one that resumes another, which resumes itself in vain",
			bodies: []string{"new r1 body 1; new r2 body 2; set r0 2; resume r0 r1; say r0", "resume r2 r0; say r2", "set r1 2; try r2 { resume r0 r1 }"},
			at: []string{
				"1 turn resume | b0 busy 2,1,2,0 w- o1 d0/0 | b1 runs 0,0,0,0 w0 o0 d0/0 | b2 new 0,0,0,0 w- o0 d0/0",
				"2 turn resume | b0 busy 2,1,2,0 w- o1 d0/0 | b1 busy 2,0,0,0 w0 o1 d0/0 | b2 runs 0,0,0,0 w1 o0 d0/0",
				"2 ring 2      | b0 busy 2,1,2,0 w- o1 d0/0 | b1 busy 2,0,0,0 w0 o1 d0/0 | b2 runs 0,2,0,0 w1 o2 d0/0",
				"2 throw -10   | b0 busy 2,1,2,0 w- o1 d0/0 | b1 busy 2,0,0,0 w0 o1 d0/0 | b2 runs 0,2,0,0 w1 o2 d0/0",
				"2 catch -10   | b0 busy 2,1,2,0 w- o1 d0/0 | b1 busy 2,0,0,0 w0 o1 d0/0 | b2 runs 0,2,0,0 w1 o1 d0/0",
				"1 turn done   | b0 busy 2,1,2,0 w- o1 d0/0 | b1 runs 2,0,0,0 w0 o1 d0/0 | b2 done 0,2,-10,0 w- o0 d0/0",
				"1 say 0       | b0 busy 2,1,2,0 w- o1 d0/0 | b1 runs 2,0,0,2 w0 o1 d0/0 | b2 done 0,2,-10,0 w- o0 d0/0",
				"0 turn done   | b0 runs 2,1,2,0 w- o1 d0/0 | b1 done 2,0,0,2 w- o0 d0/0 | b2 done 0,2,-10,0 w- o0 d0/0",
				"0 say 0       | b0 runs 0,1,2,2 w- o1 d0/0 | b1 done 2,0,0,2 w- o0 d0/0 | b2 done 0,2,-10,0 w- o0 d0/0",
			},
			end: "0 | b0 done 0,1,2,2 w- o0 d0/0 | b1 done 2,0,0,2 w- o0 d0/0 | b2 done 0,2,-10,0 w- o0 d0/0",
		},
		{
			name:   "a ring of three",
			bodies: []string{"new r1 body 1; resume r0 r1", "new r1 body 2; resume r0 r1", "try r2 { scope { resume r0 r0 } } say r2"},
			at: []string{
				"1 turn resume | b0 busy 0,1,0,0 w- o1 d0/0 | b1 runs 0,0,0,0 w0 o0 d0/0",
				"2 turn resume | b0 busy 0,1,0,0 w- o1 d0/0 | b1 busy 0,2,0,0 w0 o1 d0/0 | b2 runs 0,0,0,0 w1 o0 d0/0",
				"2 ring 0      | b0 busy 0,1,0,0 w- o1 d0/0 | b1 busy 0,2,0,0 w0 o1 d0/0 | b2 runs 0,0,0,0 w1 o3 d0/0",
				"2 ring 1      | b0 busy 0,1,0,0 w- o1 d0/0 | b1 busy 0,2,0,0 w0 o1 d0/0 | b2 runs 0,0,0,0 w1 o3 d0/0",
				"2 ring 2      | b0 busy 0,1,0,0 w- o1 d0/0 | b1 busy 0,2,0,0 w0 o1 d0/0 | b2 runs 0,0,0,0 w1 o3 d0/0",
				"2 throw -10   | b0 busy 0,1,0,0 w- o1 d0/0 | b1 busy 0,2,0,0 w0 o1 d0/0 | b2 runs 0,0,0,0 w1 o3 d0/0",
				"2 catch -10   | b0 busy 0,1,0,0 w- o1 d0/0 | b1 busy 0,2,0,0 w0 o1 d0/0 | b2 runs 0,0,0,0 w1 o1 d0/0",
				"2 say -10     | b0 busy 0,1,0,0 w- o1 d0/0 | b1 busy 0,2,0,0 w0 o1 d0/0 | b2 runs 0,0,-10,0 w1 o1 d0/0",
				"1 turn done   | b0 busy 0,1,0,0 w- o1 d0/0 | b1 runs 0,2,0,0 w0 o1 d0/0 | b2 done 0,0,-10,0 w- o0 d0/0",
				"0 turn done   | b0 runs 0,1,0,0 w- o1 d0/0 | b1 done 0,2,0,2 w- o0 d0/0 | b2 done 0,0,-10,0 w- o0 d0/0",
			},
			end: "0 | b0 done 0,1,0,2 w- o0 d0/0 | b1 done 0,2,0,2 w- o0 d0/0 | b2 done 0,0,-10,0 w- o0 d0/0",
		},
	})
}

func TestStandsAtGivingsUp(t *testing.T) {
	checkStands(t, []standCase{
		{
			name:   "in the midst of blocks",
			bodies: []string{"new r1 body 1; resume r0 r1; set r2 9; set r3 6; giveup r2 r1; say r2", "defer { say r2 } scope { defer { set r2 4; say r2 } yield r0; say r0 }"},
			at: []string{
				"1 turn resume | b0 busy 0,1,0,0 w- o1 d0/0 | b1 runs 0,0,0,0 w0 o0 d0/0",
				"0 turn yield  | b0 runs 0,1,0,0 w- o1 d0/0 | b1 waits 0,0,0,0 w- o2 d0/2",
				"1 turn giveup | b0 busy 0,1,9,6 w- o1 d0/0 | b1 runs 0,0,0,0 w0 o2 d0/2",
				"1 say 4       | b0 busy 0,1,9,6 w- o1 d0/0 | b1 runs 0,0,4,0 w0 o3 d1/2",
				"1 say 4       | b0 busy 0,1,9,6 w- o1 d0/0 | b1 runs 0,0,4,0 w0 o2 d2/2",
				"0 turn gone   | b0 runs 0,1,9,6 w- o1 d0/0 | b1 done 0,0,4,0 w- o0 d2/2",
				"0 say 0       | b0 runs 0,1,0,1 w- o1 d0/0 | b1 done 0,0,4,0 w- o0 d2/2",
			},
			end: "0 | b0 done 0,1,0,1 w- o0 d0/0 | b1 done 0,0,4,0 w- o0 d2/2",
		},
		{
			name:   "errors are dropped",
			bodies: []string{"new r1 body 1; resume r0 r1; set r2 9; giveup r2 r1; say r2", "defer { set r1 7; throw r1 } defer { set r1 5; throw r1 } yield r0"},
			at: []string{
				"1 turn resume | b0 busy 0,1,0,0 w- o1 d0/0 | b1 runs 0,0,0,0 w0 o0 d0/0",
				"0 turn yield  | b0 runs 0,1,0,0 w- o1 d0/0 | b1 waits 0,0,0,0 w- o1 d0/2",
				"1 turn giveup | b0 busy 0,1,9,1 w- o1 d0/0 | b1 runs 0,0,0,0 w0 o1 d0/2",
				"1 throw 5     | b0 busy 0,1,9,1 w- o1 d0/0 | b1 runs 0,5,0,0 w0 o2 d1/2",
				"1 throw 7     | b0 busy 0,1,9,1 w- o1 d0/0 | b1 runs 0,7,0,0 w0 o2 d2/2",
				"0 turn gone   | b0 runs 0,1,9,1 w- o1 d0/0 | b1 done 0,7,0,0 w- o0 d2/2",
				"0 say 7       | b0 runs 0,1,7,0 w- o1 d0/0 | b1 done 0,7,0,0 w- o0 d2/2",
			},
			end: "0 | b0 done 0,1,7,0 w- o0 d0/0 | b1 done 0,7,0,0 w- o0 d2/2",
		},
		{
			name:   "of a new task",
			bodies: []string{"new r1 body 1; set r0 4; giveup r0 r1; say r0", "defer { } say r0"},
			at:     []string{"0 say 0 | b0 runs 0,1,0,1 w- o1 d0/0 | b1 done 0,0,0,0 w- o0 d0/0"},
			end:    "0 | b0 done 0,1,0,1 w- o0 d0/0 | b1 done 0,0,0,0 w- o0 d0/0",
		},
		{
			name:   "while another one waits in a defer",
			bodies: []string{"new r1 body 1; resume r0 r1; giveup r0 r1", "new r1 body 2; defer { resume r2 r1; throw r1 } yield r0", "defer { set r0 3; yield r0; say r0 }"},
			at: []string{
				"1 turn resume | b0 busy 0,1,0,0 w- o1 d0/0 | b1 runs 0,0,0,0 w0 o0 d0/0",
				"0 turn yield  | b0 runs 0,1,0,0 w- o1 d0/0 | b1 waits 0,2,0,0 w- o1 d0/1 | b2 new 0,0,0,0 w- o0 d0/0",
				"1 turn giveup | b0 busy 0,1,0,1 w- o1 d0/0 | b1 runs 0,2,0,0 w0 o1 d0/1 | b2 new 0,0,0,0 w- o0 d0/0",
				"2 turn resume | b0 busy 0,1,0,1 w- o1 d0/0 | b1 busy 0,2,0,0 w0 o2 d1/1 | b2 runs 0,0,0,0 w1 o0 d0/0",
				"1 turn yield  | b0 busy 0,1,0,1 w- o1 d0/0 | b1 runs 0,2,0,0 w0 o2 d1/1 | b2 waits 3,0,0,0 w- o2 d1/1",
				"1 throw 2     | b0 busy 0,1,0,1 w- o1 d0/0 | b1 runs 0,2,3,1 w0 o2 d1/1 | b2 waits 3,0,0,0 w- o2 d1/1",
				"0 turn gone   | b0 runs 0,1,0,1 w- o1 d0/0 | b1 done 0,2,3,1 w- o0 d1/1 | b2 waits 3,0,0,0 w- o2 d1/1",
			},
			end: "0 | b0 done 2,1,0,0 w- o0 d0/0 | b1 done 0,2,3,1 w- o0 d1/1 | b2 waits 3,0,0,0 w- o2 d1/1",
		},
	})
}
