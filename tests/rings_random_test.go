package tests

import (
	"testing"

	"loop.example/thread/impl"
)

func TestToldOfManyPlans(t *testing.T) {
	m := newMaker()
	lengths := map[int]int{}
	hows := map[int]int{}
	for range 1500 {
		p := m.plan()
		for _, ticks := range []int{300, m.IntN(60)} {
			checkTold(t, p, ticks)
			for _, ring := range impl.Rings(p, ticks) {
				lengths[min(len(ring.Tasks), 3)]++
			}
			for _, stay := range impl.Turns(p, ticks) {
				hows[stay.How]++
			}
		}
	}
	for length := 1; length <= 3; length++ {
		if lengths[length] < 50 {
			t.Errorf("only %d rings of %d tasks or more", lengths[length], length)
		}
	}
	for how := range 7 {
		if hows[how] < 100 {
			t.Errorf("only %d stays of how %d", hows[how], how)
		}
	}
}
