package store

import (
	"math"
	"testing"
)

// TestMeterGoesRound sets the meter ahead: from outside nobody makes so many accesses.
func TestMeterGoesRound(t *testing.T) {
	s, _ := New(1)
	s.meter.Store(math.MaxUint64 - 1)
	for _, want := range []uint64{math.MaxUint64, 0, 1} {
		if s.Get(0); s.Meter() != want {
			t.Errorf("the meter is %d, not %d", s.Meter(), want)
		}
	}
	s.meter.Store(math.MaxUint64)
	if s.Put(0, 7); s.Meter() != 0 || s.Peek(0) != 7 {
		t.Errorf("the meter is %d, not 0, the word %d", s.Meter(), s.Peek(0))
	}
}
