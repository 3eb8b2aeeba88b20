package plan

import (
	"testing"

	"quitrent/api"
)

// TestNumbersAreReckonedOnce spoils what a sheet reckons from: from outside nobody can tell whether it reckons again.
func TestNumbersAreReckonedOnce(t *testing.T) {
	right, wrong := api.Conf{N: 10, W: 20, R: 2, K: 7}, api.Conf{N: 10, W: 15, R: 2, K: 7}
	for _, x := range []struct{ first, then api.Conf }{{right, wrong}, {wrong, right}} {
		s := New(x.first)
		want, wantErr := Of(x.first)
		for range 3 {
			if n, err := s.Numbers(); n != want || err != wantErr {
				t.Errorf("sheet of %v: %+v and %d, not %+v and %d", x.first, n, err, want, wantErr)
			}
			s.conf = x.then
		}
	}
}
