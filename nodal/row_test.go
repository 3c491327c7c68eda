package nodal

import (
	"testing"

	"slackwater/api"
)

// P12.2: no tick's product stands halfway between two whole numbers, so these are numbers at which one would: the even one is taken.
func TestHalfway(t *testing.T) {
	for _, c := range []struct {
		name string
		im   float64
		want int64
	}{
		{"M2", 1. / 16, -1312}, {"M2", 3. / 16, -3938}, {"M2", -1. / 16, 1312}, {"M2", -3. / 16, 3938},
		{"O1", 1. / 64, 1688}, {"O1", 3. / 64, 5062}, {"O1", -1. / 64, -1688}, {"O1", -3. / 64, -5062},
		{"K1", 1. / 16, -5562}, {"K2", 1. / 16, -11062}, {"Mf", 1. / 16, -14812}, {"Mf", 3. / 16, -44438},
	} {
		r, e := find(c.name)
		if e != api.OK {
			t.Fatal(c.name, e)
		}
		a, e := r.turn(complex(0.5, c.im))
		if e != api.OK {
			t.Fatal(c.name, e)
		}
		n := a.Part * (3600000 / a.Whole)
		if off := (n - c.want) % 3600000; off != 0 {
			t.Errorf("%s at %v: %v, off by %d", c.name, c.im, a, off)
		}
	}
}
