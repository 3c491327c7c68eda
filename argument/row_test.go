package argument_test

import (
	"strings"
	"testing"

	"slackwater/argument"
)

// P10.2: a name's number, and the number's name.
func TestNames(t *testing.T) {
	for k, a := range angles() {
		if s := argument.Name(k); s != a.name {
			t.Errorf("Name(%d): %q, not %q", k, s, a.name)
		}
		if n, ok := argument.Find(a.name); n != k || !ok {
			t.Errorf("Find(%q): %d, %v", a.name, n, ok)
		}
	}
}

// P10.2
func TestNoNames(t *testing.T) {
	for _, k := range noAngles() {
		if s := argument.Name(k); s != "" {
			t.Errorf("Name(%d): %q", k, s)
		}
	}
	for _, s := range []string{"", " ", "Sun", "SUN", "sun ", " sun", "su", "sunn", "s", "n", "lun", "lunar\x00", "lunar,moon", "Lunar", "Moon", "peri", "perige", "perigees", "nodes", "Node", "perihelio", "perihelions", "2", "0", "\xff", "ſun", "M2", strings.Repeat("sun", 30000)} {
		if k, ok := argument.Find(s); k != 0 || ok {
			t.Errorf("Find(%.60q): %d, %v", s, k, ok)
		}
	}
}
