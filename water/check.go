package water

import (
	"slackwater/api"
	"slackwater/ratio"
)

// Check tells what is wrong with waters.
func Check(l []api.Water) api.Fault {
	if len(l) > api.MaxSpan {
		return api.Fault{Err: api.ErrLong, At: -1}
	}
	for i, w := range l {
		if e := checkNext(l[:i], w); e != api.OK {
			return api.Fault{Err: e, At: i}
		}
	}
	return api.Fault{}
}

// checkNext tells what is wrong with a water behind those ahead of it, which may be.
func checkNext(ahead []api.Water, w api.Water) api.Errno {
	if !standsRight(ahead, w) {
		return api.ErrArg
	}
	if e := ratio.Check(w.Height); e != api.OK {
		return e
	}
	if len(ahead) > 0 && !follows(ahead[len(ahead)-1], w) {
		return api.ErrArg
	}
	return api.OK
}

// standsRight tells whether a water's ticks are such, and stand behind all others.
func standsRight(ahead []api.Water, w api.Water) bool {
	if len(ahead) > 0 && w.Tick <= ahead[len(ahead)-1].Last {
		return false
	}
	return w.Tick >= 0 && w.Last >= w.Tick && w.Last <= api.MaxTick
}

// follows tells whether a water is of the other kind than the one ahead, and on the side of it that its kind asks for.
func follows(ahead, w api.Water) bool {
	if ahead.Top == w.Top {
		return false
	}
	goes := wayFrom(ahead.Height, w.Height)
	return w.Top && goes == rising || !w.Top && goes == falling
}

// Highest tells the place of the highest top, the first of several.
func Highest(l []api.Water) (int, bool) { return outermost(l, true, rising) }

// Lowest tells the place of the lowest bottom, the first of several.
func Lowest(l []api.Water) (int, bool) { return outermost(l, false, falling) }

// outermost tells the place of the first water of a kind from which it goes that way to no other one.
func outermost(l []api.Water, top bool, outward way) (int, bool) {
	if Check(l) != (api.Fault{}) {
		return 0, false
	}
	place, found := 0, false
	for i, w := range l {
		if w.Top != top {
			continue
		}
		if !found || wayFrom(l[place].Height, w.Height) == outward {
			place, found = i, true
		}
	}
	return place, found
}
