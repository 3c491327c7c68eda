package clean

import (
	"math"
	"slices"

	"slackwater/api"
)

// maxHeights is as many as all lists of a Merge may have at one tick.
const maxHeights = 65536

// Mean tells the mean of the heights that are finite; +0, if there are none.
func Mean(l []float64) (float64, api.Errno) {
	if len(l) > maxHeights {
		return 0, api.ErrLong
	}
	heights := inOrder(l, rising)
	if len(heights) == 0 {
		return 0, api.OK
	}
	var sum float64
	for _, x := range heights {
		sum = float64(sum + x)
	}
	// A sum beyond the floats stays there, as all that is added is finite: so does the mean.
	mean := float64(sum / float64(len(heights)))
	if !isOne(mean) {
		return 0, api.ErrOver
	}
	return mean, api.OK
}

// Median tells the median of the heights that are finite, and whether there are any.
func Median(l []float64) (float64, bool) {
	heights := inOrder(l, rising)
	count := len(heights)
	switch {
	case count == 0:
		return 0, false
	case count%2 == 1:
		return heights[count/2], true
	}
	// Halved ahead of the sum, which else might be beyond the floats.
	low, high := float64(heights[count/2-1]/2), float64(heights[count/2]/2)
	return float64(low + high), true
}

// inOrder tells the heights that are finite, as a comparison puts them, in a list of their own.
func inOrder(l []float64, compare func(a, b float64) int) []float64 {
	var heights []float64
	for _, x := range l {
		if isOne(x) {
			heights = append(heights, x)
		}
	}
	slices.SortFunc(heights, compare)
	return heights
}

// rising is the order of finite heights: by value, -0 ahead of +0, so that unlike bits are never as good.
func rising(a, b float64) int {
	switch {
	case a < b:
		return -1
	case a > b:
		return 1
	case math.Signbit(a) == math.Signbit(b):
		return 0
	case math.Signbit(a):
		return -1
	}
	return 1
}
