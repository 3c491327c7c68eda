package parts

import "math"

// Abs tells the size. The greater part is taken out of the root, so that no square is beyond the floats.
func Abs(z complex128) float64 {
	great, small := math.Abs(real(z)), math.Abs(imag(z))
	if great < small {
		great, small = small, great
	}
	switch {
	case math.IsNaN(great) || math.IsNaN(small):
		return math.NaN()
	case math.IsInf(great, 1):
		return great
	case great == 0:
		return 0
	}
	q := small / great
	root := math.Sqrt(1 + float64(q*q))
	// Converted, so that it is joined with no sum of the caller's.
	return float64(great * root)
}
