package turn

import (
	"math"

	"slackwater/api"
	"slackwater/parts"
)

// Root tells the number at a turn.
func Root(t api.Turn) (complex128, api.Errno) {
	if e := Check(t); e != api.OK {
		return 0, e
	}
	eighth, a := 8*t.Part/t.Whole, 8*t.Part%t.Whole
	odd := eighth%2 == 1
	if odd {
		// Odd eighths are gone through backward, from the next quarter.
		a = t.Whole - a
	}
	f := float64(a) / float64(t.Whole)
	y := float64(f * math.Float64frombits(0x3FE921FB54442D18))
	z := complex(cosine(y), sine(y))
	if odd {
		z = complex(imag(z), real(z))
	}
	return plain(place(z, eighth)), api.OK
}

// place turns a number of the first quarter to the quarter in which an eighth is.
func place(z complex128, eighth int64) complex128 {
	switch eighth {
	case 6, 7:
		z = quarter(z)
		fallthrough
	case 4, 5:
		z = parts.Neg(z)
	case 2, 3:
		z = quarter(z)
	}
	return z
}

// quarter turns a number by a quarter.
func quarter(z complex128) complex128 { return complex(-imag(z), real(z)) }

// plain has +0 for each part that is equal to 0.
func plain(z complex128) complex128 { return complex(nought(real(z)), nought(imag(z))) }

func nought(x float64) float64 {
	if x == 0 {
		return 0
	}
	return x
}

// sine is that of y, from 0 to an eighth of a turn.
func sine(y float64) float64 {
	q, constants := float64(y*y), sines()
	h := nested(q, constants[:])
	return y + float64(float64(y*q)*h)
}

// cosine is that of y, from 0 to an eighth of a turn.
func cosine(y float64) float64 {
	q, constants := float64(y*y), cosines()
	h := nested(q, constants[:])
	return 1 + float64(q*h)
}

// nested begins with the first constant; each time what is there is multiplied by q and the next one added. The product is held in a conversion, so that it isn't joined with the sum.
func nested(q float64, constants []float64) float64 {
	h := constants[0]
	for _, c := range constants[1:] {
		h = float64(h*q) + c
	}
	return h
}

// sines are s15 down to s3.
func sines() [7]float64 {
	return [7]float64{
		-1.0 / 1307674368000, 1.0 / 6227020800, -1.0 / 39916800, 1.0 / 362880, -1.0 / 5040, 1.0 / 120, -1.0 / 6,
	}
}

// cosines are c16 down to c2.
func cosines() [8]float64 {
	return [8]float64{
		1.0 / 20922789888000, -1.0 / 87178291200, 1.0 / 479001600, -1.0 / 3628800, 1.0 / 40320, -1.0 / 720, 1.0 / 24, -1.0 / 2,
	}
}
