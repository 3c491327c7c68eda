package clean

import (
	"slackwater/api"
	"slackwater/record"
)

// Fill tells the samples that are one, and puts a straight line into each gap of at most MaxGap ticks between two of them.
func Fill(l []api.Sample) ([]api.Sample, api.Errno) {
	ones, e := onesRising(l)
	if e != api.OK {
		return nil, e
	}
	var filled []api.Sample
	for i, s := range ones {
		if i > 0 {
			filled = appendLine(filled, ones[i-1], s)
		}
		filled = append(filled, s)
	}
	// Ahead of the length: what is not finite goes first.
	for _, s := range filled {
		if !isOne(s.Height) {
			return nil, api.ErrOver
		}
	}
	if len(filled) > api.MaxRecord {
		return nil, api.ErrLong
	}
	return filled, api.OK
}

// onesRising tells those of samples that are one, or why the list is refused. Of a short list that rises a record refuses nothing but what is no tick.
func onesRising(l []api.Sample) ([]api.Sample, api.Errno) {
	if len(l) > api.MaxRecord {
		return nil, api.ErrLong
	}
	if !Rising(l) {
		return nil, api.ErrArg
	}
	r, f := record.From(l)
	if f.Err != api.OK {
		return nil, f.Err
	}
	return r.Samples(), api.OK
}

// appendLine adds what stands on the line between two samples, at each tick between them; nothing, if these are too many.
func appendLine(l []api.Sample, from, to api.Sample) []api.Sample {
	if to.Tick-from.Tick-1 > api.MaxGap {
		return l
	}
	for t := from.Tick + 1; t < to.Tick; t++ {
		l = append(l, api.Sample{Tick: t, Height: onLine(from, to, t)})
	}
	return l
}

// onLine rounds each step by itself; it is not finite where the difference of the heights is not.
func onLine(from, to api.Sample, tick int) float64 {
	rise := float64(to.Height - from.Height)
	part := float64(float64(tick-from.Tick) / float64(to.Tick-from.Tick))
	return float64(from.Height + float64(rise*part))
}
