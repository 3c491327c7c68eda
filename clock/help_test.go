package clock_test

import (
	"math"
	"time"

	"slackwater/api"
)

const top = api.MaxTick

// beyond are numbers that are no ticks.
func beyond() []int {
	return []int{-1, -2, -24, -25, top + 1, top + 2, top + 24, 2 * top, 1 << 31, 1 << 32, 1<<32 + 5, 1 << 62, -1 << 31, -1 << 32, -1 << 62, math.MaxInt, math.MaxInt - 1, math.MinInt, math.MinInt + 1}
}

// on writes a date.
func on(year, month, day, hour int) api.Date {
	return api.Date{Year: year, Month: month, Day: day, Hour: hour}
}

// moment is a tick by the library's calendar.
func moment(t int) time.Time {
	return time.Date(2000, 1, 1, t, 0, 0, 0, time.UTC)
}

// dated is a moment's date.
func dated(m time.Time) api.Date {
	return on(m.Year(), int(m.Month()), m.Day(), m.Hour())
}
