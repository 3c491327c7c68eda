package clock

import "slackwater/api"

// The years of the tick 0 and of the last one.
const (
	firstYear = 2000
	lastYear  = 2119
)

// Date tells a tick's date.
func Date(t int) (api.Date, api.Errno) {
	day, hour, e := Of(t)
	if e != api.OK {
		return api.Date{}, e
	}
	d := api.Date{Year: firstYear, Month: 1, Hour: hour}
	for ; day >= yearDays(d.Year); d.Year++ {
		day -= yearDays(d.Year)
	}
	for ; day >= monthDays(d.Year, d.Month); d.Month++ {
		day -= monthDays(d.Year, d.Month)
	}
	d.Day = day + 1
	return d, api.OK
}

// From tells a date's tick.
func From(d api.Date) (int, api.Errno) {
	// Other years' dates have no tick; kept out here, so that the loop is short.
	if d.Year < firstYear || d.Year > lastYear {
		return 0, api.ErrArg
	}
	if d.Day < 1 || d.Day > monthDays(d.Year, d.Month) {
		return 0, api.ErrArg
	}
	day := d.Day - 1
	for year := firstYear; year < d.Year; year++ {
		day += yearDays(year)
	}
	for month := 1; month < d.Month; month++ {
		day += monthDays(d.Year, month)
	}
	return At(day, d.Hour)
}

func yearDays(year int) int {
	if leap(year) {
		return 366
	}
	return 365
}

// monthDays is 0 for a month that there is not, so that none of its days is one.
func monthDays(year, month int) int {
	switch month {
	case 1, 3, 5, 7, 8, 10, 12:
		return 31
	case 4, 6, 9, 11:
		return 30
	case 2:
		if leap(year) {
			return 29
		}
		return 28
	}
	return 0
}

func leap(year int) bool {
	return year%4 == 0 && year%100 != 0 || year%400 == 0
}
