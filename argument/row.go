package argument

import "slackwater/api"

// row is an angle of the table: its name, its units at the tick 0, and those that a tick adds.
type row struct {
	name  string
	first int64
	step  int64
}

func rows() [api.MaxAngles]row {
	return [api.MaxAngles]row{
		{"lunar", 31648000, 144920521},
		{"moon", 2770247000, 5490165},
		{"sun", 2801895000, 410686},
		{"perigee", 3343853000, 46418},
		{"node", 1008432000, 22064},
		{"perihelion", 2812209000, 20},
	}
}

// find tells the row of an angle; ErrArg, if there is none.
func find(k int) (row, api.Errno) {
	if k < 0 || k >= api.MaxAngles {
		return row{}, api.ErrArg
	}
	return rows()[k], api.OK
}

// units tells the angle at a tick that there is: the product is below 2^48, so an int64 holds the sum ahead of its turns being taken off.
func (r row) units(tick int) int64 {
	return (r.first + int64(tick)*r.step) % api.Circle
}

// Name tells an angle's name; an empty text, if there is no such angle.
func Name(k int) string {
	r, _ := find(k)
	return r.name
}

// Find tells the angle of a name.
func Find(name string) (int, bool) {
	for k, r := range rows() {
		if r.name == name {
			return k, true
		}
	}
	return 0, false
}
