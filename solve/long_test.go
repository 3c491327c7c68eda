package solve_test

import (
	"slices"
	"testing"

	"slackwater/api"
)

// P22.2 and P22.3: what is too long on the way. The longest that fits is 2 to the power 65,535 above or below, 32,767 where its square is made.

// outcome is what Solve, Det and Rank answer of a matrix and its right side.
type outcome struct {
	m                [][]api.Gauss
	r                []api.Gauss
	solve, det, rank api.Errno
}

const (
	ok       = api.OK
	tooLong  = api.ErrLong
	singular = api.ErrSingular
)

// holds looks whether the three calls answer what the cases say, and what the chapter's words come to.
func holds(t *testing.T, cases map[string]outcome) {
	t.Helper()
	for key, c := range cases {
		got := as(t, key, c.m, c.r, "Solve", "Det", "Rank")
		want := map[string]api.Errno{"Solve": c.solve, "Det": c.det, "Rank": c.rank}
		for name, e := range want {
			if got[name] != e {
				t.Errorf("%s, %s: %v, not %v", name, key, got[name], e)
			}
		}
	}
}

// twoByTwo makes a matrix of four numbers.
func twoByTwo(a, b, c, d api.Gauss) [][]api.Gauss { return [][]api.Gauss{{a, b}, {c, d}} }

func TestFactors(t *testing.T) {
	one, nought := z(1, 0), z(0, 0)
	r := []api.Gauss{nought, nought}
	holds(t, map[string]outcome{
		"a pivot's square":                 {diagonal(re(wide(32767)), one), r, ok, ok, ok},
		"too long, though over it is 0":    {diagonal(re(wide(32768)), one), r, tooLong, tooLong, tooLong},
		"an Im's square":                   {diagonal(im(wide(32767)), one), r, ok, ok, ok},
		"an Im's square too long":          {diagonal(im(wide(32768)), one), r, tooLong, tooLong, tooLong},
		"a square below":                   {diagonal(re(under(32767)), one), r, ok, ok, ok},
		"a square below too long":          {diagonal(re(under(32768)), one), r, tooLong, tooLong, tooLong},
		"both squares together":            {diagonal(g(under(20000), odd(500)), one), r, tooLong, tooLong, tooLong},
		"both squares apart":               {diagonal(g(under(10000), odd(500)), one), r, ok, ok, ok},
		"the last row's, that is backward": {diagonal(one, re(wide(32768))), r, tooLong, ok, ok},
		"the last row's fits":              {diagonal(one, re(wide(32767))), r, ok, ok, ok},
		"one row's":                        {diagonal(re(wide(65535))), r[:1], tooLong, ok, ok},
		"one row's fits":                   {diagonal(im(under(32767))), r[:1], ok, ok, ok},
		"a factor":                         {twoByTwo(re(under(32767)), nought, re(wide(32768)), one), r, ok, ok, ok},
		"a factor too long":                {twoByTwo(re(under(32767)), nought, re(wide(32769)), one), r, tooLong, tooLong, tooLong},
		"a factor below":                   {twoByTwo(re(wide(32767)), nought, re(under(32768)), one), r, ok, ok, ok},
		"a factor below too long":          {twoByTwo(re(wide(32767)), nought, re(under(32769)), one), r, tooLong, tooLong, tooLong},
		"a factor's product below":         {twoByTwo(re(under(1)), nought, re(under(65535)), one), r, tooLong, tooLong, tooLong},
		"a factor's Im":                    {twoByTwo(re(under(32767)), nought, im(wide(32769)), one), r, tooLong, tooLong, tooLong},
		"the third row's factor too long":  {[][]api.Gauss{{re(under(32767)), nought, nought}, {nought, one, nought}, {re(wide(32769)), nought, one}}, []api.Gauss{nought, nought, nought}, tooLong, tooLong, tooLong},
	})
}

func TestProductsAndDifferences(t *testing.T) {
	one, nought := z(1, 0), z(0, 0)
	half, top, low := re(wide(32768)), re(wide(65535)), re(less(65535))
	r := []api.Gauss{nought, nought}
	three := []api.Gauss{nought, nought, nought}
	holds(t, map[string]outcome{
		"a product":                     {twoByTwo(one, half, re(wide(32767)), nought), r, tooLong, ok, ok},
		"a product too long":            {twoByTwo(one, half, half, nought), r, tooLong, tooLong, tooLong},
		"an Im's product too long":      {twoByTwo(one, im(wide(32768)), half, nought), r, tooLong, tooLong, tooLong},
		"a product below too long":      {twoByTwo(one, re(under(32768)), re(under(32768)), one), r, tooLong, tooLong, tooLong},
		"a difference":                  {twoByTwo(one, top, one, top), r, singular, ok, ok},
		"a difference too long":         {twoByTwo(one, top, one, low), r, tooLong, tooLong, tooLong},
		"an Im's difference too long":   {twoByTwo(one, im(wide(65535)), one, im(less(65535))), r, tooLong, tooLong, tooLong},
		"the right side's product":      {twoByTwo(one, nought, z(2, 0), one), []api.Gauss{re(wide(65534)), nought}, ok, ok, ok},
		"the right side's, too long":    {twoByTwo(one, nought, z(2, 0), one), []api.Gauss{top, nought}, tooLong, ok, ok},
		"the right side's difference":   {twoByTwo(one, nought, one, one), []api.Gauss{top, top}, ok, ok, ok},
		"too long a difference there":   {twoByTwo(one, nought, one, one), []api.Gauss{top, low}, tooLong, ok, ok},
		"the last place behind":         {[][]api.Gauss{{one, nought, top}, {nought, one, nought}, {one, nought, low}}, three, tooLong, tooLong, tooLong},
		"the first place behind":        {[][]api.Gauss{{one, top, nought}, {nought, one, nought}, {one, low, one}}, three, tooLong, tooLong, tooLong},
		"the second column's":           {[][]api.Gauss{{one, nought, nought}, {nought, one, top}, {nought, one, low}}, three, tooLong, tooLong, tooLong},
		"what is 0 is still taken off":  {[][]api.Gauss{{one, top, top}, {nought, one, nought}, {nought, nought, re(under(1))}}, three, ok, ok, ok},
		"too long on the way, then not": {[][]api.Gauss{{one, nought, low}, {nought, one, top}, {one, one, one}}, three, ok, ok, ok},
		"the other way round, too":      {[][]api.Gauss{{one, nought, low}, {nought, one, low}, {one, one, one}}, three, tooLong, tooLong, tooLong},
	})
}

// Which of a column without a pivot and what is too long comes first.
func TestTooLongOrSingular(t *testing.T) {
	one, nought := z(1, 0), z(0, 0)
	half, top, low := re(wide(32768)), re(wide(65535)), re(less(65535))
	r := []api.Gauss{nought, nought}
	holds(t, map[string]outcome{
		"too long ahead of it":              {twoByTwo(half, nought, nought, nought), r, tooLong, tooLong, tooLong},
		"behind it":                         {twoByTwo(nought, half, nought, one), r, singular, ok, tooLong},
		"behind it, all fits":               {twoByTwo(nought, re(wide(32767)), nought, one), r, singular, ok, ok},
		"the right side's, ahead of it":     {twoByTwo(one, one, one, one), []api.Gauss{top, low}, tooLong, ok, ok},
		"the right side's, behind it":       {twoByTwo(nought, one, nought, one), []api.Gauss{top, low}, singular, ok, ok},
		"backward, all ahead fits":          {twoByTwo(re(under(3)), one, re(under(3)), one), []api.Gauss{top, top}, singular, ok, ok},
		"in the last row alone":             {twoByTwo(nought, nought, nought, top), r, singular, ok, tooLong},
		"one row, its last number":          {[][]api.Gauss{{top}}, []api.Gauss{nought}, tooLong, ok, ok},
		"the third column's, in between":    {[][]api.Gauss{{one, nought, nought}, {nought, nought, half}, {nought, nought, one}}, []api.Gauss{one, one, one}, singular, ok, tooLong},
		"in the second column, it is third": {[][]api.Gauss{{one, nought, nought}, {nought, half, nought}, {nought, one, nought}}, []api.Gauss{one, one, one}, tooLong, tooLong, tooLong},
	})
}

// The first row from the column's own on whose number is not 0, and no other one, changes places with it; the others stay.
func TestWhichRowIsThePivots(t *testing.T) {
	one, nought, half := z(1, 0), z(0, 0), re(wide(32768))
	r, three := []api.Gauss{one, nought}, []api.Gauss{one, nought, one}
	holds(t, map[string]outcome{
		"the first, and it is too long":       {twoByTwo(half, one, one, nought), r, tooLong, tooLong, tooLong},
		"the first, not a later one":          {twoByTwo(one, nought, half, one), r, ok, ok, ok},
		"the second, and it is too long":      {[][]api.Gauss{{nought, one, nought}, {half, nought, one}, {one, nought, nought}}, three, tooLong, tooLong, tooLong},
		"the second, not the third":           {[][]api.Gauss{{nought, one, nought}, {one, nought, nought}, {half, nought, one}}, three, ok, ok, ok},
		"a least one is not 0":                {twoByTwo(re(under(32768)), one, one, nought), r, tooLong, tooLong, tooLong},
		"an Im that is not 0":                 {twoByTwo(im(wide(32768)), one, one, nought), r, tooLong, tooLong, tooLong},
		"the first and the third change":      {[][]api.Gauss{{nought, half, nought}, {nought, one, nought}, {one, nought, one}}, three, singular, ok, ok},
		"so the second stays ahead":           {[][]api.Gauss{{nought, half, one}, {nought, one, nought}, {one, nought, one}}, three, ok, ok, ok},
		"the second behind what went":         {[][]api.Gauss{{nought, one, nought}, {nought, half, one}, {one, nought, one}}, three, tooLong, tooLong, tooLong},
		"a number that comes to 0 is none":    {[][]api.Gauss{{one, one, nought}, {one, one, one}, {one, z(2, 0), re(wide(40000))}}, three, ok, ok, ok},
		"a number that doesn't come to it":    {[][]api.Gauss{{one, one, nought}, {one, re(wide(40000)), one}, {one, one, one}}, three, tooLong, tooLong, tooLong},
		"the right side goes along":           {twoByTwo(nought, one, one, nought), []api.Gauss{re(wide(65535)), nought}, ok, ok, ok},
		"in Rank, the same row once more on":  {[][]api.Gauss{{nought, nought, one}, {nought, half, nought}, {nought, nought, one}}, three, singular, ok, tooLong},
		"in Rank, below the last pivot's row": {[][]api.Gauss{{one, one, half}, {one, one, half}, {one, one, one}}, three, singular, ok, ok},
	})
}

func TestBackwardTooLong(t *testing.T) {
	one, nought := z(1, 0), z(0, 0)
	top, low := re(wide(65535)), re(less(65535))
	holds(t, map[string]outcome{
		"a product":                    {twoByTwo(one, z(2, 0), nought, one), []api.Gauss{nought, re(wide(65534))}, ok, ok, ok},
		"a product too long":           {twoByTwo(one, z(2, 0), nought, one), []api.Gauss{nought, top}, tooLong, ok, ok},
		"a difference":                 {twoByTwo(one, one, nought, one), []api.Gauss{top, top}, ok, ok, ok},
		"a difference too long":        {twoByTwo(one, one, nought, one), []api.Gauss{low, top}, tooLong, ok, ok},
		"the last quotient":            {diagonal(one, re(under(1))), []api.Gauss{nought, re(wide(65534))}, ok, ok, ok},
		"the last quotient too long":   {diagonal(one, re(under(1))), []api.Gauss{nought, top}, tooLong, ok, ok},
		"the first quotient too long":  {diagonal(re(under(1)), one), []api.Gauss{top, nought}, tooLong, ok, ok},
		"a product over the pivot":     {diagonal(one, z(2, 0)), []api.Gauss{nought, re(wide(65534))}, ok, ok, ok},
		"too long ahead of the square": {diagonal(one, z(2, 0)), []api.Gauss{nought, top}, tooLong, ok, ok},
		"from the left, too long":      {[][]api.Gauss{{one, one, one}, {nought, one, nought}, {nought, nought, one}}, []api.Gauss{top, low, top}, tooLong, ok, ok},
		"from the left, not":           {[][]api.Gauss{{one, one, one}, {nought, one, nought}, {nought, nought, one}}, []api.Gauss{top, top, low}, ok, ok, ok},
		"the right side is the first":  {[][]api.Gauss{{one, one, one}, {nought, one, nought}, {nought, nought, one}}, []api.Gauss{low, low, low}, ok, ok, ok},
		"both taken off too long":      {[][]api.Gauss{{one, one, one}, {nought, one, nought}, {nought, nought, one}}, []api.Gauss{nought, top, top}, tooLong, ok, ok},
		"the second row's":             {[][]api.Gauss{{one, nought, nought}, {nought, one, one}, {nought, nought, one}}, []api.Gauss{nought, low, top}, tooLong, ok, ok},
	})
}

func TestProductOfPivots(t *testing.T) {
	a, b, four, quarter := re(wide(32767)), re(wide(32768)), z(4, 0), re(q(1, 4))
	sides := make([]api.Gauss, 4)
	for k := range sides {
		sides[k] = z(1, 0)
	}
	holds(t, map[string]outcome{
		"two":                        {diagonal(a, b), sides[:2], tooLong, ok, ok},
		"two too long":               {diagonal(a, re(wide(32769))), sides[:2], tooLong, tooLong, ok},
		"two, changed about":         {twoByTwo(z(0, 0), b, a, z(0, 0)), sides[:2], tooLong, ok, ok},
		"two Im too long":            {diagonal(im(wide(32767)), im(wide(32769))), sides[:2], tooLong, tooLong, ok},
		"three":                      {diagonal(a, a, z(2, 0)), sides[:3], ok, ok, ok},
		"three too long":             {diagonal(a, a, four), sides[:3], ok, tooLong, ok},
		"in their order too long":    {diagonal(a, a, four, quarter), sides, ok, tooLong, ok},
		"in their order not":         {diagonal(a, a, quarter, four), sides, ok, ok, ok},
		"nor from the front on":      {diagonal(four, quarter, a, a), sides, ok, ok, ok},
		"too long at the third":      {diagonal(four, a, a, quarter), sides, ok, tooLong, ok},
		"below too long":             {diagonal(re(under(32767)), re(under(32767)), quarter), sides[:3], ok, tooLong, ok},
		"no product without a pivot": {diagonal(a, a, four, z(0, 0)), sides, singular, ok, ok},
	})
	// As the rows stand when all have changed places: the second, the first, the fourth, the third.
	m := diagonal(quarter, four, a, a)
	m[0], m[1], m[2], m[3] = m[1], m[0], m[3], m[2]
	slices.Reverse(m)
	holds(t, map[string]outcome{"behind changes": {m, sides, ok, ok, ok}})
}

// long throws a number with a long part.
func (d *dice) long() api.Gauss {
	part := func() api.Ratio {
		switch k := d.below(40000); d.below(6) {
		case 0:
			return wide(k)
		case 1:
			return under(k)
		case 2:
			return r(true, ints(1), full(1+k/64, 1<<32-1))
		case 3:
			return r(false, full(1+k/64, 1<<32-1), two(k/4))
		}
		return d.fraction()
	}
	return g(part(), part())
}

func TestLongThrown(t *testing.T) {
	d := dice(226)
	count := map[string]map[api.Errno]int{"Solve": {}, "Det": {}, "Rank": {}, "Times": {}}
	for range 60 {
		k := 1 + d.below(3)
		m, l := d.smallRows(k, k), d.smalls(k)
		for range 1 + d.below(2) {
			m[d.below(k)][d.below(k)] = d.long()
		}
		if d.below(3) == 0 {
			l[d.below(k)] = d.long()
		}
		if d.below(3) == 0 {
			m[k-1] = slices.Clone(m[0])
		}
		for name, e := range as(t, "thrown, long", m, l, "Solve", "Det", "Rank", "Times") {
			count[name][e]++
		}
	}
	for name, told := range count {
		if name != "Times" && told[api.ErrLong] < 5 || told[api.OK] < 5 || name == "Solve" && told[api.ErrSingular] < 5 {
			t.Errorf("%s answered %v", name, told)
		}
	}
}

// Eight rows of eight: the numbers grow from column to column. Of a few words they all fit; of some more the Det still does, but not what Solve makes backward.
func TestEightRowsThatGrow(t *testing.T) {
	d := dice(227)
	for words, want := range map[int]api.Errno{1: ok, 4: tooLong} {
		m, l := hollowed(8), d.numbers(8)
		for _, row := range m {
			for k := range row {
				row[k] = g(d.wordsOver(words), d.wordsOver(words))
			}
		}
		if told := as(t, "eight rows that grow", m, l, "Solve", "Det"); told["Solve"] != want || told["Det"] != ok {
			t.Errorf("of %d words: %v", words, told)
		}
	}
}
