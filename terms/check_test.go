package terms_test

import (
	"math"
	"slices"
	"strings"
	"testing"

	"middling/api"
	"middling/terms"
	"middling/testhelp"
)

// asks are the arguments of a call; its class is of grade and staple.
type asks struct {
	said, grade, staple int
	grades, staples     api.Span
	month               int
	day                 api.Day
}

func (x asks) class() api.Class { return class(x.grade, x.staple) }

// call is one of the functions, for its errors: takes names what it can find amiss, in order; do tells whether all its other results are zero, with its error.
type call struct {
	name, takes string
	do          func(t api.Terms, x asks) (bool, api.Errno)
}

func noTerms(t api.Terms, e api.Errno) (bool, api.Errno) { return same(t, api.Terms{}), e }

func calls() []call {
	return append(changes(), []call{
		{"Check", "", func(t api.Terms, x asks) (bool, api.Errno) { return true, terms.Check(t) }},
		{"Allows", "grade staple month", func(t api.Terms, x asks) (bool, api.Errno) {
			return testhelp.Zero(terms.Allows(t, x.class(), x.month))
		}},
		{"Invoice", "grade staple class", func(t api.Terms, x asks) (bool, api.Errno) { return testhelp.Zero(terms.Invoice(t, x.class())) }},
		{"Known", "grades staples month", func(t api.Terms, x asks) (bool, api.Errno) {
			return testhelp.Zero(terms.Known(t, x.grades, x.staples, x.month))
		}},
		{"Range", "grades staples some", func(t api.Terms, x asks) (bool, api.Errno) {
			return testhelp.Zero(terms.Range(t, x.grades, x.staples))
		}},
		{"Pays asked", "said grade staple by", func(t api.Terms, x asks) (bool, api.Errno) {
			gets, pays, e := terms.Pays(t, x.said, x.grade, x.staple, true)
			return gets == 0 && pays == 0, e
		}},
		{"Pays", "said grade staple by", func(t api.Terms, x asks) (bool, api.Errno) {
			gets, pays, e := terms.Pays(t, x.said, x.grade, x.staple, false)
			return gets == 0 && pays == 0, e
		}},
		{"Ask", "said grades staple by", func(t api.Terms, x asks) (bool, api.Errno) {
			ask, loss, e := terms.Ask(t, x.said, x.grades, x.staple)
			return !ask && loss == 0, e
		}},
		{"Say", "grades staple long", func(t api.Terms, x asks) (bool, api.Errno) {
			said, gets, e := terms.Say(t, x.grades, x.staple)
			return said == 0 && gets == 0, e
		}},
		{"Cheapest", "day", func(t api.Terms, x asks) (bool, api.Errno) {
			c, n, e := terms.Cheapest(t, x.day)
			return c == api.Class{} && n == 0, e
		}},
		{"Dearer", "day grade staple class", func(t api.Terms, x asks) (bool, api.Errno) {
			return testhelp.Zero(terms.Dearer(t, x.day, x.class()))
		}},
		{"Month", "day", func(t api.Terms, x asks) (bool, api.Errno) {
			m, c, n, e := terms.Month(t, []api.Day{day(510), day(510), x.day})
			return m == 0 && c == api.Class{} && n == 0, e
		}},
		{"Month of few days", "few", func(t api.Terms, x asks) (bool, api.Errno) {
			m, c, n, e := terms.Month(t, []api.Day{x.day, x.day})
			return m == 0 && c == api.Class{} && n == 0, e
		}},
		{"Total", "due grade staple", func(t api.Terms, x asks) (bool, api.Errno) {
			n, l, e := terms.Total(t, x.month, []api.Class{class(4, 5), class(9, 9), x.class()})
			return n == 0 && len(l) == 0, e
		}},
		{"Total of many", "due many", func(t api.Terms, x asks) (bool, api.Errno) {
			n, l, e := terms.Total(t, x.month, slices.Repeat([]api.Class{x.class()}, api.MaxBales+1))
			return n == 0 && len(l) == 0, e
		}},
	}...)
}

// changes are the calls that return terms.
func changes() []call {
	return []call{
		{"Step", "grade", func(t api.Terms, x asks) (bool, api.Errno) {
			pence := 0
			if x.grade > 0 && x.grade <= len(t.Grades) {
				pence = t.Grades[x.grade-1]
			}
			return noTerms(terms.Step(t, x.grade, pence))
		}},
		{"Step too far", "grade far", func(t api.Terms, x asks) (bool, api.Errno) { return noTerms(terms.Step(t, x.grade, 1001)) }},
		{"Rebase", "grade staple class", func(t api.Terms, x asks) (bool, api.Errno) { return noTerms(terms.Rebase(t, x.class())) }},
		{"Join", "", func(t api.Terms, x asks) (bool, api.Errno) { return noTerms(terms.Join(t, t)) }},
		{"Join with the broken one", "far", func(t api.Terms, x asks) (bool, api.Errno) { return noTerms(terms.Join(t, broken())) }},
		{"Join of the broken one", "far", func(t api.Terms, x asks) (bool, api.Errno) { return noTerms(terms.Join(broken(), t)) }},
		{"Split", "", func(t api.Terms, x asks) (bool, api.Errno) {
			a, b, e := terms.Split(t, 1)
			return same(a, api.Terms{}) && same(b, api.Terms{}), e
		}},
		{"Split of none", "few", func(t api.Terms, x asks) (bool, api.Errno) {
			a, b, e := terms.Split(t, 0)
			return same(a, api.Terms{}) && same(b, api.Terms{}), e
		}},
	}
}

// P4.1, R5, R6: what is terms, and what is not.
func TestCheck(t *testing.T) {
	for name, x := range map[string]struct {
		change func(t *api.Terms)
		valid  bool
	}{
		"as it is":                  {func(t *api.Terms) {}, true},
		"no value":                  {func(t *api.Terms) { *t = api.Terms{} }, false},
		"flat":                      {func(t *api.Terms) { *t = flat(1) }, true},
		"the base's grade 0":        {func(t *api.Terms) { t.Base.Grade = 0 }, false},
		"the base's grade below 0":  {func(t *api.Terms) { t.Base.Grade = math.MinInt }, false},
		"the base's grade 10":       {func(t *api.Terms) { t.Base.Grade, t.Worst = 10, 10 }, false},
		"the base's grade great":    {func(t *api.Terms) { t.Base.Grade = math.MaxInt }, false},
		"a base not of 0":           {func(t *api.Terms) { t.Base.Grade = 3 }, false},
		"a base's grade below":      {func(t *api.Terms) { t.Base.Grade = 5 }, false},
		"the base's staple 0":       {func(t *api.Terms) { t.Base.Staple, t.Short = 0, 0 }, false},
		"the base's staple below 0": {func(t *api.Terms) { t.Base.Staple = math.MinInt }, false},
		"the base's staple 10":      {func(t *api.Terms) { t.Base.Staple = 10 }, false},
		"the base's staple great":   {func(t *api.Terms) { t.Base.Staple = math.MaxInt }, false},
		"a base's staple above":     {func(t *api.Terms) { t.Base.Staple = 6 }, false},
		"a base's staple below":     {func(t *api.Terms) { t.Base.Staple = 4 }, false},
		"another grade of 0":        {func(t *api.Terms) { t.Grades[4], t.Base.Grade = 0, 5 }, true},
		"another staple of 0":       {func(t *api.Terms) { t.Staples[5], t.Base.Staple = 0, 6 }, true},
		"no price":                  {func(t *api.Terms) { t.Price = 0 }, false},
		"a price below 0":           {func(t *api.Terms) { t.Price = math.MinInt }, false},
		"the worst at 0":            {func(t *api.Terms) { t.Price = 75 }, false},
		"the worst at 1":            {func(t *api.Terms) { t.Price = 76 }, true},
		"flat at 0":                 {func(t *api.Terms) { *t = flat(0) }, false},
		"a price of a million":      {func(t *api.Terms) { t.Price = 1000000 }, true},
		"a price above":             {func(t *api.Terms) { t.Price = 1000001 }, false},
		"a great price":             {func(t *api.Terms) { t.Price = math.MaxInt }, false},
		"worst is better":           {func(t *api.Terms) { t.Worst = 3 }, false},
		"worst is the base's":       {func(t *api.Terms) { t.Worst = 4 }, true},
		"worst is 9":                {func(t *api.Terms) { t.Worst = 9 }, true},
		"worst is 10":               {func(t *api.Terms) { t.Worst = 10 }, false},
		"worst is below 0":          {func(t *api.Terms) { t.Worst = math.MinInt }, false},
		"worst is great":            {func(t *api.Terms) { t.Worst = math.MaxInt }, false},
		"short is 0":                {func(t *api.Terms) { t.Short = 0 }, false},
		"short is 1":                {func(t *api.Terms) { t.Short = 1 }, true},
		"short is the base's":       {func(t *api.Terms) { t.Short = 5 }, true},
		"short is longer":           {func(t *api.Terms) { t.Short = 6 }, false},
		"short is below 0":          {func(t *api.Terms) { t.Short = math.MinInt }, false},
		"short is great":            {func(t *api.Terms) { t.Short = math.MaxInt }, false},
		"eight grades":              {func(t *api.Terms) { t.Grades = t.Grades[:8] }, false},
		"ten grades":                {func(t *api.Terms) { t.Grades = append(t.Grades, -300) }, false},
		"no grade":                  {func(t *api.Terms) { t.Grades = nil }, false},
		"an empty list of grades":   {func(t *api.Terms) { t.Grades = ints() }, false},
		"a grade of 1000":           {func(t *api.Terms) { t.Grades[0] = 1000 }, true},
		"a grade of 1001":           {func(t *api.Terms) { t.Grades[0] = 1001 }, false},
		"a great grade":             {func(t *api.Terms) { t.Grades[0] = math.MaxInt }, false},
		"a grade of -1000":          {func(t *api.Terms) { t.Grades[8] = -1000 }, true},
		"a grade of -1001":          {func(t *api.Terms) { t.Grades[8] = -1001 }, false},
		"a grade far below 0":       {func(t *api.Terms) { t.Grades[8] = math.MinInt }, false},
		"a grade above":             {func(t *api.Terms) { t.Grades[2] = 46 }, false},
		"a grade as the one before": {func(t *api.Terms) { t.Grades[2] = 45 }, true},
		"the second grade above":    {func(t *api.Terms) { t.Grades[1] = 61 }, false},
		"the last grade above":      {func(t *api.Terms) { t.Grades[8] = -159 }, false},
		"grades the wrong way":      {func(t *api.Terms) { slices.Reverse(t.Grades) }, false},
		"eight staples":             {func(t *api.Terms) { t.Staples = t.Staples[:8] }, false},
		"ten staples":               {func(t *api.Terms) { t.Staples = append(t.Staples, 30) }, false},
		"no staple":                 {func(t *api.Terms) { t.Staples = nil }, false},
		"a staple of -1000":         {func(t *api.Terms) { t.Staples[0] = -1000 }, true},
		"a staple of -1001":         {func(t *api.Terms) { t.Staples[0] = -1001 }, false},
		"a staple of 1000":          {func(t *api.Terms) { t.Staples[8] = 1000 }, true},
		"a staple of 1001":          {func(t *api.Terms) { t.Staples[8] = 1001 }, false},
		"a great staple":            {func(t *api.Terms) { t.Staples[8] = math.MaxInt }, false},
		"a staple below":            {func(t *api.Terms) { t.Staples[8] = 29 }, false},
		"the second staple below":   {func(t *api.Terms) { t.Staples[1] = -91 }, false},
		"staples the wrong way":     {func(t *api.Terms) { slices.Reverse(t.Staples) }, false},
		"both tables the wrong way": {func(t *api.Terms) { slices.Reverse(t.Grades); slices.Reverse(t.Staples) }, false},
		"due at all times":          {func(t *api.Terms) { t.Due = span(0, 60) }, true},
		"due in the month 0":        {func(t *api.Terms) { t.Due = span(0, 0) }, true},
		"due in the month 60":       {func(t *api.Terms) { t.Due = span(60, 60) }, true},
		"due before":                {func(t *api.Terms) { t.Due = span(-1, 60) }, false},
		"due after":                 {func(t *api.Terms) { t.Due = span(0, 61) }, false},
		"due in the month 61":       {func(t *api.Terms) { t.Due = span(61, 61) }, false},
		"due the wrong way":         {func(t *api.Terms) { t.Due = span(9, 8) }, false},
		"due in great months":       {func(t *api.Terms) { t.Due = span(math.MinInt, math.MaxInt) }, false},
		"no bale":                   {func(t *api.Terms) { t.Bales = 0 }, false},
		"one bale":                  {func(t *api.Terms) { t.Bales = 1 }, true},
		"bales below 0":             {func(t *api.Terms) { t.Bales = math.MinInt }, false},
		"20 bales":                  {func(t *api.Terms) { t.Bales = 20 }, true},
		"21 bales":                  {func(t *api.Terms) { t.Bales = 21 }, false},
		"great bales":               {func(t *api.Terms) { t.Bales = math.MaxInt }, false},
		"no fee":                    {func(t *api.Terms) { t.Fee = 0 }, true},
		"a fee below 0":             {func(t *api.Terms) { t.Fee = -1 }, false},
		"a fee of 1000":             {func(t *api.Terms) { t.Fee = 1000 }, true},
		"a fee of 1001":             {func(t *api.Terms) { t.Fee = 1001 }, false},
		"a great fee":               {func(t *api.Terms) { t.Fee = math.MaxInt }, false},
	} {
		y := changed(x.change)
		want := api.OK
		if !x.valid {
			want = api.ErrTerms
		}
		if e := terms.Check(y); e != want {
			t.Error(name, e)
		}
		for _, c := range calls() {
			// The month is one that cannot be, so that no other error comes before that of the terms.
			is, e := c.do(y, asks{said: -1, grade: -1, month: -1})
			if !x.valid && (e != api.ErrTerms || !is) || x.valid && e == api.ErrTerms && !strings.HasPrefix(c.name, "Join") {
				t.Error(name, c.name, is, e)
			}
		}
	}
}

// P4.1, P4.6, R5: what is a day, and what is not.
func TestDayIsValid(t *testing.T) {
	for name, x := range map[string]struct {
		change func(d *api.Day)
		valid  bool
	}{
		"as it is":            {func(d *api.Day) {}, true},
		"no value":            {func(d *api.Day) { *d = api.Day{} }, false},
		"all at 0":            {func(d *api.Day) { *d = api.Day{Grades: make([]int, 9), Staples: make([]int, 9)} }, true},
		"a class at 0":        {func(d *api.Day) { d.Price = 280 }, true},
		"a class below 0":     {func(d *api.Day) { d.Price = 279 }, false},
		"another one below 0": {func(d *api.Day) { d.Grades[3], d.Staples[3] = -200, -311 }, false},
		"another one at 0":    {func(d *api.Day) { d.Grades[3], d.Staples[3] = -200, -310 }, true},
		"below 0 by a grade":  {func(d *api.Day) { d.Grades[0] = -431 }, false},
		"a price below 0":     {func(d *api.Day) { d.Price = -1; d.Grades, d.Staples = slices.Repeat(ints(9), 9), make([]int, 9) }, false},
		"a price of 0":        {func(d *api.Day) { d.Price = 0; d.Grades, d.Staples = slices.Repeat(ints(9), 9), make([]int, 9) }, true},
		"a price of least":    {func(d *api.Day) { d.Price = math.MinInt }, false},
		"a price of 1000000":  {func(d *api.Day) { d.Price = 1000000 }, true},
		"a price of 1000001":  {func(d *api.Day) { d.Price = 1000001 }, false},
		"a great price":       {func(d *api.Day) { d.Price = math.MaxInt }, false},
		"eight grades":        {func(d *api.Day) { d.Grades = d.Grades[:8] }, false},
		"ten grades":          {func(d *api.Day) { d.Grades = append(d.Grades, 0) }, false},
		"no grade":            {func(d *api.Day) { d.Grades = nil }, false},
		"eight staples":       {func(d *api.Day) { d.Staples = d.Staples[:8] }, false},
		"ten staples":         {func(d *api.Day) { d.Staples = append(d.Staples, 0) }, false},
		"no staple":           {func(d *api.Day) { d.Staples = nil }, false},
		"a grade of 1000":     {func(d *api.Day) { d.Grades[8] = 1000 }, true},
		"a grade of 1001":     {func(d *api.Day) { d.Grades[8] = 1001 }, false},
		"a grade of -1000":    {func(d *api.Day) { d.Price, d.Grades[0] = 2000, -1000 }, true},
		"a grade of -1001":    {func(d *api.Day) { d.Price, d.Grades[0] = 2000, -1001 }, false},
		"a great grade":       {func(d *api.Day) { d.Grades[2] = math.MaxInt }, false},
		"a staple of 1000":    {func(d *api.Day) { d.Staples[0] = 1000 }, true},
		"a staple of 1001":    {func(d *api.Day) { d.Staples[0] = 1001 }, false},
		"a staple of -1000":   {func(d *api.Day) { d.Price, d.Staples[8] = 2000, -1000 }, true},
		"a staple of -1001":   {func(d *api.Day) { d.Price, d.Staples[8] = 2000, -1001 }, false},
		"a least staple":      {func(d *api.Day) { d.Staples[4] = math.MinInt }, false},
		"not in order":        {func(d *api.Day) { slices.Reverse(d.Grades); slices.Reverse(d.Staples) }, true},
	} {
		d := day(510)
		x.change(&d)
		want := api.OK
		if !x.valid {
			want = api.ErrDay
		}
		_, _, e := terms.Cheapest(example(), d)
		_, f := terms.Dearer(example(), d, class(4, 5))
		if e != want || f != want {
			t.Error(name, e, f)
		}
		for at := range 3 {
			l := days(510, 510, 510)
			l[at] = d
			if _, _, _, e := terms.Month(example(), l); e != want {
				t.Error(name, at, e)
			}
		}
	}
}

// P4.1, R1, R2: errors in their order, with zero values.
func TestErrorsInOrder(t *testing.T) {
	for _, c := range calls() {
		for _, x := range everyAsk() {
			for _, y := range []api.Terms{example(), broken()} {
				want := wanted(c, x)
				if !same(y, example()) {
					want = api.ErrTerms
				}
				if is, e := c.do(y, x); e != want || e != api.OK && !is {
					t.Error(c.name, x, is, e, want)
				}
			}
		}
	}
}

// everyAsk returns arguments of which some are valid.
func everyAsk() []asks {
	var l []asks
	for _, said := range ints(4, 7, 0, 10, math.MinInt) {
		for _, grade := range ints(6, 7, 0, math.MaxInt) {
			for _, staple := range ints(4, 3, 0, 10, math.MinInt) {
				for _, grades := range []api.Span{span(5, 7), span(7, 9), span(0, 6), span(6, 10), span(5, 4), span(math.MinInt, math.MaxInt)} {
					for _, staples := range []api.Span{span(1, 5), span(1, 3), span(-1, 5), span(9, 10), span(9, 8), span(math.MinInt, math.MaxInt)} {
						for _, month := range ints(9, 11, 60, -1, 61, math.MaxInt) {
							l = append(l, asks{said, grade, staple, grades, staples, month, day(510)}, asks{said, grade, staple, grades, staples, month, short()})
						}
					}
				}
			}
		}
	}
	return l
}

// wanted is the error of a call on the terms of the examples, by the sentences of P4.1 and those of the call.
func wanted(c call, x asks) api.Errno {
	no := func(s api.Span) bool { return s.Lo > s.Hi || s.Lo < 1 || s.Hi > 9 }
	for _, word := range strings.Fields(c.takes) {
		switch {
		case word == "day" && len(x.day.Grades) < 9:
			return api.ErrDay
		case word == "said" && (x.said < 1 || x.said > 9), word == "grade" && (x.grade < 1 || x.grade > 9), word == "grades" && no(x.grades):
			return api.ErrGrade
		case word == "staple" && (x.staple < 1 || x.staple > 9), word == "staples" && no(x.staples):
			return api.ErrStaple
		case word == "month" && (x.month < 0 || x.month > 60), word == "due" && (x.month < 8 || x.month > 10):
			return api.ErrMonth
		case word == "class" && (x.grade > 6 || x.staple < 4), word == "by" && (x.said > 6 || x.staple < 4), word == "some" && (x.grades.Lo > 6 || x.staples.Hi < 4), word == "long" && x.staple < 4:
			return api.ErrNone
		case word == "many":
			return api.ErrMany
		case word == "few":
			return api.ErrArg
		case word == "far":
			return api.ErrTerms
		}
	}
	return api.OK
}
