package season

import (
	"slices"
	"testing"

	"middling/api"
	"middling/testhelp"
)

// small has one thing in each list but those of sales, passes and pledges, and a thing that is true.
func small() api.Season {
	return api.Season{
		Desk: api.Desk{
			Room:     api.Room{Months: 1, Step: 2, Ages: []api.Span{{Lo: 3, Hi: 4}}, Boxes: []api.Box{{Id: 5, Made: 6}}, Matches: []api.Match{{Number: 7, Month: 8, A: 9, B: 10, By: api.Span{Lo: -11, Hi: 12}}}},
			Lean:     13,
			Bales:    []int{14, 15},
			Classers: []int{16},
			Looks:    []api.Look{{Number: 17, Classer: 18, Bale: 19, Month: 20, Box: 21, Said: 22}},
		},
		Chain: api.Chain{Houses: []int{23}, Sales: []api.Sale{{Number: 24, Seller: 25, Buyer: 26, Bales: 27, Price: 28}}},
		House: api.Warehouse{
			Stacks: []api.Stack{{Id: 29, Row: 30}, {Id: 31, Row: 32, Bales: []int{33}}},
			Owners: []api.Owned{{Bale: 34, Owner: 35}},
			Moves:  []api.Move{{Day: 36, Bale: 37, To: 38}},
			Rain:   []int{39},
			Found:  []api.Found{{Number: 40, Bale: 41, Wet: true}, {Number: 42, Bale: 43}},
		},
		Papers: api.Papers{
			Days:    44,
			Papers:  []api.Paper{{Id: 45, Bale: 46, Holder: 47}},
			Passes:  []api.Pass{{Number: 48, Paper: 49, From: 50, To: 51, When: api.Span{Lo: 52, Hi: 53}}},
			Pledges: []api.Pledge{{Number: 54, Paper: 55, By: 56, Bank: 57, From: api.Span{Lo: 58, Hi: 59}, Until: api.Span{Lo: 60, Hi: 61}}},
		},
	}
}

// The numbers of a season come in the order of its file, may be left after any of them, and leave it as it is.
func TestNumbers(t *testing.T) {
	want := []int{1, 2, 1, 3, 4, 1, 5, 6, 1, 7, 8, 9, 10, -11, 12, 13, 2, 14, 15, 1, 16, 1, 17, 18, 19, 20, 21, 22, 1, 23, 1, 24, 25, 26, 27, 28, 2, 29, 30, 0, 31, 32, 1, 33, 1, 34, 35, 1, 36, 37, 38, 1, 39, 2, 40, 41, 1, 42, 43, 0, 44, 1, 45, 46, 47, 1, 48, 49, 50, 51, 52, 53, 1, 54, 55, 56, 57, 58, 59, 60, 61}
	s := small()
	for range 2 {
		if l := slices.Collect(numbers(s)); !slices.Equal(l, want) {
			t.Error(l)
		}
	}
	if !testhelp.EndsAnywhere(numbers(s), func(a, b int) bool { return a == b }) {
		t.Error(s)
	}
}

// A visit that changes numbers leaves the season alone from which it was copied.
func TestVisitsChangeCopies(t *testing.T) {
	s := small()
	x := s
	if all := visit(func(n *int) bool { *n += 0; return true }).season(&x); !all {
		t.Error(x)
	}
	x.Desk.Bales[0], x.Desk.Looks[0].Said, x.House.Stacks[1].Bales[0], x.House.Found[1].Wet = 99, 99, 99, true
	if s.Desk.Bales[0] != 14 || s.Desk.Looks[0].Said != 22 || s.House.Stacks[1].Bales[0] != 33 || s.House.Found[1].Wet {
		t.Error(s)
	}
}

// A list that is longer than there are Ids is not gone through: no file makes a call work in vain on things that it may not even have.
func TestLongLists(t *testing.T) {
	for _, x := range []struct {
		long, want int
		all        bool
	}{{api.MaxId, 1 + api.MaxId, true}, {api.MaxId + 1, 1, false}, {1 << 40, 1, false}, {0, 1, true}, {-1, 1, true}} {
		asked := 0
		var l []int
		all := list(func(n *int) bool {
			if asked == 0 {
				*n = x.long
			}
			asked++
			return true
		}, &l, visit.number)
		if asked != x.want || all != x.all || all && len(l) != asked-1 {
			t.Error(x, asked, all)
		}
	}
}

// Each number has its bytes, from which it comes back.
func TestCoded(t *testing.T) {
	for _, x := range []struct {
		n    int
		want string
	}{{0, "\x00"}, {-1, "\x01"}, {1, "\x02"}, {63, "\x7e"}, {-64, "\x7f"}, {64, "\x80\x01"}, {-65, "\x81\x01"}, {8191, "\xfe\x7f"}, {-8192, "\xff\x7f"}, {8192, "\x80\x80\x01"}, {1000000, "\x80\x89\x7a"}, {9999999, "\xfe\xd9\xc4\x09"}} {
		if l := coded(x.n); string(l) != x.want {
			t.Errorf("%d %x", x.n, l)
		}
	}
	for n := -70; n <= 20000; n++ {
		code := 2 * n
		if n < 0 {
			code = -2*n - 1
		}
		if decoded(code) != n {
			t.Error(n, decoded(code))
		}
	}
}

// The sum of bytes: each times its index, counted from 1.
func TestSum(t *testing.T) {
	long := make([]byte, 70000)
	long[65520], long[65521], long[69999] = 255, 255, 1
	for _, x := range []struct {
		file []byte
		want int
	}{{nil, 0}, {[]byte{7}, 7}, {[]byte{0, 7}, 14}, {[]byte{1, 2, 3}, 14}, {slices.Repeat([]byte{255}, 22), 64515}, {slices.Repeat([]byte{255}, 23), 70380 - 65521}, {long, 255 + 70000 - 65521}} {
		if n := sum(x.file); n != x.want {
			t.Error(len(x.file), n)
		}
	}
}

// Verbs lie where their numbers are, and their lines have no more words than are looked for.
func TestVerbs(t *testing.T) {
	for number, v := range verbs() {
		if verbWith(v.word) != uint8(number) || v.nums >= mostWords || (number > 0) != (v.do != nil) || (number > 0) != (v.touches.has(v.part) && v.part > 0) {
			t.Error(number, v.word)
		}
	}
}
