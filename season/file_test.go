package season_test

import (
	"math/big"
	"math/rand"
	"reflect"
	"slices"
	"strings"
	"testing"

	"middling/api"
	"middling/season"
)

// listed are the numbers of a value: of each list first how many elements it has, of each struct its fields in order.
func listed(x reflect.Value) []int {
	var l []int
	switch x.Kind() {
	case reflect.Struct:
		for i := range x.NumField() {
			l = append(l, listed(x.Field(i))...)
		}
	case reflect.Slice:
		l = ints(x.Len())
		for i := range x.Len() {
			l = append(l, listed(x.Index(i))...)
		}
	case reflect.Bool:
		l = ints(0)
		if x.Bool() {
			l = ints(1)
		}
	default:
		l = ints(int(x.Int()))
	}
	return l
}

// bytesOf are those of numbers.
func bytesOf(numbers ...int) string {
	var l []byte
	for _, n := range numbers {
		code := big.NewInt(int64(n))
		code.Mul(code, big.NewInt(2))
		if n < 0 {
			code.Neg(code).Sub(code, big.NewInt(1))
		}
		groups := (max(1, code.BitLen()) + 6) / 7
		for i := range groups {
			group := new(big.Int).Rsh(code, uint(7*i))
			b := byte(group.And(group, big.NewInt(127)).Int64())
			if i < groups-1 {
				b += 128
			}
			l = append(l, b)
		}
	}
	return string(l)
}

// sealed is bytes with their sum.
func sealed(body string) string {
	n := 0
	for i, b := range []byte(body) {
		n += (i + 1) * int(b)
	}
	n %= 65521
	return body + string([]byte{byte(n >> 8), byte(n)})
}

// file is that of a season, by the chapter's words.
func file(s api.Season) string { return sealed(bytesOf(listed(reflect.ValueOf(s))...)) }

// P12.8: the chapter's example, and the files of others.
func TestPack(t *testing.T) {
	want := "\x02\x00\x02" + strings.Repeat("\x00", 10) + "\x02\x02\x02" + strings.Repeat("\x00", 5) + "\x02\x00\x00\x00\x00\x8e"
	if f, e := season.Pack(bare()); f != want || f != file(bare()) || e != api.OK {
		t.Errorf("%x %v", f, e)
	}
	for i, s := range []api.Season{example(), full(), unjust(), untrue(), leaky(), longest()} {
		if f, e := season.Pack(s); f != file(s) || e != api.OK {
			t.Error(i, e)
		}
	}
	if f, e := season.Pack(api.Season{}); f != "" || e != api.ErrSeason {
		t.Error(f, e)
	}
	// The match 1 in the month 2 of the boxes 1 and 2, by -60 to 60; a sale of five bales for 1,000,000; a bale that was found wet.
	s := changed(func(s *api.Season) {
		s.Desk.Room.Matches[0].By = span(-60, 60)
		s.Chain.Sales = []api.Sale{saleOf(64, 1, 2, 5, 1000000)}
	})
	f, e := season.Pack(s)
	for _, part := range []string{"\x02\x02\x04\x02\x04\x77\x78", "\x02\x80\x01\x02\x04\x0a\x80\x89\x7a", "\x04\x02\x1a\x02\x04\x18\x00"} {
		if !strings.Contains(f, part) || e != api.OK {
			t.Errorf("%x %v", f, e)
		}
	}
}

// P12.8, P12.14: seasons come back from their files.
func TestUnpack(t *testing.T) {
	for i, s := range []api.Season{bare(), example(), full(), unjust(), untrue(), leaky(), longest()} {
		if y, e := season.Unpack(file(s)); !same(y, s) || e != api.OK {
			t.Error(i, e)
		}
	}
	eachSeason(t, 300, func(s api.Season, _ *rand.Rand) bool {
		f, e := season.Pack(s)
		y, g := season.Unpack(f)
		return f == file(s) && e == api.OK && same(y, s) && g == api.OK
	})
}

// longest is a season with as many owners as there can be, each of three bytes: its file is about as long as one can be.
func longest() api.Season {
	s := full()
	s.House.Owners = nil
	for bale := range api.MaxId {
		s.House.Owners = append(s.House.Owners, api.Owned{Bale: bale + 1, Owner: 9999 - bale%900})
	}
	return s
}

// P12.14: no file with one byte changed is any season's.
func TestOneByteChanged(t *testing.T) {
	for i, s := range []api.Season{bare(), example(), full()} {
		f, _ := season.Pack(s)
		for at := range len(f) {
			for b := range 256 {
				other := f[:at] + string([]byte{byte(b)}) + f[at+1:]
				if y, e := season.Unpack(other); other != f && (e != api.ErrFile || !same(y, api.Season{})) {
					t.Fatal(i, at, b, e)
				}
			}
		}
	}
	eachSeason(t, 60, func(s api.Season, c *rand.Rand) bool {
		f, _ := season.Pack(s)
		for at := range len(f) {
			b := []byte(f)
			b[at] += byte(1 + c.Intn(255))
			if _, e := season.Unpack(string(b)); e != api.ErrFile {
				return false
			}
		}
		return true
	})
	// A file is shorter than the number by which sums are told: so its index never makes a change go unseen.
	f, _ := season.Pack(longest())
	if len(f) >= 65521 || len(f) < 45000 {
		t.Error(len(f))
	}
	c := rand.New(rand.NewSource(3))
	for range 60 {
		b := []byte(f)
		b[c.Intn(len(b))] += byte(1 + c.Intn(255))
		if _, e := season.Unpack(string(b)); e != api.ErrFile {
			t.Fatal(e)
		}
	}
}

// P12.8, R5: files of no season, though their sums are right.
func TestNoFile(t *testing.T) {
	body := bytesOf(listed(reflect.ValueOf(bare()))...)
	for at := range len(body) {
		number := bytesOf(int(body[at]) / 2)
		if number != body[at:at+1] {
			t.Fatal(at, number)
		}
		// More groups than are needed, and as many as lead to the same number in 64 bits.
		for i, long := range []string{"\x80\x00", "\x80\x80\x00", strings.Repeat("\x80", 9) + "\x02", strings.Repeat("\x80", 9) + "\x00", strings.Repeat("\x80", 10) + "\x01", strings.Repeat("\x80", 40) + "\x01", strings.Repeat("\x80", 1<<12) + "\x01"} {
			long = string([]byte{body[at] | 128}) + long[1:]
			if _, e := season.Unpack(sealed(body[:at] + long + body[at+1:])); e != api.ErrFile {
				t.Error(at, i, e)
			}
		}
		// Each number that is another one tells of another season, if of any.
		for _, n := range ints(-1, 1, 2, 3, 1000000, 10000, 1<<31, 1<<32, -1<<32, 1<<62, -1<<62, -1<<63) {
			f := sealed(body[:at] + bytesOf(n) + body[at+1:])
			if y, e := season.Unpack(f); e == api.OK && file(y) != f || e != api.OK && e != api.ErrFile {
				t.Error(at, n, y, e)
			}
		}
	}
	for i, b := range []string{"", "\x00", "\x02", body + "\x00", body + "\x00\x00", body + body, "\x00" + body, body[1:], body[:len(body)-1], strings.Repeat("\x80", 1<<20), strings.Repeat("\xff", 1<<20), strings.Repeat("\x00", 1<<20), strings.Repeat("\x02", 1<<20), "\x02\x00\xfe\xff\xff\xff\x0f" + strings.Repeat("\x00", 1<<20)} {
		for _, f := range []string{b, sealed(b), sealed(sealed(b))} {
			if y, e := season.Unpack(f); e != api.ErrFile || !same(y, api.Season{}) {
				t.Error(i, e)
			}
		}
	}
}

// P12.8: what is true is 1, what is not is 0, and nothing else.
func TestFlags(t *testing.T) {
	s := changed(func(s *api.Season) { s.House.Found = []api.Found{{Number: 7, Bale: 12, Wet: true}} })
	f := file(s)
	at := strings.Index(f, bytesOf(7, 12, 1))
	for _, n := range ints(0, 1, 2, 3, -1, 255, 256, 1<<31, -1<<63) {
		y, e := season.Unpack(sealed(f[:at] + bytesOf(7, 12, n) + f[at+3:len(f)-2]))
		want := s
		if n == 0 {
			want = changed(func(s *api.Season) { s.House.Found = []api.Found{{Number: 7, Bale: 12}} })
		}
		if is := n == 0 || n == 1; is && (e != api.OK || !same(y, want)) || !is && e != api.ErrFile {
			t.Error(n, y, e)
		}
	}
}

// P12.8: the file of a season that is not valid is none, whatever is amiss.
func TestFilesOfNoSeason(t *testing.T) {
	for name, x := range kinds() {
		s := changed(x.change)
		y, e := season.Unpack(file(s))
		if x.valid && (e != api.OK || !same(y, s)) || !x.valid && (e != api.ErrFile || !same(y, api.Season{})) {
			t.Error(name, e)
		}
		if f, e := season.Pack(s); x.valid && (f != file(s) || e != api.OK) || !x.valid && (f != "" || e != api.ErrSeason) {
			t.Error(name, e)
		}
	}
}

// P12.8: the sum is from 0 to 65,520, also where a greater one would leave as much, and its high byte comes first.
func TestSums(t *testing.T) {
	s := full()
	// Prices that lead to these sums were found by trial.
	for _, x := range []struct{ price, other, sum int }{{551486, 766051, 65520}, {992624, 999664, 14}, {881144, 641499, 2}, {394496, 444444, 0}} {
		s.Chain.Sales[3].Price, s.Chain.Sales[4].Price = x.price, x.other
		f, e := season.Pack(s)
		body := f[:len(f)-2]
		if f != file(s) || f != body+string([]byte{byte(x.sum / 256), byte(x.sum % 256)}) || e != api.OK {
			t.Error(x, e)
		}
		if y, e := season.Unpack(f); !same(y, s) || e != api.OK {
			t.Error(x, e)
		}
		for _, n := range ints(x.sum+65521, x.sum-1, x.sum+1, x.sum/256+x.sum%256*256) {
			other := body + string([]byte{byte(n >> 8), byte(n)})
			if _, e := season.Unpack(other); other != f && e != api.ErrFile {
				t.Error(x, n, e)
			}
		}
	}
}

// P12.8: no list and an empty one are written alike, and one file tells them.
func TestFilesOfEmptyLists(t *testing.T) {
	s := bare()
	s.Desk.Bales, s.Chain.Sales, s.House.Stacks[0].Bales, s.Papers.Passes = ints(), []api.Sale{}, ints(), []api.Pass{}
	if f, e := season.Pack(s); f != file(bare()) || e != api.OK {
		t.Error(f, e)
	}
	if !slices.Equal(listed(reflect.ValueOf(s)), listed(reflect.ValueOf(bare()))) {
		t.Error(s)
	}
}
