package season_test

import (
	"math/rand"
	"regexp"
	"strings"
	"testing"

	"middling/api"
	"middling/season"
)

// n is a number in a line, behind its blank.
const n = `( (0|[1-9][0-9]{0,6}))`

var words = regexp.MustCompile(`\A(` + strings.Join([]string{`look` + n + `{6}`, `sell` + n + `{5}`, `move` + n + `{3}`, `found` + n + `{2} [01]`, `pass` + n + `{6}`, `unlook` + n, `unsell` + n, `unpass` + n, `stop` + n}, `|`) + `)\z`)

// isLine tells whether a line is that of an act, by its words.
func isLine(line string) bool { return words.MatchString(line) }

// P12.2, P12.9: lines and their acts, both ways.
func TestReadAndWrite(t *testing.T) {
	for _, x := range []struct {
		line string
		a    api.Act
	}{
		{"look 1 2 3 4 5 6", act(1, 1, 2, 3, 4, 5, 6)}, {"sell 1 2 3 4 5", act(2, 1, 2, 3, 4, 5)}, {"move 1 2 3", act(3, 1, 2, 3)}, {"found 1 2 1", act(4, 1, 2, 1)}, {"found 1 2 0", act(4, 1, 2, 0)}, {"pass 1 2 3 4 5 6", act(5, 1, 2, 3, 4, 5, 6)}, {"unlook 1", act(6, 1)}, {"unsell 1", act(7, 1)}, {"unpass 1", act(8, 1)}, {"stop 1", act(9, 1)},
		{"look 0 0 0 0 0 0", act(1, 0, 0, 0, 0, 0, 0)}, {"sell 9999999 9999999 9999999 9999999 9999999", act(2, 9999999, 9999999, 9999999, 9999999, 9999999)}, {"move 10 100 1000000", act(3, 10, 100, 1000000)}, {"found 0 0 0", act(4, 0, 0, 0)}, {"found 9999999 9999999 1", act(4, 9999999, 9999999, 1)}, {"pass 10 20 30 40 50 60", act(5, 10, 20, 30, 40, 50, 60)}, {"stop 0", act(9, 0)}, {"unlook 9999999", act(6, 9999999)},
	} {
		a, e := season.Read(x.line)
		line, f := season.Write(x.a)
		if !same(a, x.a) || e != api.OK || line != x.line || f != api.OK || !isLine(x.line) {
			t.Error(x, a, e, line, f)
		}
	}
}

// P12.2: lines of no act.
func TestUnread(t *testing.T) {
	for _, line := range []string{
		"", " ", "  ", "1", " 1", "look", "look ", "jump", "jump 1", "done", "unread", "denied 21", "look 1 2 3 4 5", "look 1 2 3 4 5 6 7", "look 1 2 3 4 5 6 ", "sell 1 2 3 4", "sell 1 2 3 4 5 6", "move 1 2", "move 1 2 3 4", "found 1 2", "found 1 2 1 1", "pass 1 2 3 4 5", "pass 1 2 3 4 5 6 7", "unlook", "unlook 1 2", "unsell", "unsell 1 2", "unpass", "unpass 1 2", "stop", "stop 1 2",
		"found 1 2 2", "found 1 2 9999999", "found 1 2 01", "found 1 2 yes", "found 1 2 true", "stop 01", "stop 00", "stop -1", "stop -0", "stop +1", "stop 1 ", " stop 1", "stop  1", "stop 1\n", "stop\t1", "stop\u00a01", "stop 1\x00", "stop 10000000", "stop 99999999", "stop 18446744073709551617", "stop 4294967297", "stop 9223372036854775808", "stop 0x1", "stop 0b1", "stop 0o1", "stop 1_0", "stop 1e1", "stop 1.0", "stop \u0661", "stop \uff11", "stop a", "stop ''", "STOP 1", "Stop 1", "stops 1", "sto 1", "unstop 1", "un look 1", "unmove 1", "stop,1", "stop1", "1 stop", "stop 1 stop 1", "look 1 2 3 4 5 06", "look 1  3 4 5 6 7", "look 1 2 3 4 5 -6", "move 1 2 3\r", "\xffstop 1", "stop \xff", "stop 1\xff",
		strings.Repeat(" ", 1<<20), "stop " + strings.Repeat("9", 1<<20), "stop " + strings.Repeat("0", 1<<20) + "1", "stop" + strings.Repeat(" 1", 1<<18), strings.Repeat("stop ", 1<<18), "look 1 2 3 4 5 6" + strings.Repeat(" ", 1<<20),
	} {
		if a, e := season.Read(line); !same(a, api.Act{}) || e != api.ErrLine || isLine(line) {
			t.Error(line[:min(40, len(line))], a, e)
		}
	}
}

// P12.2, P12.9: lines to which something was done are read just if they are lines of acts, and written as they were.
func TestLinesByChance(t *testing.T) {
	c := rand.New(rand.NewSource(2))
	signs := []string{"0", "1", "9", " ", "-", "+", "_", "x", "s", "\t", "\n", "\u0661", "un", "stop", "look", " 1", " 01", "10000000", "\xff", ""}
	met := map[bool]int{}
	for range 20000 {
		a := anyAct(c, full())
		line, e := season.Write(a)
		if b, f := season.Read(line); e != api.OK || f != api.OK || !isLine(line) || !same(a, b) {
			t.Fatal(a, line, e, b, f)
		}
		for range 1 + c.Intn(2) {
			at := c.Intn(len(line) + 1)
			line = line[:at] + one(c, signs) + line[min(len(line), at+c.Intn(3)):]
		}
		a, e = season.Read(line)
		met[e == api.OK]++
		if (e == api.OK) != isLine(line) || e != api.OK && (e != api.ErrLine || !same(a, api.Act{})) {
			t.Fatal(line, a, e)
		}
		if again, f := season.Write(a); e == api.OK && (again != line || f != api.OK) {
			t.Fatal(line, again, f)
		}
	}
	if met[true] < 500 || met[false] < 5000 {
		t.Error(met)
	}
}
