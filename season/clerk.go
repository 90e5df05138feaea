package season

import (
	"slices"
	"strconv"

	"middling/api"
	"middling/chain"
	"middling/grade"
	"middling/lists"
	"middling/paper"
	"middling/stack"
)

// What is replied to a line: behind denied comes the number of the error.
const (
	unread = "unread"
	done   = "done"
	denied = "denied "
)

// clerk is a valid season at work.
type clerk struct{ api.Season }

// copied returns the season in memory of its own.
func (c clerk) copied() api.Season {
	// Without nothing each part is the same, but new; they are valid, so there is no error.
	c.Desk, _ = grade.Strike(c.Desk, nil)
	c.Chain, _ = chain.Strike(c.Chain, nil)
	c.House, _ = stack.Strike(c.House, nil)
	c.Papers, _ = paper.Strike(c.Papers, nil)
	return c.Season
}

// denial is why an act is denied: by which part, or by the rules, and its error; nothing if the act is done.
type denial struct {
	part int
	e    api.Errno
}

// behind returns the clerk behind an act that is right, if it is done.
func (c clerk) behind(a api.Act) (clerk, denial) {
	v := verbOf(a)
	if e := v.do(&c, a.Nums); e != api.OK {
		return clerk{}, denial{v.part, e}
	}
	if e := lists.Asked(c, a.Nums, v.rules...); e != api.OK {
		return clerk{}, denial{api.PartRules, e}
	}
	return c, denial{}
}

// play returns the clerk behind lines, one after the other, and the replies to them.
func (c clerk) play(lines []string) (clerk, []string) {
	var replies []string
lines:
	for _, line := range lines {
		a, e := Read(line)
		if e != api.OK {
			replies = append(replies, unread)
			continue lines
		}
		after, no := c.behind(a)
		if no.e != api.OK {
			replies = append(replies, denied+strconv.Itoa(int(no.e)))
			continue lines
		}
		c = after
		replies = append(replies, done)
	}
	return c, replies
}

// say returns the clerk behind a line, and the reply to it.
func (c clerk) say(line string) (clerk, string) {
	c, replies := c.play([]string{line})
	return c, replies[0]
}

// said returns what the house says of a bale of the Desk: 0 if it is not decided.
func (c clerk) said(bale int) int {
	// Beside the error that it is not decided there is a 0.
	n, _ := grade.Decide(c.Desk, bale)
	return n
}

// wasHere reports whether the bale of a look has been in the House.
func (c clerk) wasHere(nums []int) bool {
	bale := nums[2]
	// The House is valid, and 0 is a day: there is no other error.
	_, _, e := stack.Where(c.House, bale, 0)
	return e == api.OK
}

// isJust reports whether the Desk has a truth.
func (c clerk) isJust([]int) bool {
	can, _ := grade.Can(c.Desk)
	return can
}

// isDecided reports whether the bale of a move is none of the Desk, or one that is decided, if it goes out.
func (c clerk) isDecided(nums []int) bool {
	bale, to := nums[1], nums[2]
	return to != 0 || !slices.Contains(c.Desk.Bales, bale) || c.said(bale) != 0
}

// isToHouse reports whether a pass is to a house of the Chain.
func (c clerk) isToHouse(nums []int) bool {
	to := nums[3]
	return slices.Contains(c.Chain.Houses, to)
}

// isTrue reports whether the Papers have a truth.
func (c clerk) isTrue([]int) bool {
	can, _ := paper.Can(c.Papers)
	return can
}

// isFree reports whether the house of a stop holds no paper for sure on the last day.
func (c clerk) isFree(nums []int) bool {
	house := nums[0]
	// Beside the error that there is no truth there is a 0: nothing is sure then.
	holds, _ := paper.Holds(c.Papers, house, c.Papers.Days-1)
	return holds.Lo == 0
}
