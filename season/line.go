package season

import (
	"strconv"
	"strings"

	"middling/api"
	"middling/lists"
)

// mostWords is how many words the line of an act has at most.
const mostWords = 7

// Read returns the act that a line is the line of (P12.2).
func Read(line string) (api.Act, api.Errno) {
	a := read(line)
	if written, e := Write(a); e != api.OK || written != line {
		return api.Act{}, api.ErrLine
	}
	return a, api.OK
}

// Write returns the line of an act (P12.2).
func Write(a api.Act) (string, api.Errno) { return lists.Told(a, notRight(a), lineOf) }

// lineOf returns the line of an act that is right.
func lineOf(a api.Act) string {
	line := verbOf(a).word
	for _, n := range a.Nums {
		line += " " + strconv.Itoa(n)
	}
	return line
}

// read returns the one act that a line can be the line of. It is not right, or its line is another one, if there is none.
func read(line string) api.Act {
	words := wordsOf(line)
	a := api.Act{Verb: verbWith(words[0])}
	delete(words, 0)
	for len(words) > 0 {
		at := len(a.Nums) + 1
		// A word that is no number is taken for one that is written otherwise.
		n, _ := strconv.Atoi(words[at])
		a.Nums = append(a.Nums, n)
		delete(words, at)
	}
	return a
}

// wordsOf returns the words of a line by their places: the last one that there can be has all in it that is behind it.
func wordsOf(line string) map[int]string {
	words := map[int]string{}
	for at, word := range strings.SplitN(line, " ", mostWords) {
		words[at] = word
	}
	return words
}

// verbWith returns the number of the verb with a word: 0 if there is none.
func verbWith(word string) uint8 {
	for number, v := range verbs() {
		if v.word == word {
			return uint8(number)
		}
	}
	return 0
}
