package season

import (
	"middling/api"
	"middling/lists"
)

// A byte of a file has so many numbers: half of them are those of seven bits, the other half has more groups behind it.
const (
	byteSize  = 256
	groupSize = 128
	groupBits = 7
)

// sums is how many sums files can have.
const sums = 65521

// Pack returns the file of a season (P12.8).
func Pack(s api.Season) (string, api.Errno) { return lists.Told(s, Check(s), packed) }

// Unpack returns the season of which a file is the file (P12.8).
func Unpack(file string) (api.Season, api.Errno) {
	s, all := unpacked(file)
	// What is amiss with a file otherwise, such as its sum, makes it another one than that of its season.
	if !all || Check(s) != api.OK || packed(s) != file {
		return api.Season{}, api.ErrFile
	}
	return s, api.OK
}

// packed returns the file of a valid season.
func packed(s api.Season) string {
	var file []byte
	for n := range numbers(s) {
		file = append(file, coded(n)...)
	}
	x := sum(file)
	return string(append(file, byte(x/byteSize), byte(x%byteSize)))
}

// coded returns the bytes of a number.
func coded(n int) []byte {
	code := 2 * n
	if n < 0 {
		code = -code - 1
	}
	var l []byte
	for code >= groupSize {
		l = append(l, byte(groupSize+code%groupSize))
		code /= groupSize
	}
	return append(l, byte(code))
}

// sum returns that of some bytes.
func sum(file []byte) int {
	x := 0
	for at := range len(file) {
		x = (x + int(file[at])*(at+1)) % sums
	}
	return x
}

// unpacked returns the season whose numbers a file begins with: false if it has not got all of these.
func unpacked(file string) (api.Season, bool) {
	at := 0
	take := func(n *int) bool {
		code, more := 0, true
		for bits := 0; more; bits += groupBits {
			if at == len(file) {
				return false
			}
			// Groups that are too many for a number lead to another one: the file is not that of its season.
			code |= int(file[at]%groupSize) << bits
			more = file[at] >= groupSize
			at++
		}
		*n = decoded(code)
		return true
	}
	var s api.Season
	all := visit(take).season(&s)
	return s, all
}

// decoded returns the number that is written as another one.
func decoded(code int) int {
	if code%2 == 0 {
		return code / 2
	}
	return -(code + 1) / 2
}
