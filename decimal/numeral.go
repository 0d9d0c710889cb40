package decimal

import (
	"strconv"
	"strings"

	"ulpwright/float"
)

// numeral is a number in decimal: of its digits, the last ones, as many as places, stand after the point. There may be
// fewer digits than places.
type numeral struct {
	neg    bool
	digits string
	places int
}

// plain returns the sign, the integer part and, if there are places, a point and the digits after it.
func (n numeral) plain() string {
	digits := n.digits
	if zeros := n.places + 1 - len(digits); zeros > 0 { // the integer part has at least one digit
		digits = strings.Repeat("0", zeros) + digits
	}
	point := len(digits) - n.places
	s := digits[:point]
	if n.places > 0 {
		s += "." + digits[point:]
	}
	if n.neg {
		s = "-" + s
	}
	return s
}

// scientific is a numeral times 10^exp.
type scientific struct {
	numeral
	exp int
}

// text returns the numeral and the exponent, with its sign and at least two digits.
func (s scientific) text() string {
	sign, size := "+", s.exp
	if size < 0 {
		sign, size = "-", -size
	}
	if size < 10 {
		sign += "0"
	}
	return s.plain() + "e" + sign + strconv.Itoa(size)
}

func isNegative(x uint64) bool {
	negative, _, _ := float.Parts(x)
	return negative
}
