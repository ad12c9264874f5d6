package text

import "hansard/api"

// kind is a kind of code points, with what says whether it is the kind of one.
type kind struct {
	number int
	has    func(r int) bool
}

// kindOf returns the kind of a code point. No code point has two of them, so that the order in which they are asked does not matter.
func kindOf(r int) int {
	for _, k := range kinds() {
		if k.has(r) {
			return k.number
		}
	}
	return api.OtherK
}

// kinds returns all kinds but OtherK, which is what is left.
func kinds() [4]kind {
	return [4]kind{
		{api.SpaceK, isSpace},
		{api.DigitK, isDigit},
		{api.LeftK, isLeft},
		{api.RightK, isRight},
	}
}

func isSpace(r int) bool { return r == '\t' || r == '\n' || r == '\r' || r == ' ' }

func isDigit(r int) bool { return within(r, '0', '9') }

func isLeft(r int) bool {
	return within(r, 'A', 'Z') || within(r, 'a', 'z') || isWestern(r) || within(r, 0x370, 0x4FF)
}

// isWestern leaves out the signs of multiplication and division, which stand in the middle of the letters.
func isWestern(r int) bool { return within(r, 0xC0, 0x24F) && r != 0xD7 && r != 0xF7 }

func isRight(r int) bool { return within(r, 0x590, 0x7BF) }

func within(r, first, last int) bool { return first <= r && r <= last }
