package braille

import (
	"iter"
	"math"
	"strings"

	"hansard/api"
)

// none stands for the fewest cells of what cannot be written. No text needs so many, and with more cells added it is not less than before.
const none = math.MaxInt32

// tail is what is known of what stands from a place on: a number, the sign with which the list begins that is looked for, and the place behind this sign.
type tail struct{ n, sign, next int }

// standing yields the signs that stand at a place, and the places behind them. l are the texts of all signs where s is a text, and their codes where it is a code.
func standing(l []string, s string, at int) iter.Seq2[int, int] {
	return func(yield func(sign, next int) bool) {
		for i, one := range l {
			if strings.HasPrefix(s[at:], one) && !yield(i, at+len(one)) {
				return
			}
		}
	}
}

// fewestCells returns for each tail of a text the fewest cells with which it can be written, or none, and of the lists with so many cells the first one.
func fewestCells(t []api.Sign, s string) []tail {
	texts := textsOf(t)
	tails := make([]tail, len(s)+1)
	for at := len(s) - 1; at >= 0; at-- {
		tails[at].n = none
		for i, next := range standing(texts, s, at) {
			if n := len(t[i].Cells) + tails[next].n; n < tails[at].n {
				tails[at] = tail{n, i, next}
			}
		}
	}
	return tails
}

// readings returns for each tail of a code whether it has no list, 1, or more, for which 2 stands, and the list if there is only one.
func readings(codes []string, s string) []tail {
	tails := make([]tail, len(s)+1)
	tails[len(s)].n = 1
	for at := len(s) - 1; at >= 0; at-- {
		for i, next := range standing(codes, s, at) {
			if tails[next].n > 0 {
				tails[at] = tail{min(2, tails[at].n+tails[next].n), i, next}
			}
		}
	}
	return tails
}

// listOf returns the list of signs that was looked for.
func listOf(tails []tail) (signs []int) {
	for at := 0; at < len(tails)-1; at = tails[at].next {
		signs = append(signs, tails[at].sign)
	}
	return signs
}

// cellsOf returns the cells of a list of signs.
func cellsOf(t []api.Sign, signs []int) (cells []int) {
	for _, i := range signs {
		cells = append(cells, t[i].Cells...)
	}
	return cells
}

// textOf returns the text of a list of signs.
func textOf(t []api.Sign, signs []int) string {
	var b strings.Builder
	for _, i := range signs {
		b.WriteString(t[i].Text)
	}
	return b.String()
}

// textsOf returns the texts of all signs.
func textsOf(t []api.Sign) (texts []string) {
	for _, s := range t {
		texts = append(texts, s.Text)
	}
	return texts
}

// codesOf returns the codes of all signs.
func codesOf(t []api.Sign) (codes []string) {
	for _, s := range t {
		codes = append(codes, codeOf(s.Cells))
	}
	return codes
}

// codeOf returns cells as a string with one byte for each of them, so that they can be searched like texts and be the keys of a map.
func codeOf(cells []int) string {
	b := make([]byte, len(cells))
	for i, cell := range cells {
		b[i] = byte(cell)
	}
	return string(b)
}
