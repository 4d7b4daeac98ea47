package curve

import (
	"iter"
	"strings"
)

// stepFactor is the constant that belongs to the curve.
const stepFactor = 121665

// pair stands for the quotient of a and b.
type pair struct {
	a, b number
}

// state is what a step changes: the pair of the result is embedded, and other has the chapter's numbers c and d.
type state struct {
	pair
	other pair
	u     number
}

func (now *state) exchange() {
	now.pair, now.other = now.other, now.pair
}

// step changes all numbers as the chapter's step does between its exchanges.
func (now *state) step() {
	sum, difference := now.a.plus(now.b), now.a.minus(now.b)
	s, m := sum.times(sum), difference.times(difference)
	e := s.minus(m)
	f := now.other.a.minus(now.other.b).times(sum)
	g := now.other.a.plus(now.other.b).times(difference)
	both, apart := f.plus(g), f.minus(g)
	now.pair = pair{s.times(m), e.times(s.plus(e.times(number{stepFactor})))}
	now.other = pair{both.times(both), now.u.times(apart.times(apart))}
}

// bitsOf yields the bits of the number of s from the greatest one on, which itself is left out.
func bitsOf(s string) iter.Seq[bool] {
	return func(yield func(bool) bool) {
		for t := 8*len(s) - 2; t >= 0; t-- {
			if !yield(s[t/8]>>(t%8)&1 == 1) {
				return
			}
		}
	}
}

// raiser returns what raises a number to a power: to the number of these octets without its greatest bit.
func raiser(power string) func(number) number {
	return func(n number) number {
		raised := number{1}
		for bit := range bitsOf(power) {
			raised = raised.times(raised)
			if bit {
				raised = raised.times(n)
			}
		}
		return raised
	}
}

// quotient returns what the pair stands for, which is a rest.
func (p pair) quotient() number {
	// The number of these octets is p - 2, which is 2^255 - 21.
	inverse := raiser("\xeb" + strings.Repeat("\xff", keySize-2) + "\x7f")
	return p.a.times(inverse(p.b))
}

// clamped returns the clamped secret of a key of 32 octets.
func clamped(secret string) string {
	out := []byte(secret)
	out[0] &^= 7
	out[keySize-1] = out[keySize-1]&^128 | 64
	return string(out)
}

// resultOf returns the number of the result of a secret key and a public key, of which u is the number.
func resultOf(secret string, u number) number {
	now := state{pair{a: number{1}}, pair{u, number{1}}, u}
	for bit := range bitsOf(clamped(secret)) {
		if bit {
			now.exchange()
		}
		now.step()
		if bit {
			now.exchange()
		}
	}
	return now.quotient()
}
