package impl

import "iter"

// MaxIndex is the greatest place of a row.
const MaxIndex = 20

// greatestNumber bounds both numbers of a pair, on either side of 0.
const greatestNumber = 4

// Pair has the two numbers (P, Q) of a pair of rows.
type Pair struct {
	P int
	Q int
}

// PairOk reports whether the numbers of a pair are in -4..4.
func PairOk(p Pair) bool {
	return numberOk(p.P) && numberOk(p.Q)
}

// FirstAt returns the number of the first row of a pair (PairOk) at a place, in 0..MaxIndex: 0 at 0, 1 at 1, and at each further one P times the number at the place before, less Q times that at the place before this; and true; 0 and false for others.
func FirstAt(p Pair, place int) (int, bool) {
	return numberAt(p, 0, 1, place)
}

// SecondAt returns the number of the second row of a pair (PairOk) at a place, in 0..MaxIndex: 2 at 0, P at 1, and at each further one P times the number at the place before, less Q times that at the place before this; and true; 0 and false for others.
func SecondAt(p Pair, place int) (int, bool) {
	return numberAt(p, 2, p.P, place)
}

// WeightOf returns the weight of a pair (PairOk): the square of P less 4 times Q; and true; 0 and false for others.
func WeightOf(p Pair) (int, bool) {
	if !PairOk(p) {
		return 0, false
	}
	return p.P*p.P - 4*p.Q, true
}

// TurnedOf returns the pair of a pair (PairOk) with P with the other sign; the zero value for others.
func TurnedOf(p Pair) Pair {
	if !PairOk(p) {
		return Pair{}
	}
	return Pair{P: -p.P, Q: p.Q}
}

func numberOk(n int) bool {
	return -greatestNumber <= n && n <= greatestNumber
}

func placeOk(place int) bool {
	return 0 <= place && place <= MaxIndex
}

// rowFrom has no end: who ranges over it stops it. The two numbers are copied for each range, so that a row that is ranged over again begins anew.
func rowFrom(p Pair, first int, second int) iter.Seq[int] {
	return func(yield func(int) bool) {
		now, next := first, second
		for yield(now) {
			now, next = next, p.P*next-p.Q*now
		}
	}
}

// numberAt checks the place before it ranges over the row, which would else go on for long.
func numberAt(p Pair, first int, second int, place int) (int, bool) {
	if !PairOk(p) || !placeOk(place) {
		return 0, false
	}
	at := 0
	for number := range rowFrom(p, first, second) {
		if at == place {
			return number, true
		}
		at++
	}
	return 0, false
}
