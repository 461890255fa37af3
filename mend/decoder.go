package mend

import (
	"slices"
	"sync"

	"mend/field"
	"mend/poly"
)

// decoder finds the full word that is near enough to what has come.
//
// A place i of a full word goes by the element x^(n-1-i): by its powers the symbol
// there is multiplied in the sums of a code. The locator is the polynomial whose
// roots are the elements of the places to be mended; where it is known, so are
// they, and what is to be added there.
type decoder struct {
	ring        poly.Ring
	plus        func(a int, b int) int
	times       func(a int, b int) int
	inverse     func(a int) int
	power       func(i int) int
	checkSymbol func(a int) error

	first, delta, short, cut int

	// What follows is what one call works in: the lock keeps others out.
	lock      sync.Mutex
	room      []int // the lists below, one behind the other
	full      []int // what has come, as a full word; then the one that was sent
	gone      []int // 1 at each place that is lost or left out at the end
	sums      []int // those of a code, which are 0 for a full word
	locator   []int
	earlier   []int // what the locator is bettered by: see locateTurns
	evaluator []int // what gives the symbols to be added: see mendPlaces
	places    []int // those to be mended
	losses    int   // how many places are gone
	degree    int   // that of the locator: how many places are to be mended
}

func newDecoder(f *field.Field, ring poly.Ring, checkSymbol func(int) error, p Params) *decoder {
	d := &decoder{
		ring:        ring,
		plus:        f.Plus,
		times:       f.Times,
		inverse:     f.Inverse,
		power:       f.Power,
		checkSymbol: checkSymbol,
		first:       p.First,
		delta:       p.Delta,
		short:       p.Short,
		cut:         p.Cut,
	}
	d.layOut(f.Units())
	return d
}

// layOut parts one room among the lists, so that one clear reaches them all.
func (d *decoder) layOut(n int) {
	d.room = make([]int, 2*n+2*d.delta+3*(d.delta-1))
	rest := d.room
	d.full, rest = part(rest, n)
	d.gone, rest = part(rest, n)
	d.sums, rest = part(rest, d.delta-1)
	d.locator, rest = part(rest, d.delta)
	d.earlier, rest = part(rest, d.delta)
	d.evaluator, rest = part(rest, d.delta-1)
	d.places, _ = part(rest, d.delta-1)
}

func part(list []int, size int) ([]int, []int) { return list[:size:size], list[size:] }

// steps are what the decoder does once it holds what has come.
func steps() []func(*decoder) error {
	return []func(*decoder) error{
		(*decoder).findSums,
		(*decoder).locateLosses,
		(*decoder).locateTurns,
		(*decoder).findPlaces,
		(*decoder).mendPlaces,
		(*decoder).checkFull,
	}
}

// mend is the word that is near enough. What it is given has been checked.
func (d *decoder) mend(word []int, lost []int) ([]int, error) {
	d.lock.Lock()
	defer d.lock.Unlock()
	d.begin(word, lost)
	for _, step := range steps() {
		if err := step(d); err != nil {
			return nil, err
		}
	}
	return slices.Clone(d.full[d.short : len(d.full)-d.cut]), nil
}

// begin clears what an earlier call has left and lays down what has come. A
// place that is gone keeps the symbol it has: what is to be added there makes up
// for it, whichever it is.
func (d *decoder) begin(word []int, lost []int) {
	clear(d.room)
	d.losses, d.degree = 0, 0
	copy(d.full[d.short:], word)
	for _, place := range lost {
		d.gone[d.short+place] = 1
	}
	for i := range d.cut {
		d.gone[len(d.gone)-1-i] = 1
	}
}

// exponent is that of the power of x by which a place goes.
func (d *decoder) exponent(place int) int { return len(d.full) - 1 - place }

func (d *decoder) element(place int) int { return d.power(d.exponent(place)) }

func (d *decoder) findSums() error {
	for j := range d.sums {
		d.sums[j] = d.ring.Value(d.full, d.power(d.first+j))
	}
	return nil
}

// locateLosses makes the locator of the places that are gone.
func (d *decoder) locateLosses() error {
	d.locator[0] = 1
	for place, mark := range d.gone {
		if mark == 0 {
			continue
		}
		d.losses++
		if d.losses >= d.delta {
			return errLosses
		}
		d.ring.TimesRoot(d.locator, d.element(place))
	}
	d.degree = d.losses
	return nil
}

// locateTurns betters the locator sum by sum, until it is the shortest one with
// the roots of the losses whose product with the sums is 0 from its degree on:
// that is what sets it apart. (The algorithm of Berlekamp and Massey, begun with
// the losses.)
//
// Where the product is not 0 at k, a multiple of earlier is added: the locator as
// it was ahead of its last growth, moved on and divided so that its product with
// the sums is 1 at k and 0 from the locator's degree up to there. (Ahead of the
// first growth it is that of the losses: as the degree then grows beyond k, its
// product need not be 0 anywhere.)
func (d *decoder) locateTurns() error {
	copy(d.earlier, d.locator)
	for k := d.degree; k < len(d.sums); k++ {
		moveOn(d.earlier)
		gap := d.ring.ProductAt(d.locator, d.sums, k)
		if gap == 0 {
			continue
		}
		d.ring.AddMultiple(d.locator, gap, d.earlier)
		if 2*d.degree <= k+d.losses {
			// Earlier becomes the old locator divided by gap: that is what it and
			// the new one, divided so, add up to.
			d.ring.AddMultiple(d.earlier, d.inverse(gap), d.locator)
			d.degree = k + 1 + d.losses - d.degree
		}
	}
	if 2*d.degree-d.losses >= d.delta {
		return errTurns
	}
	return nil
}

// moveOn moves a list's numbers on by one place. The last one is dropped, but that
// is a 0: at k, earlier has no other number behind place k + 1.
func moveOn(list []int) {
	copy(list[1:], list)
	list[0] = 0
}

// findPlaces tries all places. A locator with fewer roots there than its degree
// is none.
func (d *decoder) findPlaces() error {
	found := 0
	for place := range d.full {
		if d.ring.Value(d.locator[:d.degree+1], d.element(place)) == 0 {
			d.places[found] = place
			found++
		}
	}
	if found < d.degree {
		return errTurns
	}
	return nil
}

// mendPlaces adds what is missing to each place. (Forney's rule: the sums are
// what comes of the missing symbols, each times its element to the power First,
// and then to all powers on; the evaluator's value at one of the elements is
// that product times the locator's slope.)
func (d *decoder) mendPlaces() error {
	evaluator := d.evaluator[:d.degree]
	for i := range evaluator {
		evaluator[i] = d.ring.ProductAt(d.locator, d.sums, i)
	}
	for _, place := range d.places[:d.degree] {
		at := d.element(place)
		slope := d.ring.Slope(d.locator[:d.degree+1], at)
		factor := d.times(slope, d.power(d.first*d.exponent(place)))
		missing := d.times(d.ring.Value(evaluator, at), d.inverse(factor))
		d.full[place] = d.plus(d.full[place], missing)
	}
	return nil
}

// checkFull refuses a list whose sums are 0 and which is no full word that
// begins with the zeros that the code leaves out. It looks at what is cut off at
// the end too: that must be symbols like the rest.
func (d *decoder) checkFull() error {
	for place, symbol := range d.full {
		if place < d.short && symbol != 0 {
			return errNotZero
		}
		if err := d.checkSymbol(symbol); err != nil {
			return err
		}
	}
	return nil
}
