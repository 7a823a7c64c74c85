// Package domain has sets of values: those that a variable may still have.
package domain

import (
	"iter"
	"math/bits"

	"assay/api"
)

const wordBits = 64

// Domain has a bit for each value from -MaxValue to MaxValue. It is an array, so that it is kept by value and compared as a whole.
type Domain [(2*api.MaxValue + wordBits) / wordBits]uint64

// Between gives all values from low to high that are within MaxValue.
func Between(low, high int) Domain {
	low, high = max(low, -api.MaxValue), min(high, api.MaxValue)
	var d Domain
	for w := range d {
		first := w*wordBits - api.MaxValue
		from, to := max(low-first, 0), min(high-first, wordBits-1)
		if from <= to {
			d[w] = ^uint64(0) >> (wordBits - 1 - to + from) << from
		}
	}
	return d
}

// Only gives the set of one value that is within MaxValue.
func Only(value int) Domain { return Domain{}.With(value) }

// bit tells where the bit of a value is.
func bit(value int) (word int, mask uint64) {
	place := value + api.MaxValue
	return place / wordBits, 1 << (place % wordBits)
}

// With gives the set with one more value that is within MaxValue.
func (d Domain) With(value int) Domain {
	word, mask := bit(value)
	d[word] |= mask
	return d
}

// Has tells whether a value that is within MaxValue is in the set.
func (d Domain) Has(value int) bool {
	word, mask := bit(value)
	return d[word]&mask != 0
}

// Count tells how many values there are.
func (d Domain) Count() int {
	count := 0
	for _, word := range d {
		count += bits.OnesCount64(word)
	}
	return count
}

// And gives the values that both sets have.
func (d Domain) And(other Domain) Domain {
	for w := range d {
		d[w] &= other[w]
	}
	return d
}

// Without gives the values that the other set does not have.
func (d Domain) Without(other Domain) Domain {
	for w := range d {
		d[w] &^= other[w]
	}
	return d
}

// All goes through the values, the least first. They are those of the call's moment, whatever becomes of the variable on the way.
func (d Domain) All() iter.Seq[int] {
	return func(yield func(int) bool) {
		for w, word := range d {
			for ; word != 0; word &= word - 1 {
				if !yield(w*wordBits + bits.TrailingZeros64(word) - api.MaxValue) {
					return
				}
			}
		}
	}
}

// One tells whether there is one value alone, and which.
func (d Domain) One() (int, bool) {
	for value := range d.All() {
		return value, d == Only(value)
	}
	return 0, false
}
