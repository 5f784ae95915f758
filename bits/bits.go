// Package bits is layer 1: sets of numbers as bits in words of 64.
package bits

import (
	"math/bits"

	"gleaner/api"
)

// A number shifted by wordShift is its word's index; its lowest wordShift bits are its bit's.
const (
	wordShift = 6
	wordBits  = 1 << wordShift
	bitMask   = wordBits - 1
	allBits   = ^uint64(0)
)

// Set has numbers from 0 to its length less 1. Bits at or above the length are never set, so that whole words may be counted and listed.
type Set struct {
	length int
	words  []uint64
}

// New gives an empty set of the length n. ErrRange.
func New(n int) (*Set, api.Errno) {
	if n < 0 || n > api.MaxWords {
		return nil, api.ErrRange
	}
	return &Set{length: n, words: make([]uint64, wordsBelow(n))}, api.OK
}

// Len is one more than the greatest number that may be in the set.
func (s *Set) Len() int {
	if s == nil {
		return 0
	}
	return s.length
}

// Has tells whether a number is in the set.
func (s *Set) Has(i int) bool {
	return s.may(i) && s.words[i>>wordShift]&bitOf(i) != 0
}

// Put lays a number into the set, and tells whether it was not there. ErrNil, ErrRange.
func (s *Set) Put(i int) (bool, api.Errno) {
	return s.turn(i, true)
}

// Drop takes a number out of the set, and tells whether it was there. ErrNil, ErrRange.
func (s *Set) Drop(i int) (bool, api.Errno) {
	return s.turn(i, false)
}

// Next is the least number in the set from i on; -1, if there is none.
func (s *Set) Next(i int) int {
	from := max(i, 0)
	if !s.may(from) {
		return -1
	}
	at := from >> wordShift
	word := s.words[at] & (allBits << uint(from&bitMask))
	for word == 0 {
		at++
		if at == len(s.words) {
			return -1
		}
		word = s.words[at]
	}
	return at<<wordShift + bits.TrailingZeros64(word)
}

// Count tells how many numbers in the set are from from on and below to.
func (s *Set) Count(from, to int) int {
	// Turned-round bounds need no asking: they leave no word to go through, or no bit between them.
	from, to = max(from, 0), min(to, s.Len())
	// No set is longer than MaxWords: 32 bits hold every count.
	var total uint32
	for at := from >> wordShift; at < wordsBelow(to); at++ {
		total += uint32(bits.OnesCount64(s.words[at] & between(at, from, to)))
	}
	return int(total)
}

// Fill lays all numbers from from on and below to into the set, or, if on is false, takes them out. ErrNil, ErrRange.
func (s *Set) Fill(from, to int, on bool) api.Errno {
	if s == nil {
		return api.ErrNil
	}
	if from < 0 || to < from || to > s.length {
		return api.ErrRange
	}
	for at := from >> wordShift; at < wordsBelow(to); at++ {
		if on {
			s.words[at] |= between(at, from, to)
		} else {
			s.words[at] &^= between(at, from, to)
		}
	}
	return api.OK
}

// List is all numbers in the set, rising.
func (s *Set) List() []int {
	if s == nil {
		return nil
	}
	list := make([]int, 0, s.Count(0, s.length))
	for at, word := range s.words {
		for word != 0 {
			list = append(list, at<<wordShift+bits.TrailingZeros64(word))
			word &= word - 1
		}
	}
	return list
}

// may tells whether a number may be in the set; none may be in a nil one.
func (s *Set) may(i int) bool {
	return s != nil && i >= 0 && i < s.length
}

// turn makes a number be in the set or not, and tells whether that is a change.
func (s *Set) turn(i int, on bool) (bool, api.Errno) {
	if s == nil {
		return false, api.ErrNil
	}
	if !s.may(i) {
		return false, api.ErrRange
	}
	if s.Has(i) == on {
		return false, api.OK
	}
	s.words[i>>wordShift] ^= bitOf(i)
	return true, api.OK
}

// wordsBelow is how many words the numbers below n lie in.
func wordsBelow(n int) int {
	return (n + bitMask) >> wordShift
}

// bitOf is the bit of a number within its word.
func bitOf(i int) uint64 {
	return uint64(1) << uint(i&bitMask)
}

// between has the bits of the word at whose numbers are from from on and below to.
func between(at, from, to int) uint64 {
	low, high := at<<wordShift, (at+1)<<wordShift
	mask := allBits
	if from > low {
		mask &= allBits << uint(from-low)
	}
	if to < high {
		mask &= allBits >> uint(high-to)
	}
	return mask
}
