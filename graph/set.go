package graph

import "pannier/api"

// word is how many bits a number of a set has.
const word = 64

// set is some cells of a graph, by their places.
type set [(api.MaxCells + word - 1) / word]uint64

// put puts a cell in.
func (s *set) put(at int) { s[at/word] |= 1 << (at % word) }

// drop takes a cell out.
func (s *set) drop(at int) { s[at/word] &^= 1 << (at % word) }

// has tells whether a cell is in it.
func (s *set) has(at int) bool { return s[at/word]>>(at%word)&1 == 1 }

// add puts all of o in.
func (s *set) add(o *set) {
	for i := range s {
		s[i] |= o[i]
	}
}

// meets tells whether some cell is in both.
func (s *set) meets(o *set) bool {
	for i := range s {
		if s[i]&o[i] != 0 {
			return true
		}
	}
	return false
}
