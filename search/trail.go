package search

import "assay/domain"

// change of what is known of a variable: what was left of it ahead.
type change struct {
	variable int
	was      domain.Domain
}

// put changes what is left of a variable: what was left goes on the trail, and the constraints that may conclude more now are marked.
func (s *search) put(variable int, left domain.Domain) {
	s.trail = append(s.trail, change{variable, s.left[variable]})
	s.set(variable, left)
	for _, c := range s.users[variable] {
		s.marked[c] = true
	}
}

// takeBack undoes the changes behind the first so many, the last one first.
func (s *search) takeBack(start int) {
	for len(s.trail) > start {
		last := s.trail[len(s.trail)-1]
		s.trail = s.trail[:len(s.trail)-1]
		s.set(last.variable, last.was)
	}
}

func (s *search) set(variable int, left domain.Domain) {
	s.left[variable] = left
	s.values[variable], s.fixed[variable] = left.One()
}
