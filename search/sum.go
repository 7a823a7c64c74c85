package search

import (
	"assay/api"
	"assay/domain"
	"assay/rule"
)

// split gives the factor of a variable in a sum, all its terms taken together, and what the terms of the others, which are fixed, come to.
func (s *search) split(terms []rule.Term, variable int) (factor, rest int) {
	for _, t := range terms {
		if t.Var == variable {
			factor += t.Factor
		} else {
			rest += t.Factor * s.values[t.Var]
		}
	}
	return factor, rest
}

// suiting gives those of the values for which it is true, or not, that factor times the value is in the relation to the number.
func suiting(values domain.Domain, factor int, rel rule.Rel, number int, truth bool) domain.Domain {
	set := atMost(factor, number)
	if rel != rule.AtMost {
		set = set.And(atMost(-factor, -number))
	}
	if truth == (rel == rule.Unequal) {
		return values.Without(set)
	}
	return values.And(set)
}

// atMost gives all values that are, times the factor, at most the number.
func atMost(factor, number int) domain.Domain {
	switch {
	case factor > 0:
		return domain.Between(-api.MaxValue, floor(number, factor))
	case factor < 0:
		return domain.Between(-floor(number, -factor), api.MaxValue)
	case number >= 0:
		return domain.Between(-api.MaxValue, api.MaxValue)
	}
	return domain.Domain{}
}

// floor divides and rounds down, where / rounds to nought.
func floor(number, by int) int {
	quotient := number / by
	if number%by < 0 {
		quotient--
	}
	return quotient
}
