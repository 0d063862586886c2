// Package span: spans of sectors.
package span

import "weighbridge/api"

// Check a span: of so many at most.
func Check(s api.Span, most int) error {
	if s.From < 0 || s.From >= api.Sectors || s.Many < 1 || s.Many > most {
		return api.ErrBound
	}
	// From+Many could wrap round, what is left behind From can't.
	if s.Many > api.Sectors-s.From {
		return api.ErrBound
	}
	return nil
}

// Meet: have two a sector in common?
func Meet(a, b api.Span) bool {
	// If there are any in common, the higher beginning is the first of them.
	first := max(a.From, b.From)
	return Has(a, first) && Has(b, first)
}

// Next: does one begin where another one ends?
func Next(a, b api.Span) bool {
	return a.From+a.Many == b.From
}

// Has: is a sector in a span?
func Has(s api.Span, at int) bool {
	// A difference that wrapped round is below 0: it is more than any Many.
	i := at - s.From
	return at >= s.From && i >= 0 && i < s.Many
}
