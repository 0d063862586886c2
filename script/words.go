package script

// parts that the steps of a word have: none of the numbers, A, or A and B; and data?
type parts struct {
	numbers int
	data    bool
}

// words that there are, and what parts their steps have.
func words() map[string]parts {
	return map[string]parts{
		"read":     {numbers: 2},
		"write":    {numbers: 2, data: true},
		"sync":     {numbers: 1},
		"got":      {numbers: 1},
		"end":      {numbers: 1},
		"fault":    {numbers: 1},
		"settle":   {numbers: 1},
		"crash":    {numbers: 1},
		"tick":     {},
		"clean":    {},
		"dispatch": {},
		"round":    {},
		"queue":    {},
		"busy":     {},
		"dirty":    {},
	}
}

// fit: has a step just such parts?
func (p parts) fit(s Step) bool {
	return (p.numbers > 0 || s.A == 0) &&
		(p.numbers > 1 || s.B == 0) &&
		(p.data || s.Data == "")
}
