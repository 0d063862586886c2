package stack

// At: a stack whose moment is that one; as many ticks would take too long.
func (s *Stack) At(moment int) { s.moment = moment }

// Uses: how often something was used.
func (s *Stack) Uses() int { return s.uses }
