package logic

// Truth is what is known of a condition, or of an atom.
type Truth int8

const (
	Open Truth = iota // nothing
	Holding
	Failing
)

func truthOf(holds bool) Truth {
	if holds {
		return Holding
	}
	return Failing
}

// Not is what is known of the opposite.
func (t Truth) Not() Truth {
	switch t {
	case Holding:
		return Failing
	case Failing:
		return Holding
	}
	return Open
}

// Both is what is known of two holding together: one that fails settles it,
// whatever the other is.
func Both(one, other Truth) Truth {
	switch {
	case one == Failing || other == Failing:
		return Failing
	case one == Holding && other == Holding:
		return Holding
	}
	return Open
}

// Either is what is known of at least one of two holding.
func Either(one, other Truth) Truth { return Both(one.Not(), other.Not()).Not() }
