// Package syntax reads programs: from a text to what it is made of, or to the
// first place at which it is no program.
package syntax

// Program is `from` From `do` Body `to` To.
type Program struct {
	From Formula
	Body []Command
	To   Formula
}

// CommandKind is what a command is.
type CommandKind int

const (
	Skip CommandKind = iota
	Assign
	If
	While
)

// Command is one command; what its kind does not have is zero.
type Command struct {
	Kind   CommandKind
	Target int       // of Assign: the variable's index in a state
	Term   Term      // of Assign
	Test   Formula   // of If and While
	Keep   Formula   // of While
	First  []Command // of If behind `then`, of While behind `do`
	Second []Command // of If behind `else`
}

// FormulaKind is what a formula is.
type FormulaKind int

const (
	True FormulaKind = iota
	False
	Compare
	Not
	And
	Or
)

// Formula is one formula; what its kind does not have is zero.
type Formula struct {
	Kind     FormulaKind
	Parts    []Formula // one of Not, two of And and Or
	Relation Relation  // of Compare, as are Left and Right
	Left     Term
	Right    Term
}

// Relation is what stands between two terms.
type Relation int

const (
	Less Relation = iota
	AtMost
	Equal
	Greater
	AtLeast
)

// NoVariable is the Variable of a term that is a number alone.
const NoVariable = -1

// Term is a variable, given by its index in a state, and a number added to it;
// or the number alone.
type Term struct {
	Variable int
	Number   int
}
