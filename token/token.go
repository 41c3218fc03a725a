// Package token cuts the text of a program into its tokens.
package token

// Kind is what a token is.
type Kind int

const (
	EndOfText Kind = iota // stands behind the last token, so that a reader always has one to look at
	Unknown               // a word that no program has
	Open
	Close
	Semicolon
	Assign
	Less
	AtMost
	Equal
	Greater
	AtLeast
	Plus
	Minus
	From
	Do
	To
	Skip
	If
	Then
	Else
	End
	While
	Keep
	Or
	And
	Not
	True
	False
	Variable
	Number
)

// Token is one token of a text.
type Token struct {
	Kind  Kind
	Place int // of its first byte
	Value int // of a variable its index in a state, of a number the number
}
