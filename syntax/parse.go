package syntax

import (
	"avouch/api"
	"avouch/token"
)

// Parse reads a program. With an error the program is empty, and the place of
// the error comes with it.
func Parse(text string) (Program, api.Errno, int) {
	if len(text) > api.MaxText {
		return Program{}, api.ErrLong, 0
	}
	p := parser{tokens: token.Scan(text)}
	program := p.program()
	if p.errno != api.OK {
		return Program{}, p.errno, p.place
	}
	return program, api.OK, 0
}

// parser reads the tokens once, from the left. By its next token alone each
// rule knows how to go on, so the first token that is refused is the first one
// with which no program begins.
type parser struct {
	tokens []token.Token // the last one is EndOfText
	next   int
	depth  int // how many of `(`, `not`, `if`, `while` have begun and not ended
	errno  api.Errno
	place  int
}

func (p *parser) peek() token.Kind { return p.tokens[p.next].Kind }

// advance stays at EndOfText, so that there is always a token to look at.
func (p *parser) advance() token.Token {
	taken := p.tokens[p.next]
	if taken.Kind != token.EndOfText {
		p.next++
	}
	return taken
}

// refuse keeps the first error. It goes to the end of the text, where every
// rule ends at once: no rule has to ask whether those within it went well.
func (p *parser) refuse(errno api.Errno) {
	if p.errno == api.OK {
		p.errno = errno
		p.place = p.tokens[p.next].Place
	}
	p.next = len(p.tokens) - 1
}

func (p *parser) take(kind token.Kind) bool {
	if p.peek() != kind {
		return false
	}
	p.advance()
	return true
}

// expect gives the value of a token that must stand here.
func (p *parser) expect(kind token.Kind) int {
	if p.peek() != kind {
		p.refuse(api.ErrText)
		return 0
	}
	return p.advance().Value
}

// enter takes a token that holds others within it.
func (p *parser) enter() {
	if p.depth == api.MaxDepth {
		p.refuse(api.ErrDeep)
		return
	}
	p.depth++
	p.advance()
}

func (p *parser) leave() { p.depth-- }

func (p *parser) program() Program {
	var program Program
	p.expect(token.From)
	program.From = p.formula()
	p.expect(token.Do)
	program.Body = p.commands()
	p.expect(token.To)
	program.To = p.formula()
	p.expect(token.EndOfText)
	return program
}

func (p *parser) commands() []Command {
	list := []Command{p.command()}
	for p.take(token.Semicolon) {
		list = append(list, p.command())
	}
	return list
}

func (p *parser) command() Command {
	switch p.peek() {
	case token.Skip:
		p.advance()
		return Command{Kind: Skip}
	case token.Variable:
		return p.assignment()
	case token.If:
		return p.choice()
	case token.While:
		return p.loop()
	}
	p.refuse(api.ErrText)
	return Command{}
}

func (p *parser) assignment() Command {
	command := Command{Kind: Assign}
	command.Target = p.expect(token.Variable)
	p.expect(token.Assign)
	command.Term = p.term()
	return command
}

func (p *parser) choice() Command {
	command := Command{Kind: If}
	p.enter()
	command.Test = p.formula()
	p.expect(token.Then)
	command.First = p.commands()
	p.expect(token.Else)
	command.Second = p.commands()
	p.expect(token.End)
	p.leave()
	return command
}

func (p *parser) loop() Command {
	command := Command{Kind: While}
	p.enter()
	command.Test = p.formula()
	p.expect(token.Keep)
	command.Keep = p.formula()
	p.expect(token.Do)
	command.First = p.commands()
	p.expect(token.End)
	p.leave()
	return command
}

func (p *parser) formula() Formula { return p.chain(token.Or, Or, p.part) }

func (p *parser) part() Formula { return p.chain(token.And, And, p.factor) }

// chain makes one of the first two, then one of that and the third, and so on.
func (p *parser) chain(between token.Kind, kind FormulaKind, link func() Formula) Formula {
	whole := link()
	for p.take(between) {
		whole = Formula{Kind: kind, Parts: []Formula{whole, link()}}
	}
	return whole
}

func (p *parser) factor() Formula {
	switch p.peek() {
	case token.Not:
		p.enter()
		inner := p.factor()
		p.leave()
		return Formula{Kind: Not, Parts: []Formula{inner}}
	case token.Open:
		p.enter()
		inner := p.formula()
		p.expect(token.Close)
		p.leave()
		return inner
	case token.True:
		p.advance()
		return Formula{Kind: True}
	case token.False:
		p.advance()
		return Formula{Kind: False}
	}
	return p.comparison()
}

func (p *parser) comparison() Formula {
	formula := Formula{Kind: Compare}
	formula.Left = p.term()
	formula.Relation = p.relation()
	formula.Right = p.term()
	return formula
}

func (p *parser) relation() Relation {
	relation := Less
	switch p.peek() {
	case token.Less:
	case token.AtMost:
		relation = AtMost
	case token.Equal:
		relation = Equal
	case token.Greater:
		relation = Greater
	case token.AtLeast:
		relation = AtLeast
	default:
		p.refuse(api.ErrText)
	}
	p.advance()
	return relation
}

func (p *parser) term() Term {
	if p.peek() == token.Variable {
		variable := p.advance().Value
		return Term{Variable: variable, Number: p.addend()}
	}
	if p.take(token.Minus) {
		return Term{Variable: NoVariable, Number: -p.expect(token.Number)}
	}
	return Term{Variable: NoVariable, Number: p.expect(token.Number)}
}

// addend is what is added to a variable: 0, if nothing is.
func (p *parser) addend() int {
	if p.take(token.Plus) {
		return p.expect(token.Number)
	}
	if p.take(token.Minus) {
		return -p.expect(token.Number)
	}
	return 0
}
