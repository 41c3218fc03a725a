package token

import (
	"strings"

	"avouch/api"
)

// Scan cuts the whole text: it refuses nothing, for a word that can't stand
// anywhere is for the reader to tell, at its place and in its order.
func Scan(text string) []Token {
	var tokens []Token
	at := 0
	for at < len(text) {
		if isBlank(text[at]) {
			at++
			continue
		}
		found, length := tokenAt(text, at)
		tokens = append(tokens, found)
		at += length
	}
	return append(tokens, Token{Kind: EndOfText, Place: len(text)})
}

func tokenAt(text string, at int) (Token, int) {
	if kind, length := symbolAt(text, at); length > 0 {
		return Token{Kind: kind, Place: at}, length
	}
	end := wordEnd(text, at)
	kind, value := wordKind(text[at:end])
	return Token{Kind: kind, Place: at, Value: value}, end - at
}

func isBlank(b byte) bool { return b == ' ' || b == '\n' }

// symbolAt asks for the symbols of two bytes first: a token is as long as can
// be. The length is 0 where no symbol begins.
func symbolAt(text string, at int) (Kind, int) {
	if kind := longSymbol(text[at:]); kind != Unknown {
		return kind, 2
	}
	if kind := shortSymbol(text[at]); kind != Unknown {
		return kind, 1
	}
	return Unknown, 0
}

func longSymbol(rest string) Kind {
	switch {
	case strings.HasPrefix(rest, ":="):
		return Assign
	case strings.HasPrefix(rest, "<="):
		return AtMost
	case strings.HasPrefix(rest, ">="):
		return AtLeast
	}
	return Unknown
}

func shortSymbol(b byte) Kind {
	switch b {
	case '(':
		return Open
	case ')':
		return Close
	case ';':
		return Semicolon
	case '<':
		return Less
	case '=':
		return Equal
	case '>':
		return Greater
	case '+':
		return Plus
	case '-':
		return Minus
	}
	return Unknown
}

// wordEnd is asked only where neither a blank nor a symbol begins, so a word
// has at least one byte.
func wordEnd(text string, at int) int {
	end := at + 1
	for end < len(text) && !isBlank(text[end]) {
		if _, length := symbolAt(text, end); length > 0 {
			break
		}
		end++
	}
	return end
}

func wordKind(word string) (Kind, int) {
	if kind := keyword(word); kind != Unknown {
		return kind, 0
	}
	if index := variable(word); index >= 0 {
		return Variable, index
	}
	if value := number(word); value >= 0 {
		return Number, value
	}
	return Unknown, 0
}

func keyword(word string) Kind {
	switch word {
	case "from":
		return From
	case "do":
		return Do
	case "to":
		return To
	case "skip":
		return Skip
	case "if":
		return If
	case "then":
		return Then
	case "else":
		return Else
	case "end":
		return End
	case "while":
		return While
	case "keep":
		return Keep
	case "or":
		return Or
	case "and":
		return And
	case "not":
		return Not
	case "true":
		return True
	case "false":
		return False
	}
	return Unknown
}

// variable is -1 of a word that is none.
func variable(word string) int {
	if len(word) != 1 || word[0] < 'a' || word[0] >= 'a'+api.Vars {
		return -1
	}
	return int(word[0] - 'a')
}

// number is -1 of a word that is none. It stops as soon as the bound is
// passed, so that no row of digits is too long for an int.
func number(word string) int {
	if len(word) > 1 && word[0] == '0' {
		return -1
	}
	value := 0
	for i := 0; i < len(word); i++ {
		if word[i] < '0' || word[i] > '9' {
			return -1
		}
		value = value*10 + int(word[i]-'0')
		if value > api.MaxNumber {
			return -1
		}
	}
	return value
}
