package avouch_test

import (
	"regexp"
	"strconv"
	"strings"
)

// maker makes programs of chance, and their conditions with them: by the
// document's words, on texts alone.
type maker struct {
	dice
	longest int // of the conditions that came up, those on the way too
}

// A made formula: as a program has it, and as a condition.
type madeFormula struct{ text, condition string }

// made commands: their text, what must hold ahead of them, and what their
// loops ask for, by what must hold behind them.
type made struct {
	text  string
	ahead func(behind string) string
	loops func(behind string) []string
}

func (m *maker) noted(condition string) string {
	m.longest = max(m.longest, len(condition))
	return condition
}

func (m *maker) blank() string { return m.of([]string{"", "", " ", "\n"}) }

func (m *maker) gap() string { return m.of([]string{" ", " ", "\n", "  "}) }

func (m *maker) number() int { return []int{0, 1, 2, 3, 10, 99, 999}[m.below(7)] }

// term is u + n; u is "0", if there is no variable.
func (m *maker) term() (text, u string, n int) {
	u, n = m.of([]string{"a", "b", "c", "d"}), m.number()
	number := strconv.Itoa(n)
	switch m.below(5) {
	case 0:
		return u + m.blank() + "+" + m.blank() + number, u, n
	case 1:
		return u + m.blank() + "-" + m.blank() + number, u, -n
	case 2:
		return number, "0", n
	case 3:
		return "-" + m.blank() + number, "0", -n
	}
	return u, u, 0
}

// difference is u - v <= n as a condition.
func difference(u, v string, n int) string {
	switch {
	case u != v:
		return u + "-" + v + "<=" + strconv.Itoa(n) + "."
	case n < 0:
		return "f"
	}
	return "t"
}

func (m *maker) comparison() madeFormula {
	left, u, p := m.term()
	right, v, q := m.term()
	upTo, downTo := difference(u, v, q-p), difference(v, u, p-q)
	relation := m.of([]string{"<", "<=", "=", ">", ">="})
	condition := map[string]string{
		"<":  difference(u, v, q-p-1),
		"<=": upTo,
		"=":  "&" + upTo + downTo,
		">":  difference(v, u, p-q-1),
		">=": downTo,
	}[relation]
	return madeFormula{left + m.blank() + relation + m.blank() + right, condition}
}

func (m *maker) factor(room int) madeFormula {
	kind := m.below(10)
	if room == 0 {
		kind = 3 + m.below(7)
	}
	switch kind {
	case 0:
		inner := m.factor(room - 1)
		return madeFormula{"not" + m.gap() + inner.text, "!" + inner.condition}
	case 1, 2:
		inner := m.formula(room - 1)
		return madeFormula{"(" + m.blank() + inner.text + ")", inner.condition}
	case 3:
		return madeFormula{"true", "t"}
	case 4:
		return madeFormula{"false", "f"}
	}
	return m.comparison()
}

func (m *maker) chain(word, mark string, link func() madeFormula) madeFormula {
	whole := link()
	for m.below(4) == 0 {
		next := link()
		whole = madeFormula{whole.text + " " + word + m.gap() + next.text, mark + whole.condition + next.condition}
	}
	return whole
}

func (m *maker) formula(room int) madeFormula {
	return m.chain("or", "|", func() madeFormula {
		return m.chain("and", "&", func() madeFormula { return m.factor(room) })
	})
}

var atomForm = regexp.MustCompile(`([0abcd])-([0abcd])<=(-?[0-9]+)\.`)

// replaced is a condition with u + n in the place of x.
func replaced(condition, x, u string, n int) string {
	return atomForm.ReplaceAllStringFunc(condition, func(atom string) string {
		found := atomForm.FindStringSubmatch(atom)
		bound, _ := strconv.Atoi(found[3])
		if found[1] == x {
			return difference(u, found[2], bound-n)
		}
		if found[2] == x {
			return difference(found[1], u, bound+n)
		}
		return atom
	})
}

func noLoops(string) []string { return nil }

func (m *maker) skip() made {
	return made{"skip", m.noted, noLoops}
}

func (m *maker) assignment() made {
	x := m.of([]string{"a", "b", "c", "d"})
	text, u, n := m.term()
	ahead := func(behind string) string { return m.noted(replaced(behind, x, u, n)) }
	return made{x + m.blank() + ":=" + m.blank() + text, ahead, noLoops}
}

func (m *maker) choice(test madeFormula, first, second made) made {
	text := "if " + test.text + m.gap() + "then " + first.text + " else " + second.text + m.gap() + "end"
	ahead := func(behind string) string {
		return m.noted("|&" + test.condition + first.ahead(behind) + "&!" + test.condition + second.ahead(behind))
	}
	loops := func(behind string) []string {
		return append(first.loops(behind), second.loops(behind)...)
	}
	return made{text, ahead, loops}
}

func (m *maker) loop(test, keep madeFormula, body made) made {
	text := "while " + test.text + " keep " + keep.text + " do " + body.text + m.gap() + "end"
	ahead := func(string) string { return m.noted(keep.condition) }
	loops := func(behind string) []string {
		own := []string{
			m.noted(">&" + keep.condition + test.condition + body.ahead(keep.condition)),
			m.noted(">&" + keep.condition + "!" + test.condition + behind),
		}
		return append(own, body.loops(keep.condition)...)
	}
	return made{text, ahead, loops}
}

func (m *maker) sequence(first, second made) made {
	ahead := func(behind string) string { return first.ahead(second.ahead(behind)) }
	loops := func(behind string) []string {
		return append(first.loops(second.ahead(behind)), second.loops(behind)...)
	}
	return made{first.text + m.blank() + ";" + m.blank() + second.text, ahead, loops}
}

func (m *maker) command(room int, withLoops bool) made {
	kind := m.below(6)
	if room == 0 {
		kind = m.below(3)
	}
	switch {
	case kind == 0:
		return m.skip()
	case kind <= 2 || kind == 5 && !withLoops:
		return m.assignment()
	case kind == 5:
		return m.loop(m.factor(1), m.factor(1), m.commands(room-1, withLoops))
	}
	return m.choice(m.factor(1), m.commands(room-1, withLoops), m.commands(room-1, withLoops))
}

func (m *maker) commands(room int, withLoops bool) made {
	list := m.command(room, withLoops)
	for m.below(3) == 0 {
		list = m.sequence(list, m.command(room, withLoops))
	}
	return list
}

// doubling is a row of choices, each of which doubles what must hold ahead.
func (m *maker) doubling(withLoops bool) made {
	list := m.command(1, withLoops)
	for range 5 + m.below(3) {
		u := m.of([]string{"a", "b"})
		test := madeFormula{u + "=c", "&" + difference(u, "c", 0) + difference("c", u, 0)}
		first, second := m.skip(), m.skip()
		if m.below(3) == 0 {
			first = m.assignment()
		}
		list = m.sequence(m.choice(test, first, second), list)
	}
	if m.below(2) == 0 {
		list = m.sequence(m.assignment(), list)
	}
	return list
}

// program gives a text with the conditions that the document asks for.
func (m *maker) program(withLoops bool) (string, []string) {
	m.longest = 0
	ahead, behind := m.formula(2), m.formula(2)
	var body made
	if m.below(4) == 0 {
		body = m.doubling(withLoops)
	} else {
		body = m.commands(4, withLoops)
	}
	text := strings.Join([]string{"from " + ahead.text, "do " + body.text, "to " + behind.text}, m.gap())
	if len(text) > 300 {
		return text, nil
	}
	first := m.noted(">" + ahead.condition + body.ahead(behind.condition))
	return text, append([]string{first}, body.loops(behind.condition)...)
}
