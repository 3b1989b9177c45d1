package recipe

import (
	"acrospire/api"
	"strconv"
	"strings"
)

// none is what accept returns instead of an operator; it is no operator itself.
const none = 0

// A parser reads an expression, and gives the compiler the instructions for its parts: those of the operands first, so that they need no more of the stack than there are levels of the grammar and parentheses.
type parser struct {
	*compiler
	text        string
	at          int
	parentheses int // that are open
}

// expression adds instructions by which the value of the expression comes onto the stack.
func (c *compiler) expression(text string) {
	p := parser{compiler: c, text: text}
	p.or()
	if p.at < len(text) {
		c.reject()
	}
}

// accept skips the next byte if it is one of these operators, and returns it.
func (p *parser) accept(operators string) byte {
	if p.at == len(p.text) || strings.IndexByte(operators, p.text[p.at]) < 0 {
		return none
	}
	p.at++
	return p.text[p.at-1]
}

// operate adds the instruction of an operation.
func (p *parser) operate(op int) {
	p.terms++
	p.add(op, 0)
}

// or uses that x|y is not (not x and not y); not makes of both operands 0 or 1, the product of which is a number.
func (p *parser) or() {
	p.and()
	for p.accept("|") != none {
		p.add(api.OpNot, 0)
		p.and()
		p.add(api.OpNot, 0)
		p.operate(api.OpMul)
		p.add(api.OpNot, 0)
	}
}

// and uses that x&y is not (not x or not y).
func (p *parser) and() {
	p.test()
	for p.accept("&") != none {
		p.add(api.OpNot, 0)
		p.test()
		p.add(api.OpNot, 0)
		p.operate(api.OpAdd)
		p.add(api.OpNot, 0)
	}
}

func (p *parser) test() {
	p.sum()
	if operator := p.accept("=<>"); operator != none {
		p.sum()
		p.operate(operation(operator))
	}
}

func (p *parser) sum() {
	p.prod()
	for operator := p.accept("+-"); operator != none; operator = p.accept("+-") {
		p.prod()
		p.operate(operation(operator))
	}
}

func (p *parser) prod() {
	p.sign()
	for operator := p.accept("*/%"); operator != none; operator = p.accept("*/%") {
		p.sign()
		p.operate(operation(operator))
	}
}

// operation returns the instruction that does what the operator means.
func operation(operator byte) int {
	switch operator {
	case '=':
		return api.OpEq
	case '<':
		return api.OpLess
	case '>':
		return api.OpMore
	case '+':
		return api.OpAdd
	case '-':
		return api.OpSub
	case '*':
		return api.OpMul
	case '/':
		return api.OpDiv
	default:
		return api.OpMod
	}
}

// sign multiplies by -1 where 0 minus the value is meant, since that 0 would have to be on the stack before the value, for each of the signs.
func (p *parser) sign() {
	signs := 0
	for p.accept("-") != none {
		signs++
	}
	p.prim()
	for range signs {
		p.add(api.OpPush, -1)
		p.operate(api.OpMul)
	}
}

func (p *parser) prim() {
	rest := p.text[p.at:]
	if digits := prefix(rest, isDigit); digits > 0 {
		p.numeral(rest[:digits])
	} else if letters := prefix(rest, isLetter); letters > 0 {
		p.name(rest[:letters])
	} else {
		p.inner()
	}
}

func (p *parser) numeral(digits string) {
	value, err := strconv.Atoi(digits)
	if err != nil || !isNumber(value) || digits[0] == '0' && len(digits) > 1 {
		p.reject()
	}
	p.at += len(digits)
	p.terms++
	p.add(api.OpPush, value)
}

func (p *parser) name(letters string) {
	if !isName(letters) {
		p.reject()
	}
	p.at += len(letters)
	p.terms++
	p.add(api.OpLoad, p.slot(letters))
}

// inner reads an expression in parentheses.
func (p *parser) inner() {
	if p.parentheses == api.MaxNesting || p.accept("(") == none {
		p.reject()
	}
	p.parentheses++
	p.or()
	if p.accept(")") == none {
		p.reject()
	}
	p.parentheses--
}
