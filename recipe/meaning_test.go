package recipe_test

import (
	"math/big"
	"slices"
	"strings"

	"acrospire/api"
)

// A node is a part of an expression: a numeral, a name, or an operation with one or two operands.
type node struct {
	operator    byte // 'n' for a numeral, 'v' for a name
	value       int
	name        string
	left, right *node // a sign has no left
}

// levels are the operators of the grammar from the weakest to the strongest.
var levels = []string{"|", "&", "=<>", "+-", "*/%"}

// split returns the tokens of an expression: numerals, names, and single other bytes.
func split(text string) []string {
	var tokens []string
	for i := 0; i < len(text); {
		end := i + 1
		for isWordByte(text[i]) && end < len(text) && isWordByte(text[end]) && isDigit(text[end]) == isDigit(text[i]) {
			end++
		}
		tokens = append(tokens, text[i:end])
		i = end
	}
	return tokens
}

func isDigit(b byte) bool {
	return b >= '0' && b <= '9'
}

func isWordByte(b byte) bool {
	return isDigit(b) || b >= 'a' && b <= 'z'
}

// parse reads an expression by looking for the weakest operator that is outside of all parentheses; nil is a wrong expression.
func parse(tokens []string) *node {
	if deepest(tokens) > 16 {
		return nil
	}
	for level := range levels {
		if found := outer(tokens, levels[level]); len(found) > 0 {
			at := found[len(found)-1] // the last one, since they are left-associative
			if level == 2 && len(found) > 1 {
				return nil
			}
			left, right := parse(tokens[:at]), parse(tokens[at+1:])
			if left == nil || right == nil {
				return nil
			}
			return &node{operator: tokens[at][0], left: left, right: right}
		}
	}
	return parseSign(tokens)
}

func parseSign(tokens []string) *node {
	if len(tokens) > 1 && tokens[0] == "-" {
		operand := parseSign(tokens[1:])
		if operand == nil {
			return nil
		}
		return &node{operator: '-', right: operand}
	}
	last := len(tokens) - 1
	if last == 0 {
		return parseWord(tokens[0])
	}
	if last > 1 && tokens[0] == "(" && tokens[last] == ")" {
		return parse(tokens[1:last])
	}
	return nil
}

func parseWord(word string) *node {
	if isNameWord(word) {
		return &node{operator: 'v', name: word}
	}
	value, ok := new(big.Int).SetString(word, 10)
	if !isDigit(word[0]) || !ok || value.String() != word || !isNumber(value) {
		return nil
	}
	return &node{operator: 'n', value: int(value.Int64())}
}

func isNameWord(word string) bool {
	return len(word) >= 1 && len(word) <= 16 && strings.Trim(word, "abcdefghijklmnopqrstuvwxyz") == ""
}

// outer returns where the tokens have one of these operators between operands, outside of all parentheses.
func outer(tokens []string, operators string) []int {
	var found []int
	depth := 0
	for i, token := range tokens {
		if token == "(" {
			depth++
		}
		if token == ")" {
			depth--
		}
		if depth == 0 && i > 0 && strings.Contains(operators, token) && !strings.Contains("|&=<>+-*/%(", tokens[i-1]) {
			found = append(found, i)
		}
	}
	return found
}

func deepest(tokens []string) int {
	depth, most := 0, 0
	for _, token := range tokens {
		if token == "(" {
			depth++
		}
		if token == ")" {
			depth--
		}
		most = max(most, depth)
	}
	return most
}

// terms counts the numerals, names and operations.
func (n *node) terms() int {
	if n == nil {
		return 0
	}
	return 1 + n.left.terms() + n.right.terms()
}

// names returns all names in their order.
func (n *node) names() []string {
	if n == nil {
		return nil
	}
	if n.operator == 'v' {
		return []string{n.name}
	}
	return append(n.left.names(), n.right.names()...)
}

// A form is a line of a recipe, with the forms between it and its else and end.
type form struct {
	word, name   string
	expr         *node
	inner, other []*form
	hasElse      bool
}

// A script is a recipe by a plain reading of the chapter.
type script struct {
	forms []*form
	names []string
	terms int
}

// readLine reads a line; nil is a line that is not as described.
func readLine(words []string) *form {
	kind := words[0]
	if (kind == "else" || kind == "end") && len(words) == 1 {
		return &form{word: kind}
	}
	name := ""
	if kind == "let" && len(words) > 1 && isNameWord(words[1]) {
		name = words[1]
		words = words[1:]
	}
	oneExpr := kind == "while" || kind == "if" || kind == "emit" || kind == "let" && name != ""
	if !oneExpr || len(words) != 2 {
		return nil
	}
	expr := parse(split(words[1]))
	if expr == nil {
		return nil
	}
	return &form{word: kind, name: name, expr: expr}
}

// read returns the recipe, or the position of the line that is wrong, or of the first one that is missing.
func read(text string, inputs []string) (*script, int) {
	s := &script{names: slices.Clone(inputs)}
	lines := strings.Split(text, "\n")
	if lines[len(lines)-1] == "" {
		lines = lines[:len(lines)-1]
	}
	top := &form{}
	open := []*form{top}
	for i, line := range lines {
		words := slices.DeleteFunc(strings.Split(line, " "), func(word string) bool { return word == "" })
		if len(words) == 0 || words[0][0] == '#' {
			continue
		}
		f := readLine(words)
		if f == nil {
			return nil, i + 1
		}
		last := open[len(open)-1]
		switch f.word {
		case "else":
			if last.word != "if" || last.hasElse {
				return nil, i + 1
			}
			last.hasElse = true
			continue
		case "end":
			if last == top {
				return nil, i + 1
			}
			open = open[:len(open)-1]
			continue
		}
		s.note(f)
		if last.hasElse {
			last.other = append(last.other, f)
		} else {
			last.inner = append(last.inner, f)
		}
		if f.word == "while" || f.word == "if" {
			open = append(open, f)
		}
		if len(open) > 1+16 {
			return nil, i + 1
		}
	}
	if len(open) > 1 {
		return nil, len(lines) + 1
	}
	s.forms = top.inner
	return s, 0
}

// note counts the terms of a line, and notes its names.
func (s *script) note(f *form) {
	s.terms += 1 + f.expr.terms()
	for _, name := range append([]string{f.name}, f.expr.names()...) {
		if name != "" && !slices.Contains(s.names, name) {
			s.names = append(s.names, name)
		}
	}
}

// compileError is what Compile has to return besides the program.
func compileError(text string, inputs []string) ([]string, int, api.Errno) {
	if len(text) > 16384 || len(inputs) > 32 {
		return nil, 0, api.ErrFull
	}
	for i, name := range inputs {
		if !isNameWord(name) || slices.Index(inputs, name) != i {
			return nil, 0, api.ErrName
		}
	}
	s, line := read(text, inputs)
	if s == nil {
		return nil, line, api.ErrSyntax
	}
	if len(s.names) > 32 || s.terms > 1000 {
		return nil, 0, api.ErrFull
	}
	return s.names, 0, api.OK
}

// A meaning is what the execution of a recipe has done so far.
type meaning struct {
	values  map[string]int
	out     []int
	effort  int
	err     api.Errno
	most    int  // the effort after which it is given up
	endless bool // it was given up
}

// execute returns the meaning of a recipe for these values of its variables.
func (s *script) execute(values []int, most int) *meaning {
	m := &meaning{values: map[string]int{}, most: most}
	for i, name := range s.names {
		m.values[name] = values[i]
	}
	m.forms(s.forms)
	return m
}

// variables returns the values of all variables in their order.
func (m *meaning) variables(names []string) []int {
	values := make([]int, len(names))
	for i, name := range names {
		values[i] = m.values[name]
	}
	return values
}

func (m *meaning) over() bool {
	m.endless = m.endless || m.effort > m.most
	return m.endless || m.err != api.OK
}

func (m *meaning) forms(forms []*form) {
	for _, f := range forms {
		if m.over() {
			return
		}
		m.form(f)
	}
}

func (m *meaning) form(f *form) {
	value := m.evaluate(f.expr)
	if m.over() {
		return
	}
	m.effort++
	switch f.word {
	case "let":
		m.values[f.name] = value
	case "emit":
		if len(m.out) == 4096 {
			m.err = api.ErrFull
			return
		}
		m.out = append(m.out, value)
	case "if":
		if value != 0 {
			m.forms(f.inner)
		} else {
			m.forms(f.other)
		}
	case "while":
		for value != 0 && !m.over() {
			m.forms(f.inner)
			if m.over() {
				return
			}
			value = m.evaluate(f.expr)
			m.effort++
		}
	}
}

func (m *meaning) evaluate(n *node) int {
	if m.err != api.OK {
		return 0
	}
	a, b := 0, 0
	if n.left != nil {
		a = m.evaluate(n.left)
	}
	if n.right != nil {
		b = m.evaluate(n.right)
	}
	if m.err != api.OK {
		return 0
	}
	m.effort++
	switch n.operator {
	case 'n':
		return n.value
	case 'v':
		return m.values[n.name]
	case '&':
		return int(truth(a != 0 && b != 0))
	case '|':
		return int(truth(a != 0 || b != 0))
	}
	op := map[byte]int{'+': api.OpAdd, '-': api.OpSub, '*': api.OpMul, '/': api.OpDiv, '%': api.OpMod, '=': api.OpEq, '<': api.OpLess, '>': api.OpMore}[n.operator]
	result, ok := operate(op, a, b)
	if !ok {
		m.err = api.ErrValue
	}
	return result
}
