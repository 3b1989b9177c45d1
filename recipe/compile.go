package recipe

import (
	"acrospire/api"
	"slices"
	"strings"
)

// maxName is the length of the longest NAME.
const maxName = 16

// unknown is the Arg of a jump whose target is not known yet.
const unknown = 0

// Compile returns a program that does what the recipe means, and the names of its variables; or the position of the line that is wrong.
func Compile(text string, inputs []string) (code []api.Ins, names []string, line int, err api.Errno) {
	if len(text) > api.MaxSource || len(inputs) > api.MaxSlots {
		return nil, nil, 0, api.ErrFull
	}
	if !areInputs(inputs) {
		return nil, nil, 0, api.ErrName
	}
	defer func() {
		if wrong, ok := recover().(wrongLine); ok {
			code, names, line, err = nil, nil, wrong.line, api.ErrSyntax
		}
	}()
	c := newCompiler(inputs)
	c.compile(text)
	if len(c.names) > api.MaxSlots || c.terms > api.MaxTerms {
		return nil, nil, 0, api.ErrFull
	}
	return c.code, c.names, 0, api.OK
}

// areInputs tells whether the words are different NAMEs.
func areInputs(words []string) bool {
	for i, word := range words {
		if !isName(word) || slices.Contains(words[:i], word) {
			return false
		}
	}
	return true
}

func isName(word string) bool {
	return word != "" && len(word) <= maxName && prefix(word, isLetter) == len(word)
}

// prefix returns how many bytes at the beginning of the text are of this kind.
func prefix(text string, kind func(byte) bool) int {
	for i := range len(text) {
		if !kind(text[i]) {
			return i
		}
	}
	return len(text)
}

func isLetter(b byte) bool {
	return 'a' <= b && b <= 'z'
}

func isDigit(b byte) bool {
	return '0' <= b && b <= '9'
}

// A wrongLine is what a compiler panics with when a line is not as it has to be.
type wrongLine struct {
	line int
}

// A compiler translates a recipe line by line, each one as soon as it is read. Every term becomes at most four instructions.
type compiler struct {
	code  []api.Ins
	names []string
	slots map[string]int // the numbers of the names
	open  []block
	line  int
	terms int // numerals, names in expressions, operations, and lines with an expression
}

// A block is a while or an if that is open.
type block struct {
	loops   bool // it is a while
	start   int  // where its expression begins
	exit    int  // the jump whose target is the end, or the else
	hasElse bool
}

func newCompiler(inputs []string) *compiler {
	c := &compiler{slots: map[string]int{}}
	for _, name := range inputs {
		c.slot(name)
	}
	return c
}

// slot returns the number of the variable with this name.
func (c *compiler) slot(name string) int {
	slot, ok := c.slots[name]
	if !ok {
		slot = len(c.names)
		kept := strings.Clone(name)
		c.slots[kept] = slot
		c.names = append(c.names, kept)
	}
	return slot
}

func (c *compiler) add(op, arg int) {
	c.code = append(c.code, api.Ins{Op: op, Arg: arg})
}

// reject says that the line is wrong.
func (c *compiler) reject() {
	panic(wrongLine{c.line})
}

func (c *compiler) compile(text string) {
	lines := strings.Split(text, "\n")
	if last := len(lines) - 1; lines[last] == "" {
		lines = lines[:last]
	}
	for _, line := range lines {
		c.line++
		words := strings.FieldsFunc(line, func(r rune) bool { return r == ' ' })
		if len(words) > 0 && words[0][0] != '#' {
			c.compileLine(words)
		}
	}
	if len(c.open) > 0 {
		c.line++
		c.reject()
	}
	c.add(api.OpHalt, 0)
}

func (c *compiler) compileLine(words []string) {
	form, rest := words[0], words[1:]
	switch {
	case form == "let" && len(rest) == 2:
		c.let(rest[0], rest[1])
	case form == "emit" && len(rest) == 1:
		c.emit(rest[0])
	case form == "while" && len(rest) == 1:
		c.begin(rest[0], true)
	case form == "if" && len(rest) == 1:
		c.begin(rest[0], false)
	case form == "else" && len(rest) == 0:
		c.otherwise()
	case form == "end" && len(rest) == 0:
		c.end()
	default:
		c.reject()
	}
}

func (c *compiler) let(name, expr string) {
	if !isName(name) {
		c.reject()
	}
	c.terms++
	slot := c.slot(name) // before the expression, since it occurs before it
	c.expression(expr)
	c.add(api.OpStore, slot)
}

func (c *compiler) emit(expr string) {
	c.terms++
	c.expression(expr)
	c.add(api.OpEmit, 0)
}

// begin opens a while or an if.
func (c *compiler) begin(expr string, loops bool) {
	if len(c.open) == api.MaxNesting {
		c.reject()
	}
	c.terms++
	start := len(c.code)
	c.expression(expr)
	c.open = append(c.open, block{loops: loops, start: start, exit: len(c.code)})
	c.add(api.OpJumpZero, unknown)
}

// innermost returns the block that was opened last, which has to exist.
func (c *compiler) innermost() *block {
	if len(c.open) == 0 {
		c.reject()
	}
	return &c.open[len(c.open)-1]
}

// otherwise ends the first part of an if by a jump to its end.
func (c *compiler) otherwise() {
	b := c.innermost()
	if b.loops || b.hasElse {
		c.reject()
	}
	skip := len(c.code)
	c.add(api.OpJump, unknown)
	c.land(b.exit)
	b.exit = skip
	b.hasElse = true
}

// end closes the innermost block; a while goes back to its expression.
func (c *compiler) end() {
	b := c.innermost()
	if b.loops {
		c.add(api.OpJump, b.start)
	}
	c.land(b.exit)
	c.open = c.open[:len(c.open)-1]
}

// land makes the instruction that comes next the target of a jump. There always is one: at least the last OpHalt.
func (c *compiler) land(jump int) {
	c.code[jump].Arg = len(c.code)
}
