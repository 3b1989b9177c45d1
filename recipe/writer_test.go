package recipe_test

import (
	"math/rand"
	"strconv"
	"strings"
)

// A writer writes recipes at random.
type writer struct {
	*rand.Rand
	names []string
	lines []string
	loops int
	most  int // lines
}

// writeRecipe returns a recipe with about that many lines in which these names occur.
func writeRecipe(r *rand.Rand, names []string, most int) string {
	w := &writer{Rand: r, names: names, most: most}
	for len(w.lines) < most {
		w.form(0)
	}
	return strings.Join(w.lines, "\n") + strings.Repeat("\n", r.Intn(2))
}

func (w *writer) name() string {
	return w.names[w.Intn(len(w.names))]
}

func (w *writer) line(words ...string) {
	text := strings.Join(words, strings.Repeat(" ", 1+w.Intn(2)))
	if w.Intn(9) == 0 {
		text = " " + text + " "
	}
	w.lines = append(w.lines, text)
	if w.Intn(30) == 0 {
		w.lines = append(w.lines, []string{"", "  ", "# let x", "#end", " #"}[w.Intn(5)])
	}
}

func (w *writer) form(nesting int) {
	kind := w.Intn(10)
	if nesting > 3 || len(w.lines) >= w.most {
		kind %= 6
	}
	switch {
	case kind < 3:
		w.line("emit", w.or(2))
	case kind < 6:
		w.line("let", w.name(), w.or(2))
	case kind < 8:
		w.line("if", w.or(2))
		w.body(nesting)
		if w.Intn(2) == 0 {
			w.line("else")
			w.body(nesting)
		}
		w.line("end")
	case kind < 9 || w.Intn(4) > 0:
		w.loop(nesting)
	default:
		w.line("while", w.or(2))
		w.body(nesting)
		w.line("end")
	}
}

func (w *writer) body(nesting int) {
	for range w.Intn(4) {
		w.form(nesting + 1)
	}
}

// loop writes a while that ends, unless what is in it fails.
func (w *writer) loop(nesting int) {
	w.loops++
	counter := "loop" + strings.Repeat("x", w.loops)
	if w.loops > 10 {
		counter = w.name()
	}
	w.line("let", counter, strconv.Itoa(w.Intn(6)))
	w.line("while", counter+">0")
	w.body(nesting)
	w.line("let", counter, counter+"-1")
	w.line("end")
}

func (w *writer) or(deep int) string {
	text := w.and(deep)
	for w.Intn(6) == 0 {
		text += "|" + w.and(deep)
	}
	return text
}

func (w *writer) and(deep int) string {
	text := w.test(deep)
	for w.Intn(6) == 0 {
		text += "&" + w.test(deep)
	}
	return text
}

func (w *writer) test(deep int) string {
	text := w.sum(deep)
	if w.Intn(4) == 0 {
		text += []string{"=", "<", ">"}[w.Intn(3)] + w.sum(deep)
	}
	return text
}

func (w *writer) sum(deep int) string {
	text := w.prod(deep)
	for w.Intn(3) == 0 {
		text += []string{"+", "-"}[w.Intn(2)] + w.prod(deep)
	}
	return text
}

func (w *writer) prod(deep int) string {
	text := w.sign(deep)
	for w.Intn(4) == 0 {
		text += []string{"*", "/", "%", "*"}[w.Intn(4)] + w.sign(deep)
	}
	return text
}

func (w *writer) sign(deep int) string {
	signs := ""
	for w.Intn(5) == 0 {
		signs += "-"
	}
	switch kind := w.Intn(8); {
	case kind < 2 && deep > 0:
		return signs + "(" + w.or(deep-1) + ")"
	case kind < 5:
		return signs + w.name()
	case w.Intn(40) == 0:
		return signs + []string{"9007199254740992", "4503599627370496", "94906266"}[w.Intn(3)]
	default:
		return signs + strconv.Itoa(w.Intn(5))
	}
}
