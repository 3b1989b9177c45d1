package house

import (
	"strconv"
	"strings"

	"acrospire/api"
)

// The kinds of arguments.
const (
	numberKind = 'n'
	tokenKind  = 't'
	recipeKind = 'r' // all that is left of the line
)

// An act is what the word of a line stands for. It has arguments of the kinds that first
// says, one letter each, and then those that again says, once more as often as one likes.
type act struct {
	first, again string
	perform      func(arguments) string
}

// Arguments are what stands behind the word of a line. In every act numbers come first.
type arguments struct {
	numbers []int
	texts   []string
}

// understand returns what performs the act of a line, or nil if the line has the word of none
// of these acts.
func understand(acts map[string]act, line string) func() string {
	word, _, _ := strings.Cut(line, " ")
	chosen, ok := acts[word]
	if !ok {
		return nil
	}
	a := chosen.read(line[len(word):])
	return func() string { return chosen.perform(a) }
}

// read returns the arguments of an act, which are all that stands behind its word.
func (c act) read(text string) arguments {
	var a arguments
	text = a.take(c.first, text)
	for c.again != "" && text != "" {
		text = a.take(c.again, text)
	}
	if text != "" {
		refuse(api.ErrSyntax)
	}
	return a
}

// take adds arguments of these kinds, a blank being before each, and returns what is left.
func (a *arguments) take(kinds, text string) string {
	for _, kind := range kinds {
		behind, ok := strings.CutPrefix(text, " ")
		if !ok {
			refuse(api.ErrSyntax)
		}
		end := strings.IndexByte(behind, ' ')
		if end < 0 || kind == recipeKind {
			end = len(behind)
		}
		a.add(kind, behind[:end])
		text = behind[end:]
	}
	return text
}

func (a *arguments) add(kind rune, text string) {
	if kind == numberKind {
		a.numbers = append(a.numbers, numberOf(text))
		return
	}
	if text == "" || kind == tokenKind && !isPrintable(text) {
		refuse(api.ErrSyntax)
	}
	a.texts = append(a.texts, text)
}

// numberOf returns the number that is written like this and in no other way.
func numberOf(text string) int {
	number, err := strconv.Atoi(text)
	if err != nil || number < 0 || strconv.Itoa(number) != text {
		refuse(api.ErrSyntax)
	}
	return number
}

// isPrintable tells whether a text that is not empty is a token. A line is too short for one
// with too many bytes.
func isPrintable(text string) bool {
	for i := range len(text) {
		if text[i] < '!' || text[i] > '~' {
			return false
		}
	}
	return true
}

// phrase returns a word and numbers, separated by blanks.
func phrase(word string, numbers ...int) string {
	text := []byte(word)
	for _, number := range numbers {
		text = append(text, ' ')
		text = strconv.AppendInt(text, int64(number), 10)
	}
	return string(text)
}
