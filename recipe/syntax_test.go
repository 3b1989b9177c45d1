package recipe_test

import (
	"math/rand"
	"slices"
	"strings"
	"testing"

	"acrospire/api"
	"acrospire/recipe"
)

func TestWrongExpressions(t *testing.T) {
	for _, expr := range []string{
		"1=1=1", "1<2<3", "1>2=1", "1=1<1&1", "(1=1=1)",
		"", "+", "-", "--", "*", "1+", "1-", "1*", "1&", "1|", "1=", "+1", "*1", "|1", "&1", "=1", "1**2", "1*+2", "1+*2", "1&&1", "1||1", "1==1", "1<=1", "1-+1",
		"00", "01", "007", "0x1", "1a", "a1", "1.5", "1_0", "1e3", "9007199254740993", "10000000000000000000", "99999999999999999999", "-9007199254740993",
		"abcdefghijklmnopq", "A", "aB", "a_b", "\xe4", "a\xc3\xa4", "1\t", "\t1", "1\r", "1\x00", "\x00", "!1", "~1", "1;", "a=!b", "1,2", "{1}", "[1]",
		"(", ")", "()", "(1", "1)", "((1)", "(1))", ")1(", "(1)(2)", "(1)2", "1(2)", "a(1)", "(1)a", "(+)", "(1+)", "(-)", "-()",
		strings.Repeat("(", 17) + "1" + strings.Repeat(")", 17),
		"(1)+" + strings.Repeat("1*(", 17) + "1" + strings.Repeat(")", 17),
		steep() + "=1",
	} {
		for _, form := range []string{"emit ", "let x ", "if ", "while "} {
			mustRefuse(t, "emit 1\n\n"+form+expr+"\nend", nil, 3, api.ErrSyntax)
		}
	}
}

func TestWrongLines(t *testing.T) {
	for _, line := range []string{
		"x", "1", "emits 1", "Emit 1", "emit", "emit 1 2", "emit 1 + 2", "emit1", "emit\t1", "\temit 1", "\t", "\r", "\x00", "emit 1\r", "emit 1 # one", "-", "*#",
		"let", "let x", "let x 1 2", "let x = 1", "let 1 x", "let X 1", "let x1 1", "let abcdefghijklmnopq 1", "let x+y 1", "let \xc3\xa4 1", "let (x) 1",
		"while", "while 1 2", "if", "if 1 2", "if 1 then", "else 1", "else if 1", "else", "end 1", "end if", "end", "fi", "do", "elseif 1", "ends",
	} {
		mustRefuse(t, "# first\nemit 1\n"+line+"\nelse\nend\nend", nil, 3, api.ErrSyntax)
	}
}

func TestWrongBlocks(t *testing.T) {
	for text, line := range map[string]int{
		"else": 1, "end": 1, "emit 1\nend": 2, "if 1\nend\nend": 3, "if 1\nend\nelse": 3, "while 1\nend\nend": 3,
		"while 1\nelse\nend": 2, "if 1\nelse\nelse\nend": 3, "if 1\nwhile 0\nelse\nend\nend": 3, "if 1\nelse\nwhile 1\nend\nelse\nend": 5,
		"if 1\nif 2\nelse\nelse\nend\nend": 4,
		"if 1":                             2, "if 1\n": 2, "if 1\n\n": 3, "if 1\nemit 1": 3, "if 1\nemit 1\n": 3, "if 1\nelse": 3, "while 1\nemit 1\n\n#": 5,
		"if 1\nif 1\nend": 4, "if 1\nwhile 1\nelse": 3, "\n\nwhile 0\n \n": 5, "if 1\n ": 3,
		strings.Repeat("if 1\n", 17):                                                           17,
		strings.Repeat("while 1\n", 17) + strings.Repeat("end\n", 17):                          17,
		strings.Repeat("if 1\nwhile 1\n", 8) + "#\nemit 1\nif 1" + strings.Repeat("\nend", 17): 19,
		strings.Repeat("if 1\n", 16) + "else\nif 0\nend":                                       18,
		strings.Repeat("if 1\n", 16):                                                           17,
		strings.Repeat("if 1\n", 16) + strings.Repeat("end\n", 17):                             33,
	} {
		mustRefuse(t, text, nil, line, api.ErrSyntax)
	}
	for _, text := range []string{
		strings.Repeat("if 1\n", 16) + strings.Repeat("end\n", 16),
		strings.Repeat("while 1\n", 16) + strings.Repeat("end\n", 16),
		strings.Repeat("if 1\n", 15) + strings.Repeat("while 0\nend\n", 20) + strings.Repeat("else\nend\n", 15),
		"if 1\nif 1\nelse\nend\nelse\nend",
		"while 0\nif 1\nelse\nend\nend",
	} {
		mustCompile(t, text, nil)
	}
}

// spoil makes a few changes at random.
func spoil(r *rand.Rand, text string) string {
	const single = "aaxz019+-*/%=<>&|()  \n\n#\t{`"
	parts := append(strings.Split(single, ""), "", "", "", "", "", "", "end", "else", "\nend\n", "\nelse\n", "if 1\n", "((", "00")
	for range 1 + r.Intn(3) {
		at := r.Intn(len(text) + 1)
		removed := min(r.Intn(3), len(text)-at)
		text = text[:at] + parts[r.Intn(len(parts))] + text[at+removed:]
	}
	return text
}

func TestErrorsAsByAPlainReading(t *testing.T) {
	r := rand.New(rand.NewSource(173))
	errors := map[api.Errno]int{}
	for range 20000 {
		text := spoil(r, writeRecipe(r, []string{"a", "b", "malt"}, 1+r.Intn(8)))
		inputs := []string{"b", "x"}
		_, names, line, e := recipe.Compile(text, inputs)
		wantNames, wantLine, want := compileError(text, inputs)
		if !slices.Equal(names, wantNames) || line != wantLine || e != want {
			t.Fatalf("Compile(%q): %q, line %d, %d, want %q, line %d, %d", text, names, line, e, wantNames, wantLine, want)
		}
		errors[e]++
	}
	if errors[api.OK] < 1000 || errors[api.ErrSyntax] < 1000 {
		t.Errorf("results: %v", errors)
	}
}

func TestExpressionErrorsAsByAPlainReading(t *testing.T) {
	r := rand.New(rand.NewSource(174))
	const parts = "11ab0(())+-*/%=<>&|--"
	right := 0
	for range 200000 {
		expr := make([]byte, 1+r.Intn(9))
		for i := range expr {
			expr[i] = parts[r.Intn(len(parts))]
		}
		text := "emit " + string(expr)
		_, names, line, e := recipe.Compile(text, nil)
		wantNames, wantLine, want := compileError(text, nil)
		if !slices.Equal(names, wantNames) || line != wantLine || e != want {
			t.Fatalf("Compile(%q): %q, line %d, %d, want %q, line %d, %d", text, names, line, e, wantNames, wantLine, want)
		}
		if e == api.OK {
			compare(t, text, nil, nil)
			right++
		}
	}
	if right < 2000 {
		t.Errorf("only %d expressions are right", right)
	}
}
