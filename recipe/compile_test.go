package recipe_test

import (
	"math/rand"
	"slices"
	"strings"
	"testing"

	"acrospire/api"
	"acrospire/recipe"
)

// mustCompile returns a program that is verified, and its names.
func mustCompile(t *testing.T, text string, inputs []string) ([]api.Ins, []string) {
	t.Helper()
	code, names, line, e := recipe.Compile(text, inputs)
	if e != api.OK || line != 0 {
		t.Fatalf("Compile(%q, %q): line %d, %d", text, inputs, line, e)
	}
	_, e = recipe.Verify(code, len(names))
	must(t, "Verify of "+text, e, api.OK)
	return code, names
}

// perform runs a recipe with these values of its inputs, whose names are a, b, ..
func perform(t *testing.T, text string, values ...int) api.Run {
	t.Helper()
	var inputs []string
	for i := range values {
		inputs = append(inputs, string(rune('a'+i)))
	}
	code, names := mustCompile(t, text, inputs)
	variables := make([]int, len(names))
	copy(variables, values)
	return mustExec(t, code, variables, 1<<20)
}

func TestExpressions(t *testing.T) {
	for text, want := range map[string]int{
		"0": 0, "7": 7, "9007199254740992": maxInt, "-9007199254740992": -maxInt,
		"a": 5, "b": -3, "zero": 0,
		"2+3": 5, "2-3": -1, "2*3": 6, "7/2": 3, "7%2": 1,
		"-7/2": -3, "7/-2": -3, "-7%2": -1, "7%-2": 1, "-7/-2": 3,
		"1=1": 1, "1=2": 0, "1<2": 1, "2<1": 0, "1<1": 0, "2>1": 1, "1>2": 0, "1>1": 0,
		"0&0": 0, "0&2": 0, "3&0": 0, "3&2": 1, "-1&-1": 1,
		"0|0": 0, "0|2": 1, "3|0": 1, "3|2": 1, "-1|1": 1,
		"1-2-3": -4, "8/4/2": 1, "9%5%3": 1, "2*7/3": 4, "2*7%3": 2, "7/2*2": 6, "7-2+1": 6, // left-associative
		"2+3*4": 14, "2*3+4": 10, "10-6/2": 7, "1+2<4": 1, "4<1+2": 0, "2<1+2": 1, "1<2&2<1": 0, "1=1&2=2": 1,
		"1|0&0": 1, "0&0|1": 1, "0&1|1": 1, "(1|0)&0": 0, "2&3|0": 1, "0|2&3": 1, "1|1=0": 1, "0&0=0": 0,
		"--1": 1, "----1": 1, "---1": -1, "2--3": 5, "2---3": -1, "2*-3": -6, "-2*-3": 6, "-2+3": 1, "-(2+3)": -5, "-a*b": 15, "--b": -3,
		"(1)": 1, "((2))*3": 6, "2*(3+4)": 14, "(2+3)*4": 20, "1-(2-3)": 2, "8/(4/2)": 4, "(1=1)=1": 1, "1=(2=3)": 0, "(3>2)>1": 0,
		"a*a-b": 28, "a%b": 2, "a/b": -1, "b%a": -3, "a&b": 1, "a|zero": 1, "zero&a": 0,
		"9007199254740992-9007199254740992+1": 1, "9007199254740992*-1": -maxInt, "94906265*94906265": 94906265 * 94906265,
		"9007199254740992&9007199254740992": 1, "9007199254740992|-9007199254740992": 1,
	} {
		run := perform(t, "emit "+text, 5, -3)
		if run.End != api.Halted || !slices.Equal(run.Out, []int{want}) {
			t.Errorf("%s: %v, want %d", text, run, want)
		}
	}
}

func TestRecipes(t *testing.T) {
	for _, c := range []struct {
		text string
		out  []int
	}{
		{"", nil},
		{"\n", nil},
		{"\n\n# nothing\n   \n #nothing\n", nil},
		{"emit 1", []int{1}},
		{"emit 1\n", []int{1}},
		{"\n  emit   1  \n\nemit 2", []int{1, 2}},
		{"#emit 1\nemit 2\n# emit 3", []int{2}},
		{"let i 3\nwhile i\nemit i\nlet i i-1\nend\n", []int{3, 2, 1}},
		{"while 0\nemit 1\nend\nemit 2", []int{2}},
		{"if 1\nemit 1\nend\nemit 9", []int{1, 9}},
		{"if 0\nemit 1\nend\nemit 9", []int{9}},
		{"if -2\nemit 1\nelse\nemit 2\nend\nemit 9", []int{1, 9}},
		{"if 0\nemit 1\nelse\nemit 2\nend\nemit 9", []int{2, 9}},
		{"if 0\nelse\nend\nif 1\nelse\nend\nif 1\nend\nif 0\nelse\nemit 3\nend", []int{3}},
		{"if 1\nif 0\nemit 1\nelse\nemit 2\nend\nelse\nemit 3\nend", []int{2}},
		{"if 0\nemit 1\nelse\nif 1\nemit 2\nelse\nemit 3\nend\nend", []int{2}},
		{"let i 2\nwhile i\nlet j 2\nwhile j\nemit 10*i+j\nlet j j-1\nend\nlet i i-1\nend", []int{22, 21, 12, 11}},
		{"let i 4\nwhile i\nif i%2\nemit i\nelse\nemit -i\nend\nlet i i-1\nend", []int{-4, 3, -2, 1}},
		{"let x a\nlet a 7\nemit x\nemit a", []int{5, 7}},
		{"let x x+1\nlet x x+1\nemit x", []int{2}},
		{"let let 1\nlet end let+1\nlet while end+1\nemit while\nlet if 9\nif if\nemit if\nend", []int{3, 9}},
		{"while a>0\nlet a a-2\nemit a\nend", []int{3, 1, -1}},
	} {
		run := perform(t, c.text, 5)
		if run.End != api.Halted || !slices.Equal(run.Out, c.out) {
			t.Errorf("%q: %v, want %v", c.text, run, c.out)
		}
	}
}

func TestVariables(t *testing.T) {
	for _, c := range []struct {
		text   string
		inputs []string
		names  []string
	}{
		{"", nil, nil},
		{"", []string{"b", "a"}, []string{"b", "a"}},
		{"let x y+z*x\nemit w", nil, []string{"x", "y", "z", "w"}},
		{"let x y+z*x\nemit w", []string{"w", "y"}, []string{"w", "y", "x", "z"}},
		{"while n\nif m\nlet k 1\nelse\nemit -l\nend\nend", nil, []string{"n", "m", "k", "l"}},
		{"# a b\nemit c", nil, []string{"c"}},
		{"emit let+if", []string{"end"}, []string{"end", "let", "if"}},
		{"emit a+ab+b", nil, []string{"a", "ab", "b"}},
		{"let abcdefghijklmnop abcdefghijklmno", nil, []string{"abcdefghijklmnop", "abcdefghijklmno"}},
	} {
		_, names := mustCompile(t, c.text, c.inputs)
		if !slices.Equal(names, c.names) {
			t.Errorf("Compile(%q, %q): %q, want %q", c.text, c.inputs, names, c.names)
		}
	}
	run := perform(t, "let c a*b\nlet d c-e\nlet a 0-9", 6, 7)
	if run.End != api.Halted || !slices.Equal(run.Variables, []int{-9, 7, 42, 42, 0}) {
		t.Errorf("variables at the end: %v", run)
	}
}

func TestMeaningsThatFail(t *testing.T) {
	for text, want := range map[string]api.Run{
		"emit 1\nemit 1/0":                                {Err: 101, Out: []int{1}},
		"emit 1%0":                                        {Err: 101},
		"emit 9007199254740992+1":                         {Err: 101},
		"emit -9007199254740992-1":                        {Err: 101},
		"emit 9007199254740992*2":                         {Err: 101},
		"emit 94906266*94906266":                          {Err: 101},
		"let x 1/0":                                       {Err: 101},
		"let x 1/0\nemit 1":                               {Err: 101},
		"emit 0&(1/0)":                                    {Err: 101}, // all operands are evaluated
		"emit 1|1/0":                                      {Err: 101},
		"emit 1/0*0":                                      {Err: 101},
		"emit 9007199254740992+1-1":                       {Err: 101},
		"emit 2\nif 1/0\nemit 1\nend":                     {Err: 101, Out: []int{2}},
		"while 1/0\nemit 1\nend":                          {Err: 101},
		"let i 3\nwhile 6/i\nemit i\nlet i i-1\nend":      {Err: 101, Out: []int{3, 2, 1}},
		"while 1\nemit 7\nend":                            {Err: 5, Out: slices.Repeat([]int{7}, 4096)},
		"let i 1\nwhile i\nemit i\nlet i i*2\nend":        {Err: 101, Out: powers(54)},
		"emit 1-1\nemit 0-a\nemit 6/(a-5)\nemit 1":        {Err: 101, Out: []int{0, -5}},
		"if a=5\nemit 1\nelse\nemit 2\nend\nemit a%(5-a)": {Err: 101, Out: []int{1}},
	} {
		run := perform(t, text, 5)
		if run.End != api.Failed || run.Err != want.Err || !slices.Equal(run.Out, want.Out) {
			t.Errorf("%q: %v, want %v", text, run, want)
		}
	}
}

// powers returns the first powers of 2.
func powers(count int) []int {
	var list []int
	for i := range count {
		list = append(list, 1<<i)
	}
	return list
}

func TestMeaningsThatDoNotEnd(t *testing.T) {
	for text, out := range map[string][]int{
		"while 1\nend": nil,
		"emit 4\nwhile a\nlet b b+1\nlet b b-1\nend":    {4},
		"while 1\nif 0\nemit 1\nend\nend\nemit 2":       nil,
		"let i 1\nwhile i\nlet i -i\nend":               nil,
		"while 1\nwhile 0\nend\nif 1\nelse\nend\nend":   nil,
		"emit 1\nwhile 1\nlet i i=0\nend\nemit 2":       {1},
		"while 1\nlet i (i+1)%2\nwhile i&0\nend\nend\n": nil,
	} {
		run := perform(t, text, 5)
		if run.End != api.Starved || run.Gas != 1<<20 || !slices.Equal(run.Out, out) {
			t.Errorf("%q: %v", text, run)
		}
	}
}

// compare checks a run of a recipe against its meaning by a plain reading, and returns how the run ended.
func compare(t *testing.T, text string, inputs []string, values []int) int {
	t.Helper()
	code, names := mustCompile(t, text, inputs)
	s, _ := read(text, inputs)
	if !slices.Equal(names, s.names) {
		t.Fatalf("%q: names %q, want %q", text, names, s.names)
	}
	variables := make([]int, len(names))
	copy(variables, values)
	m := s.execute(variables, 20000)
	if m.endless {
		return 0
	}
	run := mustExec(t, code, variables, 1<<20)
	if run.Err != int(m.err) || !slices.Equal(run.Out, m.out) {
		t.Fatalf("%q with %v: %v, want %d, %v", text, values, run, m.err, m.out)
	}
	if m.err != api.OK {
		return run.End
	}
	if run.End != api.Halted || !slices.Equal(run.Variables, m.variables(names)) {
		t.Fatalf("%q with %v: %v, want %v", text, values, run, m.variables(names))
	}
	if run.Gas > 4*m.effort+1 {
		t.Fatalf("%q with %v: gas %d, effort %d", text, values, run.Gas, m.effort)
	}
	if less := mustExec(t, code, variables, run.Gas-1); less.End != api.Starved {
		t.Fatalf("%q with %v, and less gas: %v", text, values, less)
	}
	return api.Halted
}

func TestRecipesAsByAPlainReading(t *testing.T) {
	r := rand.New(rand.NewSource(172))
	ends := map[int]int{}
	for range 4000 {
		text := writeRecipe(r, []string{"a", "b", "c", "d", "malt", "x"}, 1+r.Intn(25))
		values := []int{wildNumber(r), wildNumber(r), r.Intn(9) - 4}
		if _, _, e := compileError(text, []string{"a", "b", "malt"}); e != api.OK {
			continue
		}
		ends[compare(t, text, []string{"a", "b", "malt"}, values)]++
	}
	if ends[api.Halted] < 800 || ends[api.Failed] < 500 || ends[0] > 500 {
		t.Errorf("ends: %v", ends)
	}
}

// TestEffort tries all constructs by themselves, so that none makes up for another one.
func TestEffort(t *testing.T) {
	for _, text := range []string{
		"emit 1", "let x 1", "let x y", "emit -1", "emit -----1", "emit 1&1&1&1&1&1&1&1", "emit 0|1|0|1|0|1|0|1|0",
		"emit 1+1*1-1/1%1", "emit 1=1", "emit 1<1", "emit 1>1", "if 1\nend", "if 0\nend", "if 1\nelse\nend", "if 0\nelse\nend", "while 0\nend",
		"let i 100\nwhile i\nlet i i-1\nend", "let i 99\nwhile i\nlet i i-1\nif i%2\nelse\nend\nend",
		"emit " + strings.Repeat("-", 900) + "1", "emit " + strings.Repeat("1&", 499) + "1", "emit " + strings.Repeat("1|", 499) + "1",
		strings.Repeat("if a\n", 16) + strings.Repeat("else\nend\n", 16), strings.Repeat("if zero\n", 16) + strings.Repeat("else\nend\n", 16),
		strings.Repeat("if 1\nelse\nend\n", 400), strings.Repeat("while 0\nend\n", 400),
	} {
		if end := compare(t, text, []string{"a"}, []int{1}); end != api.Halted {
			t.Errorf("%q ended with %d", text, end)
		}
	}
}

// steep returns an expression in which every level of the grammar, within all parentheses that may be open, waits for its last operand.
func steep() string {
	const level = "0|1&2=1+2*"
	return strings.Repeat(level+"(", 16) + level + "---1" + strings.Repeat(")", 16)
}

func TestSteepExpressions(t *testing.T) {
	for _, expr := range []string{
		steep(),
		strings.Repeat("-", 16) + "1",
		"1" + strings.Repeat("--1", 300),
		strings.Repeat("(", 16) + "1" + strings.Repeat(")", 16),
		strings.Repeat("-(", 16) + "1" + strings.Repeat(")", 16),
		strings.Repeat("(-", 16) + "1" + strings.Repeat(")", 16),
		strings.Repeat("(1+", 16) + "1" + strings.Repeat(")", 16),
		"-" + strings.Repeat("(1)+", 200) + "1",
		strings.Repeat("-", 997) + "a",
	} {
		if end := compare(t, "emit "+expr, []string{"a"}, []int{7}); end != api.Halted {
			t.Errorf("%q ended with %d", expr, end)
		}
	}
}

func TestCompileKeepsNoArgument(t *testing.T) {
	inputs := []string{"a", "b"}
	code, names := mustCompile(t, "emit a+b+c", inputs)
	names[0] = "changed"
	code[0] = api.Ins{Op: 99}
	if !slices.Equal(inputs, []string{"a", "b"}) {
		t.Fatalf("inputs: %q", inputs)
	}
	code, names = mustCompile(t, "emit a+b+c", inputs)
	if !slices.Equal(names, []string{"a", "b", "c"}) {
		t.Fatalf("names: %q", names)
	}
	if run := mustExec(t, code, []int{1, 2, 3}, 100); !slices.Equal(run.Out, []int{6}) {
		t.Fatalf("run: %v", run)
	}
}

// sumOf returns an expression with that many terms, which is an odd number.
func sumOf(terms int) string {
	return "1" + strings.Repeat("+1", (terms-1)/2)
}

func TestMostTerms(t *testing.T) {
	for text, terms := range map[string]int{
		"emit " + sumOf(999):                                      1000,
		"emit -" + sumOf(999):                                     1001,
		"emit " + strings.Repeat("-", 998) + "1":                  1000,
		"emit " + strings.Repeat("-", 999) + "1":                  1001,
		"emit " + strings.Repeat("x+", 499) + "x":                 1000,
		"emit " + strings.Repeat("x+", 499) + "-x":                1001,
		"emit " + strings.Repeat("1&", 499) + "1":                 1000,
		"emit " + strings.Repeat("1|", 499) + "1":                 1000,
		"emit " + strings.Repeat("1|", 499) + "1\n#\n\nif x\nend": 1002,
		"emit " + strings.Repeat("1%1*", 249) + "1/1":             1000,
		"emit " + strings.Repeat("1%1*", 249) + "(-(1)/1)":        1001,
		"emit 1=1" + strings.Repeat("&1<1", 249):                  1000,
		"emit 1=1" + strings.Repeat("|1>1", 249) + "*1":           1002,
		strings.Repeat("let x x\n", 500):                          1000,
		strings.Repeat("let x x\n", 499) + "let x -x":             1001,
		strings.Repeat("emit 0\n", 500):                           1000,
		strings.Repeat("emit 0\n", 499) + "emit ((-(0)))":         1001,
		strings.Repeat("if 0\nelse\nend\n", 500):                  1000,
		strings.Repeat("if 0\nelse\nend\n", 499) + "if -0\nend":   1001,
		strings.Repeat("while 0\nend\n", 500):                     1000,
		strings.Repeat("while 0\nend\n", 499) + "while -0\nend":   1001,
	} {
		if s, _ := read(text, nil); s.terms != terms {
			t.Fatalf("%.40q: the test is wrong about %d", text, terms)
		}
		if terms <= api.MaxTerms {
			mustCompile(t, text, nil)
		} else {
			mustRefuse(t, text, nil, 0, api.ErrFull)
		}
	}
}

// manyNames returns that many different names.
func manyNames(count int) []string {
	var names []string
	for i := range count {
		names = append(names, "n"+string(rune('a'+i/20))+string(rune('a'+i%20)))
	}
	return names
}

func TestMostVariables(t *testing.T) {
	all := "emit " + strings.Join(manyNames(32), "+")
	code, names := mustCompile(t, all, nil)
	if len(names) != 32 || len(code) == 0 {
		t.Fatalf("names: %q", names)
	}
	mustCompile(t, all, manyNames(32))
	mustCompile(t, all+"\nlet "+names[31]+" 1", manyNames(5))
	mustRefuse(t, all+"\nlet z 1", nil, 0, api.ErrFull)
	mustRefuse(t, all+"+z", nil, 0, api.ErrFull)
	mustRefuse(t, "emit z", manyNames(32), 0, api.ErrFull)
	mustRefuse(t, "emit "+strings.Join(manyNames(400), "+"), nil, 0, api.ErrFull)
}

func mustRefuse(t *testing.T, text string, inputs []string, line int, want api.Errno) {
	t.Helper()
	code, names, at, e := recipe.Compile(text, inputs)
	if len(code) > 0 || len(names) > 0 || at != line || e != want {
		t.Errorf("Compile(%.60q, %q) = %d instructions, %q, line %d, %d, want line %d, %d", text, inputs, len(code), names, at, e, line, want)
	}
}

func TestLongRecipes(t *testing.T) {
	comment := "#" + strings.Repeat("x", 16383)
	mustCompile(t, comment, nil)
	mustRefuse(t, comment+"x", nil, 0, api.ErrFull)
	mustCompile(t, strings.Repeat("\n", 16384), nil)
	mustCompile(t, strings.Repeat(" ", 16384), nil)
	mustRefuse(t, strings.Repeat("\n", 16380)+"else", nil, 16381, api.ErrSyntax)
	mustRefuse(t, strings.Repeat("\n", 16380)+"if 0", nil, 16382, api.ErrSyntax)
	mustRefuse(t, strings.Repeat("(", 16384), nil, 1, api.ErrSyntax)
	mustRefuse(t, "emit "+strings.Repeat("-", 16379), nil, 1, api.ErrSyntax)
	mustRefuse(t, "emit "+strings.Repeat("-", 16378)+"1", nil, 0, api.ErrFull)
	mustRefuse(t, "emit "+strings.Repeat("9", 16379), nil, 1, api.ErrSyntax)
	mustRefuse(t, strings.Repeat("else\n", 4000), nil, 0, api.ErrFull)
}

func TestOrderOfErrors(t *testing.T) {
	long := "else" + strings.Repeat("\n", 16381)
	mustRefuse(t, long, []string{"1"}, 0, api.ErrFull)
	mustRefuse(t, "else", append(manyNames(32), "1"), 0, api.ErrFull)
	mustRefuse(t, "else", []string{"1"}, 0, api.ErrName)
	mustRefuse(t, "emit "+sumOf(1001)+"\nelse", nil, 2, api.ErrSyntax)
	mustRefuse(t, "emit "+strings.Join(manyNames(40), "+")+"\nwhile 1", nil, 3, api.ErrSyntax)
	mustRefuse(t, "let x\nelse\nemit", nil, 1, api.ErrSyntax)
	mustRefuse(t, "while 1\nelse", nil, 2, api.ErrSyntax)
}

func TestInputs(t *testing.T) {
	for _, inputs := range [][]string{{""}, {"a", ""}, {"A"}, {"a1"}, {"1"}, {"a b"}, {" a"}, {"a "}, {"a\n"}, {"a-b"}, {"`"}, {"{"}, {"\xc3\xa4"}, {"abcdefghijklmnopq"}, {"a", "a"}, {"b", "a", "c", "a"}} {
		mustRefuse(t, "emit a", inputs, 0, api.ErrName)
	}
	for _, inputs := range [][]string{{}, {"a"}, {"z", "a"}, {"abcdefghijklmnop"}, {"let", "end"}, {"a", "aa", "aaa"}} {
		_, names := mustCompile(t, "", inputs)
		if !slices.Equal(names, inputs) {
			t.Errorf("names: %q, want %q", names, inputs)
		}
	}
	mustRefuse(t, "", manyNames(33), 0, api.ErrFull)
	mustRefuse(t, "", slices.Repeat([]string{"1"}, 100), 0, api.ErrFull)
}
