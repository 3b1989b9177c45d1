package house_test

import (
	"fmt"
	"maps"
	"regexp"
	"slices"
	"strconv"
	"strings"

	"acrospire/api"
	"acrospire/bed"
	"acrospire/digest"
	"acrospire/lots"
	"acrospire/recipe"
	"acrospire/sync"
)

// The tests compare with a plain reading of the chapter. It reads lines by regular
// expressions, tries each act on a copy of its state, and goes back to a copy of the state at
// the last save after a crash.
type model struct {
	plant api.House
	now   *state
	acts  []string // that are stored

	saved     *state
	savedActs int
}

type state struct {
	time     int
	book     *lots.Book
	received int           // the masses altogether
	holds    map[int]int   // the lots in beds
	cells    map[int][]int // of the beds that hold a lot
	taken    map[int]int   // the moisture that beds took up since they were charged
	lost     map[int]int   // and what they lost
	digest   digest.Digest
	tables   []sync.Table // of the sites
	letters  []parcel     // on their way
}

type parcel struct {
	from, to int
	table    sync.Table
}

func newModel(h api.House) *model {
	d, e := digest.New(h.Levels, h.Factor)
	if e != api.OK {
		panic(e)
	}
	s := &state{
		book: lots.New(), holds: map[int]int{}, cells: map[int][]int{}, taken: map[int]int{}, lost: map[int]int{},
		digest: d, tables: make([]sync.Table, h.Sites),
	}
	return &model{plant: h, now: s, saved: s.clone()}
}

func (s *state) clone() *state {
	next := *s
	next.book = s.book.Clone()
	next.holds, next.taken, next.lost = maps.Clone(s.holds), maps.Clone(s.taken), maps.Clone(s.lost)
	next.cells = map[int][]int{}
	for number, cells := range s.cells {
		next.cells[number] = slices.Clone(cells)
	}
	next.tables, next.letters = slices.Clone(s.tables), slices.Clone(s.letters)
	return &next
}

// The patterns of lines: N stands for a number text, T for a token, and R for the recipe.
var patterns = map[string]*regexp.Regexp{}

func init() {
	for _, form := range []string{
		"receive N", "blend( N N)+", "ship N N", "discard N N",
		"charge N N N", "steep N N", "turn N", "read N", "empty N", "tick N", "cook N N R",
		"put N T T", "remove N T", "send N N", "lose N", "deliver N", "repeat N", "save", "crash( N)*",
	} {
		word := regexp.MustCompile(`^[a-z]+`).FindString(form)
		form = strings.NewReplacer("N", "(?:0|[1-9][0-9]*)", "T", `[\x21-\x7e]{1,64}`, "R", ".+").Replace(form)
		patterns[word] = regexp.MustCompile(`(?s)\A` + form + `\z`)
	}
}

// say does to the model what Say does to a house.
func (m *model) say(line string) string {
	answer, e := m.do(line)
	if e != api.OK {
		return fmt.Sprintf("error %d\n", e)
	}
	return answer + "\n"
}

func (m *model) room() int {
	return (m.plant.Pages-4)/16 - len(m.acts)
}

func (m *model) do(line string) (string, api.Errno) {
	words := strings.Split(line, " ")
	pattern := patterns[words[0]]
	if len(line) > 64 || pattern == nil || !pattern.MatchString(line) {
		return "", api.ErrSyntax
	}
	var numbers []int
	for _, word := range numberTexts(words) {
		number, err := strconv.ParseInt(word, 10, 64)
		if err != nil {
			return "", api.ErrSyntax // it is beyond the range of int
		}
		numbers = append(numbers, int(number))
	}
	switch words[0] {
	case "save":
		m.saved, m.savedActs = m.now.clone(), len(m.acts)
		return fmt.Sprint("saved ", len(m.acts)), api.OK
	case "crash":
		m.now, m.acts = m.saved.clone(), m.acts[:m.savedActs]
		return fmt.Sprint("recovered ", len(m.acts)), api.OK
	}
	if m.room() == 0 {
		return "", api.ErrFull
	}
	next := m.now.clone()
	answer, e := next.do(m.plant, words, numbers)
	if e != api.OK {
		return "", e
	}
	m.now, m.acts = next, append(slices.Clone(m.acts), line)
	return answer, api.OK
}

// numberTexts returns those of the words that are number texts.
func numberTexts(words []string) []string {
	switch words[0] {
	case "cook":
		return words[1:3]
	case "put", "remove":
		return words[1:2]
	}
	return words[1:]
}

func (s *state) do(h api.House, words []string, n []int) (string, api.Errno) {
	switch words[0] {
	case "receive", "blend", "ship", "discard":
		return s.doLots(words[0], n)
	case "charge", "steep", "turn", "read", "empty", "cook":
		if n[0] >= h.Beds {
			return "", api.ErrRange
		}
		_, full := s.holds[n[0]]
		if words[0] == "charge" {
			return s.charge(h, full, n)
		}
		if !full {
			return "", api.ErrNone
		}
		if words[0] == "cook" {
			return s.cook(h, n[0], n[1], strings.Join(words[3:], " "))
		}
		return s.doBed(h, words[0], n)
	case "tick":
		return s.tick(h, n[0])
	}
	return "ok", s.doSites(words, n)
}

func (s *state) doLots(word string, n []int) (string, api.Errno) {
	switch word {
	case "receive":
		lot, e := s.book.Receive(n[0])
		s.received += n[0]
		return fmt.Sprint("lot ", lot), e
	case "blend":
		var parts []api.Part
		for i := 0; i < len(n); i += 2 {
			parts = append(parts, api.Part{Lot: n[i], Mass: n[i+1]})
		}
		lot, e := s.book.Blend(parts)
		return fmt.Sprint("lot ", lot), e
	case "ship":
		return "ok", s.book.Ship(n[0], n[1])
	}
	return "ok", s.book.Discard(n[0], n[1])
}

func (s *state) charge(h api.House, full bool, n []int) (string, api.Errno) {
	if full {
		return "", api.ErrBusy
	}
	lot, e := s.book.Blend([]api.Part{{Lot: n[1], Mass: n[2]}})
	s.holds[n[0]], s.cells[n[0]] = lot, make([]int, h.Cells)
	s.taken[n[0]], s.lost[n[0]] = 0, 0
	return fmt.Sprint("lot ", lot), e
}

func (s *state) doBed(h api.House, word string, n []int) (string, api.Errno) {
	number := n[0]
	cells := s.cells[number]
	switch word {
	case "steep":
		return fmt.Sprint("rest ", s.steep(h, number, n[1])), api.OK
	case "turn":
		s.turn(number)
		return "ok", api.OK
	case "read":
		for _, moisture := range cells {
			moisture = min(moisture, 1<<h.Levels-1)
			d, e := s.digest.Add(moisture, 1)
			if e != api.OK {
				return "", e
			}
			s.digest = d
		}
		return fmt.Sprint("spread ", slices.Max(cells)-slices.Min(cells)), api.OK
	}
	lot := s.holds[number]
	delete(s.holds, number)
	delete(s.cells, number)
	return fmt.Sprint("lot ", lot), api.OK
}

// steep fills cell after cell, and returns the water that is left.
func (s *state) steep(h api.House, number, water int) int {
	for i, moisture := range s.cells[number] {
		if moisture < h.Full {
			more := min(h.Full-moisture, water)
			s.cells[number][i] += more
			s.taken[number] += more
			water -= more
		}
	}
	return water
}

func (s *state) turn(number int) {
	slices.Reverse(s.cells[number])
}

// wait returns what the bed loses.
func (s *state) wait(h api.House, number, ticks int) int {
	cells, lost, _, e := bed.Run(h.Grain, s.cells[number], ticks)
	if e != api.OK {
		panic(e)
	}
	s.cells[number] = cells
	s.lost[number] += lost
	return lost
}

func (s *state) tick(h api.House, ticks int) (string, api.Errno) {
	if ticks < 1 || ticks > 4096 {
		return "", api.ErrArg
	}
	if s.time+ticks > 1<<40 {
		return "", api.ErrFull
	}
	answer := "lost"
	for number := range h.Beds {
		if _, full := s.holds[number]; full {
			answer += fmt.Sprint(" ", s.wait(h, number, ticks))
		}
	}
	s.time += ticks
	return answer, api.OK
}

func (s *state) cook(h api.House, number, gas int, text string) (string, api.Errno) {
	if gas > 1<<20 {
		return "", api.ErrArg
	}
	cells := s.cells[number]
	values := []int{s.time, cells[0], cells[len(cells)-1], slices.Max(cells) - slices.Min(cells), sum(cells)}
	code, names, _, e := recipe.Compile(strings.ReplaceAll(text, ";", "\n"), []string{"time", "top", "bottom", "spread", "total"})
	if e != api.OK {
		return "", e
	}
	run, e := recipe.Exec(code, append(values, make([]int, len(names)-5)...), gas)
	switch {
	case e != api.OK:
		panic(e)
	case run.End == api.Failed:
		return "", api.Errno(run.Err)
	case run.End == api.Starved:
		return "", api.ErrState
	case len(run.Out)%2 == 1:
		return "", api.ErrArg
	}
	for i := 0; i < len(run.Out); i += 2 {
		code, n := run.Out[i], run.Out[i+1]
		switch {
		case code == 1 && n >= 0:
			s.steep(h, number, n)
		case code == 2 && n >= 0 && n <= 4096:
			s.wait(h, number, n)
		case code == 3:
			s.turn(number)
		default:
			return "", api.ErrArg
		}
	}
	return fmt.Sprint("done ", len(run.Out)/2), api.OK
}

func sum(numbers []int) int {
	total := 0
	for _, n := range numbers {
		total += n
	}
	return total
}

func (s *state) doSites(words []string, n []int) api.Errno {
	switch words[0] {
	case "put", "remove":
		if n[0] >= len(s.tables) {
			return api.ErrReplica
		}
		if words[0] == "remove" {
			s.tables[n[0]] = s.tables[n[0]].Remove(words[2])
			return api.OK
		}
		table, e := s.tables[n[0]].Put(n[0], words[2], words[3])
		s.tables[n[0]] = table
		return e
	case "send":
		if max(n[0], n[1]) >= len(s.tables) {
			return api.ErrReplica
		}
		if len(s.letters) == 256 {
			return api.ErrFull
		}
		s.letters = append(s.letters, parcel{n[0], n[1], s.tables[n[0]]})
		return api.OK
	}
	if n[0] >= len(s.letters) {
		return api.ErrRange
	}
	letter := s.letters[n[0]]
	if words[0] != "lose" {
		s.tables[letter.to] = sync.Merge(s.tables[letter.to], letter.table)
	}
	if words[0] != "repeat" {
		s.letters = slices.Delete(s.letters, n[0], n[0]+1)
	}
	return api.OK
}

// text is what Text should return.
func (m *model) text() string {
	var b strings.Builder
	s := m.now
	fmt.Fprintln(&b, "time", s.time)
	for lot := range s.book.Lots() {
		made, left, shipped, discarded, _ := s.book.Mass(lot)
		fmt.Fprintln(&b, "lot", lot, made, left, shipped, discarded)
	}
	for number := range m.plant.Beds {
		if lot, full := s.holds[number]; full {
			fmt.Fprintln(&b, "bed", number, lot, strings.Trim(fmt.Sprint(s.cells[number]), "[]"))
		} else {
			fmt.Fprintln(&b, "bed", number, "empty")
		}
	}
	for _, node := range s.digest.Nodes() {
		fmt.Fprintln(&b, "node", node.ID, node.Count)
	}
	for site, table := range s.tables {
		fmt.Fprint(&b, "site ", site)
		for other := range 8 {
			fmt.Fprint(&b, " ", table.Seen(other))
		}
		fmt.Fprintln(&b)
		for _, e := range table.Entries() {
			fmt.Fprintln(&b, "entry", e.Key, e.Value, e.Dot.Site, e.Dot.Count)
		}
	}
	for _, letter := range s.letters {
		fmt.Fprintln(&b, "letter", letter.from, letter.to)
	}
	return b.String()
}
