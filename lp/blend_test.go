package lp_test

import (
	"math"
	"math/rand"
	"reflect"
	"slices"
	"testing"

	"acrospire/api"
	"acrospire/lp"
)

// plain returns a valid blend with n malts and p properties, without any demands.
func plain(n, p int) api.Blend {
	b := api.Blend{Amount: 6, Low: filled(p, -9), High: filled(p, 9)}
	for i := range n {
		b.Malts = append(b.Malts, api.Malt{Stock: 10 + i, Price: 5 + i, Props: filled(p, i)})
	}
	return b
}

// plainProgram is the program of a blend, read from the chapter.
func plainProgram(b api.Blend) api.Program {
	n := len(b.Malts)
	p := uniform(n, 2+n+2*len(b.Low), 0)
	p.B[0], p.B[1] = b.Amount, -b.Amount
	for i, malt := range b.Malts {
		p.C[i] = -malt.Price
		p.A[0][i], p.A[1][i], p.A[2+i][i] = 1, -1, 1
		p.B[2+i] = malt.Stock
		for k := range b.Low {
			p.A[2+n+k][i] = malt.Props[k] - b.High[k]
			p.A[2+n+len(b.Low)+k][i] = b.Low[k] - malt.Props[k]
		}
	}
	return p
}

func same(p, q api.Program) bool {
	return slices.Equal(p.C, q.C) && slices.Equal(p.B, q.B) && slices.EqualFunc(p.A, q.A, slices.Equal[[]int])
}

// programOf returns the program of a valid blend, after checks.
func programOf(t *testing.T, b api.Blend) api.Program {
	t.Helper()
	p, e := lp.ToProgram(b)
	if e != api.OK || !same(p, plainProgram(b)) {
		t.Fatalf("ToProgram(%v) = %v, %d; want %v", b, p, e, plainProgram(b))
	}
	return p
}

// mixed returns the answer of Mix, which must be the one of Solve.
func mixed(t *testing.T, b api.Blend) lp.Answer {
	t.Helper()
	a, e := lp.Mix(b)
	s := solved(t, programOf(t, b))
	if e != api.OK || a.Status != s.Status || a.Value.Cmp(s.Value) != 0 || text(a.X) != text(s.X) || text(a.Y) != text(s.Y) || text(a.Ray) != text(s.Ray) {
		t.Fatalf("Mix(%v) = %v, %d; want %v", b, a, e, s)
	}
	return a
}

func TestToProgram(t *testing.T) {
	b := api.Blend{
		Malts:  []api.Malt{{Stock: 10, Price: 5, Props: []int{4, -1}}, {Stock: 20, Price: 1, Props: []int{10, 7}}},
		Amount: 6, Low: []int{5, -3}, High: []int{7, 2},
	}
	want := program(t, "-5 -1", "1 1,-1 -1,1 0,0 1,-3 3,-3 5,1 -5,-2 -10", "6 -6 10 20 0 0 0 0")
	if p := programOf(t, b); !same(p, want) {
		t.Errorf("%v, want %v", p, want)
	}
}

func TestToProgramWithoutProperties(t *testing.T) {
	want := program(t, "-5 -6 -7", "1 1 1,-1 -1 -1,1 0 0,0 1 0,0 0 1", "6 -6 10 11 12")
	for _, b := range []api.Blend{plain(3, 0), {Malts: []api.Malt{{Stock: 10, Price: 5}, {Stock: 11, Price: 6}, {Stock: 12, Price: 7}}, Amount: 6}} {
		if p := programOf(t, b); !same(p, want) {
			t.Errorf("%v, want %v", p, want)
		}
	}
}

func TestMix(t *testing.T) {
	// At most half of the blend is the cheap one, because of the greatest mean.
	b := api.Blend{Malts: []api.Malt{{Stock: 10, Price: 5, Props: []int{4}}, {Stock: 10, Price: 1, Props: []int{10}}}, Amount: 6, Low: []int{5}, High: []int{7}}
	if a := mixed(t, b); a.Status != api.Optimal || a.Value.String() != "-18" || text(a.X) != "3 3" {
		t.Errorf("Mix = %v", a)
	}
	// At least a sixth of it is the dear one, because of the least mean.
	b.Malts[0].Price, b.Malts[1].Price = 1, 5
	if a := mixed(t, b); a.Status != api.Optimal || a.Value.String() != "-10" || text(a.X) != "5 1" {
		t.Errorf("Mix = %v", a)
	}
	// The stock of the cheap one does not suffice.
	b.Malts[0].Stock = 4
	if a := mixed(t, b); a.Status != api.Optimal || a.Value.String() != "-14" || text(a.X) != "4 2" {
		t.Errorf("Mix = %v", a)
	}
	b.Malts[1].Stock = 1
	if a := mixed(t, b); a.Status != api.Infeasible {
		t.Errorf("too little stock: %v", a)
	}
}

func TestMixWithoutProperties(t *testing.T) {
	b := api.Blend{Malts: []api.Malt{{Stock: 3, Price: 9}, {Stock: 5, Price: 2}, {Stock: 4, Price: 4}}, Amount: 10}
	if a := mixed(t, b); a.Status != api.Optimal || a.Value.String() != "-35" || text(a.X) != "1 5 4" {
		t.Errorf("Mix = %v", a)
	}
	b.Amount = 12
	if a := mixed(t, b); a.Status != api.Optimal || text(a.X) != "3 5 4" {
		t.Errorf("all of it: %v", a)
	}
	b.Amount = 13
	if a := mixed(t, b); a.Status != api.Infeasible {
		t.Errorf("too much: %v", a)
	}
	b.Amount = 0
	if a := mixed(t, b); a.Status != api.Optimal || text(a.X) != "0 0 0" {
		t.Errorf("nothing: %v", a)
	}
}

func TestMixWithPropertiesThatNoMixtureMeets(t *testing.T) {
	b := plain(2, 1)
	b.Low, b.High = []int{2}, []int{3}
	if a := mixed(t, b); a.Status != api.Infeasible {
		t.Errorf("too little: %v", a)
	}
	b.Low, b.High = []int{-3}, []int{-1}
	if a := mixed(t, b); a.Status != api.Infeasible {
		t.Errorf("too much: %v", a)
	}
	// Each property can be met alone, but not both.
	c := plain(2, 2)
	c.Malts[0].Props, c.Malts[1].Props = []int{0, 0}, []int{10, 10}
	c.Low, c.High = []int{0, 6}, []int{4, 10}
	if a := mixed(t, c); a.Status != api.Infeasible {
		t.Errorf("both: %v", a)
	}
	// Of nothing, all means are met.
	c.Amount = 0
	if a := mixed(t, c); a.Status != api.Optimal || a.Value.Sign() != 0 {
		t.Errorf("nothing: %v", a)
	}
}

func TestMixManyBlends(t *testing.T) {
	r := rand.New(rand.NewSource(28))
	count := map[int]int{}
	for i := range 400 {
		size := []int{3, 20, 1000, api.MaxCoef / 2}[i%4]
		n := r.Intn(api.MaxVars) + 1
		b := plain(n, r.Intn((api.MaxRows-2-n)/2+1))
		b.Amount = r.Intn(2*size + 1)
		for i := range b.Malts {
			b.Malts[i].Stock, b.Malts[i].Price = r.Intn(2*size+1), r.Intn(2*size+1)
			for k := range b.Low {
				b.Malts[i].Props[k] = r.Intn(2*size+1) - size
			}
		}
		for k := range b.Low {
			one, other := r.Intn(2*size+1)-size, r.Intn(2*size+1)-size
			b.Low[k], b.High[k] = min(one, other), max(one, other)
		}
		count[mixed(t, b).Status]++
	}
	if count[api.Optimal] < 50 || count[api.Infeasible] < 50 || count[api.Unbounded] > 0 {
		t.Errorf("statuses %v", count)
	}
}

// A change makes a blend invalid, or lets it be valid, in one respect.
type change struct {
	what  string
	n, p  int
	apply func(b *api.Blend)
}

func validChanges() []change {
	list := []change{
		{"one malt", 1, 0, func(b *api.Blend) {}},
		{"the most malts", 12, 1, func(b *api.Blend) {}},
		{"the most properties", 1, 6, func(b *api.Blend) {}},
		{"14 rows and a pair", 10, 2, func(b *api.Blend) {}},
		{"15 rows", 11, 1, func(b *api.Blend) {}},
		{"amount 0", 2, 1, func(b *api.Blend) { b.Amount = 0 }},
		{"the greatest amount", 2, 1, func(b *api.Blend) { b.Amount = api.MaxCoef }},
		{"stock 0", 2, 1, func(b *api.Blend) { b.Malts[1].Stock = 0 }},
		{"the greatest stock", 2, 1, func(b *api.Blend) { b.Malts[1].Stock = api.MaxCoef }},
		{"price 0", 2, 1, func(b *api.Blend) { b.Malts[1].Price = 0 }},
		{"the greatest price", 2, 1, func(b *api.Blend) { b.Malts[1].Price = api.MaxCoef }},
		{"equal bounds", 2, 2, func(b *api.Blend) { b.Low[1], b.High[1] = 4, 4 }},
		{"the greatest bounds", 2, 2, func(b *api.Blend) { b.Low[1], b.High[1] = api.MaxCoef/2, api.MaxCoef/2 }},
		{"the least bounds", 2, 2, func(b *api.Blend) { b.Low[1], b.High[1] = -api.MaxCoef/2, -api.MaxCoef/2 }},
		{"the widest bounds", 2, 2, func(b *api.Blend) { b.Low[1], b.High[1] = -api.MaxCoef/2, api.MaxCoef/2 }},
		{"the greatest property", 2, 2, func(b *api.Blend) { b.Malts[1].Props[1] = api.MaxCoef / 2; b.Low[1] = -api.MaxCoef / 2 }},
		{"the least property", 2, 2, func(b *api.Blend) { b.Malts[1].Props[1] = -api.MaxCoef / 2; b.High[1] = api.MaxCoef / 2 }},
	}
	return list
}

func invalidChanges() []change {
	list := []change{
		{"no malt", 0, 0, func(b *api.Blend) {}},
		{"no malt, a property", 0, 1, func(b *api.Blend) {}},
		{"too many malts", 13, 0, func(b *api.Blend) {}},
		{"too many rows", 12, 2, func(b *api.Blend) {}},
		{"too many rows by one", 11, 2, func(b *api.Blend) {}},
		{"too many properties", 1, 7, func(b *api.Blend) {}},
		{"far too many", 1, 100000, func(b *api.Blend) {}},
		{"no High", 2, 1, func(b *api.Blend) { b.High = nil }},
		{"no Low", 2, 1, func(b *api.Blend) { b.Low = nil }},
		{"Low is too short", 2, 2, func(b *api.Blend) { b.Low = b.Low[:1] }},
		{"Low is too long", 2, 2, func(b *api.Blend) { b.Low = append(b.Low, 0) }},
		{"High is too short", 2, 2, func(b *api.Blend) { b.High = b.High[:1] }},
		{"High is too long", 2, 2, func(b *api.Blend) { b.High = append(b.High, 0) }},
		{"Props are too short", 2, 2, func(b *api.Blend) { b.Malts[1].Props = []int{1} }},
		{"Props are too long", 2, 2, func(b *api.Blend) { b.Malts[0].Props = []int{1, 1, 1} }},
		{"no Props", 2, 2, func(b *api.Blend) { b.Malts[0].Props = nil }},
		{"Props without property", 2, 0, func(b *api.Blend) { b.Malts[1].Props = []int{0} }},
		{"Low above High", 2, 2, func(b *api.Blend) { b.Low[1], b.High[1] = 5, 4 }},
		{"Low above High at first", 2, 2, func(b *api.Blend) { b.Low[0], b.High[0] = 1, 0 }},
		{"Low above High by far", 2, 2, func(b *api.Blend) { b.Low[1], b.High[1] = api.MaxCoef/2, -api.MaxCoef/2 }},
	}
	for _, c := range []int{-1, api.MaxCoef + 1, math.MaxInt, math.MinInt} {
		list = append(list,
			change{"stock", 2, 1, func(b *api.Blend) { b.Malts[1].Stock = c }},
			change{"price", 2, 1, func(b *api.Blend) { b.Malts[1].Price = c }},
			change{"amount", 2, 1, func(b *api.Blend) { b.Amount = c }})
	}
	for _, c := range []int{-api.MaxCoef/2 - 1, api.MaxCoef/2 + 1, math.MaxInt, math.MinInt} {
		list = append(list,
			change{"property", 2, 2, func(b *api.Blend) { b.Malts[1].Props[1] = c }},
			change{"both bounds", 2, 2, func(b *api.Blend) { b.Low[1], b.High[1] = c, c }})
	}
	list = append(list,
		change{"Low is below", 2, 2, func(b *api.Blend) { b.Low[1] = -api.MaxCoef/2 - 1 }},
		change{"Low is least", 2, 2, func(b *api.Blend) { b.Low[1] = math.MinInt }},
		change{"High is above", 2, 2, func(b *api.Blend) { b.High[1] = api.MaxCoef/2 + 1 }},
		change{"High is greatest", 2, 2, func(b *api.Blend) { b.High[1] = math.MaxInt }})
	return list
}

func TestValidBlends(t *testing.T) {
	for _, c := range validChanges() {
		b := plain(c.n, c.p)
		c.apply(&b)
		if _, e := lp.ToProgram(b); e != api.OK {
			t.Errorf("%s: ToProgram = %d", c.what, e)
			continue
		}
		mixed(t, b)
	}
}

func TestInvalidBlends(t *testing.T) {
	for _, c := range invalidChanges() {
		b := plain(c.n, c.p)
		c.apply(&b)
		if p, e := lp.ToProgram(b); e != api.ErrArg || len(p.A)+len(p.B)+len(p.C) != 0 {
			t.Errorf("%s: ToProgram = %v, %d", c.what, p, e)
		}
		if a, e := lp.Mix(b); e != api.ErrArg || !isZero(a) {
			t.Errorf("%s: Mix = %v, %d", c.what, a, e)
		}
	}
	if _, e := lp.ToProgram(api.Blend{}); e != api.ErrArg {
		t.Errorf("an empty blend: %d", e)
	}
}

func TestBlendsAreLeft(t *testing.T) {
	b, before := plain(3, 2), plain(3, 2)
	p := programOf(t, b)
	mixed(t, b)
	for _, row := range append(p.A, p.B, p.C) {
		for k := range row {
			row[k] = 99
		}
	}
	if !reflect.DeepEqual(b, before) {
		t.Errorf("%v became %v", before, b)
	}
	// Rows that share memory would change each other.
	q := programOf(t, b)
	for i, row := range q.A {
		row[0] = 1000 + i
	}
	for i, row := range q.A {
		if row[0] != 1000+i {
			t.Errorf("row %d shares memory", i)
		}
	}
	programOf(t, b)
}
