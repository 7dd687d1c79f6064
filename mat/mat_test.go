package mat

import (
	"math"
	"slices"
	"testing"

	"waywarden/api"
	"waywarden/plain"
)

// notDistances are numbers that are no distances; some of them are distances
// in their low bits.
var notDistances = []int{
	math.MinInt, -1 << 32, -256, -17, -16, -1,
	17, 18, 32, 256, 1 << 32, 1<<32 + 9, math.MaxInt - 16, math.MaxInt,
}

// same reports whether two lists of rows are equal.
func same(a, b [][]int) bool { return slices.EqualFunc(a, b, slices.Equal[[]int]) }

// clone returns a copy that shares no memory with a.
func clone(a [][]int) [][]int {
	rows := slices.Clone(a)
	for i := range rows {
		rows[i] = slices.Clone(a[i])
	}
	return rows
}

// filled returns rows of that many columns, with d everywhere.
func filled(rows, columns, d int) [][]int {
	a := make([][]int, rows)
	for i := range a {
		a[i] = slices.Repeat([]int{d}, columns)
	}
	return a
}

// with returns a copy of a that has d in row i and column k.
func with(a [][]int, i, k, d int) [][]int {
	b := clone(a)
	b[i][k] = d
	return b
}

// identity returns what One has to return.
func identity(n int) [][]int {
	a := filled(n, n, 16)
	for i := range a {
		a[i][i] = 0
	}
	return a
}

// product returns the minimum over all j as the document defines it, without
// the functions of the program.
func product(a, b [][]int) [][]int {
	c := filled(len(a), len(a), 16)
	for i := range c {
		for k := range c {
			var sums []int
			for j := range c {
				sums = append(sums, a[i][j]+b[j][k])
			}
			if least := slices.Min(sums); least < 16 {
				c[i][k] = least
			}
		}
	}
	return c
}

// powers returns the elementwise minimum of One, a, Mul(a, a), and so on, for
// more powers than can make a difference.
func powers(a [][]int) [][]int {
	power := identity(len(a))
	least := clone(power)
	for range 2*len(a) + 17 {
		power = product(power, a)
		for i, row := range power {
			for k, d := range row {
				if d < least[i][k] {
					least[i][k] = d
				}
			}
		}
	}
	return least
}

// made returns a matrix with n rows of numbers that depend on seed; a part of
// them, which depends on it too, is 16, and the others are at most most.
func made(n, seed, most int) [][]int {
	a := filled(n, n, 16)
	for i := range a {
		for k := range a {
			number := api.Mix(seed*64+i*8+k, n)
			if number%11 > seed%11 {
				a[i][k] = number / 11 % (most + 1)
			}
		}
	}
	return a
}

// matrices calls f with matrices of every size, sparse ones and dense ones,
// with small elements and with large ones.
func matrices(f func(a [][]int)) {
	for n := 1; n <= api.MaxNodes; n++ {
		for _, most := range []int{1, 2, 5, 9, 16} {
			for seed := range 33 {
				f(made(n, seed, most))
			}
		}
		for _, d := range []int{0, 1, 8, 15, 16} {
			f(filled(n, n, d))
		}
		f(identity(n))
	}
}

// small calls f with every matrix of two rows that has only these elements.
func small(elements []int, f func(a [][]int)) {
	for _, p := range elements {
		for _, q := range elements {
			for _, r := range elements {
				for _, s := range elements {
					f([][]int{{p, q}, {r, s}})
				}
			}
		}
	}
}

// wantMul expects this product, without an error.
func wantMul(t *testing.T, a, b, want [][]int) {
	t.Helper()
	if got, err := Mul(a, b); err != nil || !same(got, want) {
		t.Errorf("Mul(%v, %v) = %v, %v, want %v", a, b, got, err, want)
	}
}

// wantStar expects this result of Star, without an error.
func wantStar(t *testing.T, a, want [][]int) {
	t.Helper()
	if got, err := Star(a); err != nil || !same(got, want) {
		t.Errorf("Star(%v) = %v, %v, want %v", a, got, err, want)
	}
}

// wantMulError expects this error of Mul, and no rows.
func wantMulError(t *testing.T, a, b [][]int, want api.Errno) {
	t.Helper()
	if got, err := Mul(a, b); len(got) != 0 || plain.Told(err) != want {
		t.Errorf("Mul(%v, %v) = %v, %v, want none, %v", a, b, got, err, want)
	}
}

// wantValid expects that a is a matrix for every function, and that the error
// is nil, not OK.
func wantValid(t *testing.T, a [][]int) {
	t.Helper()
	_, mulErr := Mul(a, a)
	_, starErr := Star(a)
	if err := Check(a); err != nil || mulErr != nil || starErr != nil {
		t.Errorf("of %v Check returns %v, Mul %v, Star %v, want nil", a, err, mulErr, starErr)
	}
}

// wantError expects this error of every function to which a is passed. In Mul
// it precedes the errors of what is to the right of a, and that of unlike
// numbers of rows.
func wantError(t *testing.T, a [][]int, want api.Errno) {
	t.Helper()
	if err := Check(a); plain.Told(err) != want {
		t.Errorf("Check(%v) = %v, want %v", a, err, want)
	}
	if got, err := Star(a); len(got) != 0 || plain.Told(err) != want {
		t.Errorf("Star(%v) = %v, %v, want none, %v", a, got, err, want)
	}
	for n := 1; n <= api.MaxNodes; n++ {
		wantMulError(t, identity(n), a, want)
		wantMulError(t, a, identity(n), want)
		wantMulError(t, a, with(identity(n), n-1, 0, 17), want)
		wantMulError(t, a, filled(n, n+1, 3), want)
	}
	wantMulError(t, a, a, want)
	wantMulError(t, a, nil, want)
	wantMulError(t, a, filled(9, 9, 3), want)
}

func TestExample(t *testing.T) {
	wantStar(t, [][]int{{5, 1}, {16, 16}}, [][]int{{0, 1}, {16, 0}})
}

// TestNumberOfRows: the rows have as many columns, so that only their number
// is at fault.
func TestNumberOfRows(t *testing.T) {
	for n := 1; n <= 8; n++ {
		wantValid(t, filled(n, n, 3))
	}
	wantError(t, nil, api.ErrForm)
	wantError(t, [][]int{}, api.ErrForm)
	for _, n := range []int{9, 10, 16, 64, 1000} {
		wantError(t, filled(n, n, 3), api.ErrForm)
		wantError(t, filled(n, 8, 3), api.ErrForm)
		wantError(t, filled(n, 1, 3), api.ErrForm)
		wantError(t, make([][]int, n), api.ErrForm)
	}
	wantError(t, make([][]int, 1<<16), api.ErrForm)
}

// TestLengthOfARow: one row at every place is too short, too long or empty.
func TestLengthOfARow(t *testing.T) {
	for n := 1; n <= api.MaxNodes; n++ {
		for at := range n {
			for _, length := range []int{0, n - 1, n + 1, 2 * n, n + 8, 1 << 12} {
				a := filled(n, n, 3)
				a[at] = slices.Repeat([]int{3}, length)
				wantError(t, a, api.ErrForm)
			}
			a := filled(n, n, 3)
			a[at] = nil
			wantError(t, a, api.ErrForm)
		}
	}
}

// TestLengthOfAllRows: the rows are alike, but too short, too long or empty;
// or there are as many elements as in a matrix.
func TestLengthOfAllRows(t *testing.T) {
	for n := 1; n <= api.MaxNodes; n++ {
		for _, length := range []int{0, n - 1, n + 1, 9} {
			wantError(t, filled(n, length, 3), api.ErrForm)
		}
		wantError(t, make([][]int, n), api.ErrForm)
	}
	wantError(t, [][]int{{1}, {1, 2, 3}}, api.ErrForm)
	wantError(t, [][]int{{1, 2, 3}, {1}}, api.ErrForm)
	wantError(t, [][]int{{1, 2, 3, 4}}, api.ErrForm)
	wantError(t, [][]int{{1}, {2}, {3}, {4}}, api.ErrForm)
}

// TestElements: at every place, the limits of distances and numbers beyond.
func TestElements(t *testing.T) {
	for n := 1; n <= api.MaxNodes; n++ {
		for i := range n {
			for k := range n {
				a := filled(n, n, 3)
				for d := range 17 {
					wantValid(t, with(a, i, k, d))
				}
				wantError(t, with(a, i, k, -1), api.ErrRange)
				wantError(t, with(a, i, k, 17), api.ErrRange)
			}
		}
		for _, d := range notDistances {
			wantError(t, filled(n, n, d), api.ErrRange)
			wantError(t, with(identity(n), 0, 0, d), api.ErrRange)
			wantError(t, with(identity(n), n-1, n-1, d), api.ErrRange)
		}
	}
}

// TestFormBeforeElements: all rows are measured before any element is looked
// at, wherever the faults are.
func TestFormBeforeElements(t *testing.T) {
	for n := 2; n <= api.MaxNodes; n++ {
		for _, d := range []int{-1, 17, math.MinInt, math.MaxInt} {
			for at := range n {
				for _, length := range []int{0, n - 1, n + 1} {
					a := filled(n, n, d)
					a[at] = slices.Repeat([]int{3}, length)
					wantError(t, a, api.ErrForm)
					a[at] = slices.Repeat([]int{d}, length)
					wantError(t, a, api.ErrForm)
				}
			}
			wantError(t, filled(n, n+1, d), api.ErrForm)
		}
	}
	wantError(t, filled(9, 9, 17), api.ErrForm)
	wantError(t, [][]int{{17, 17}}, api.ErrForm)
}

// TestSeveralElements: faults of several elements are one error.
func TestSeveralElements(t *testing.T) {
	wantError(t, [][]int{{-1, 17}, {17, -1}}, api.ErrRange)
	wantError(t, [][]int{{0, 17}, {16, -1}}, api.ErrRange)
	wantError(t, [][]int{{0, 16}, {-1, 17}}, api.ErrRange)
}

func TestOne(t *testing.T) {
	for n := 1; n <= 8; n++ {
		got, err := One(n)
		if err != nil || !same(got, identity(n)) {
			t.Errorf("One(%d) = %v, %v, want %v", n, got, err, identity(n))
		}
		wantValid(t, got)
	}
}

func TestOneOfOtherNumbers(t *testing.T) {
	for _, n := range []int{math.MinInt, math.MinInt + 1, -1 << 32, -8, -1, 0, 9, 10, 16, 256 + 8, 1<<32 + 1, 1 << 62, math.MaxInt} {
		if got, err := One(n); len(got) != 0 || plain.Told(err) != api.ErrRange {
			t.Errorf("One(%d) = %v, %v, want none, ErrRange", n, got, err)
		}
	}
}

// TestProductsOfSmallMatrices: also all sums that are just below 16, reach it
// and go beyond it.
func TestProductsOfSmallMatrices(t *testing.T) {
	elements := []int{0, 1, 8, 15, 16}
	small(elements, func(a [][]int) {
		small(elements, func(b [][]int) {
			if got, err := Mul(a, b); err != nil || !same(got, product(a, b)) {
				t.Fatalf("Mul(%v, %v) = %v, %v, want %v", a, b, got, err, product(a, b))
			}
		})
	})
	for p := range 17 {
		for q := range 17 {
			wantMul(t, [][]int{{p}}, [][]int{{q}}, [][]int{{min(p+q, 16)}})
		}
	}
}

// TestProductsOfEverySize: the sides are of one kind and of unlike kinds.
func TestProductsOfEverySize(t *testing.T) {
	matrices(func(a [][]int) {
		wantMul(t, a, a, product(a, a))
		for seed, most := range []int{0, 3, 6, 9, 12, 15, 16} {
			b := made(len(a), 1000+seed, most)
			wantMul(t, a, b, product(a, b))
			wantMul(t, b, a, product(b, a))
		}
	})
}

// TestOrderOfSides: the product depends on which matrix is on the left.
func TestOrderOfSides(t *testing.T) {
	a, b := [][]int{{1, 16}, {2, 0}}, [][]int{{0, 3}, {16, 1}}
	wantMul(t, a, b, [][]int{{1, 4}, {2, 1}})
	wantMul(t, b, a, [][]int{{1, 3}, {3, 1}})
}

// TestEveryNodeBetween: for each j there is a product whose only sum below 16
// is that over j, and one whose smallest sum is.
func TestEveryNodeBetween(t *testing.T) {
	for n := 1; n <= api.MaxNodes; n++ {
		for j := range n {
			for i := range n {
				for k := range n {
					a, b := filled(n, n, 16), filled(n, n, 16)
					a[i][j], b[j][k] = 6, 7
					wantMul(t, a, b, with(filled(n, n, 16), i, k, 13))
				}
			}
			a, b := filled(n, n, 7), filled(n, n, 7)
			a[0][j], b[j][n-1] = 6, 5
			if got, err := Mul(a, b); err != nil || got[0][n-1] != 11 {
				t.Errorf("Mul(%v, %v) = %v, %v, want 11 in the corner", a, b, got, err)
			}
		}
	}
}

func TestSumsAboutInfinity(t *testing.T) {
	for n := 1; n <= api.MaxNodes; n++ {
		for _, c := range []struct{ p, q, want int }{
			{7, 8, 15}, {0, 15, 15}, {15, 0, 15}, {8, 8, 16}, {0, 16, 16}, {16, 0, 16}, {1, 15, 16}, {15, 1, 16},
			{8, 9, 16}, {9, 9, 16}, {15, 15, 16}, {1, 16, 16}, {16, 1, 16}, {15, 16, 16}, {16, 16, 16},
		} {
			wantMul(t, filled(n, n, c.p), filled(n, n, c.q), filled(n, n, c.want))
		}
	}
}

// TestProductsWithOne: One on either side changes nothing.
func TestProductsWithOne(t *testing.T) {
	matrices(func(a [][]int) {
		one, err := One(len(a))
		if err != nil {
			t.Fatalf("One(%d) returns %v", len(a), err)
		}
		wantMul(t, one, a, a)
		wantMul(t, a, one, a)
	})
}

func TestUnlikeNumbersOfRows(t *testing.T) {
	for n := 1; n <= api.MaxNodes; n++ {
		for m := 1; m <= api.MaxNodes; m++ {
			if m != n {
				wantMulError(t, filled(n, n, 3), filled(m, m, 3), api.ErrForm)
				wantMulError(t, identity(n), identity(m), api.ErrForm)
			}
		}
	}
}

// TestFirstErrorOfMul: all errors of a precede those of b, and these precede
// that of unlike numbers of rows.
func TestFirstErrorOfMul(t *testing.T) {
	good, wide := [][]int{{1, 2}, {3, 4}}, [][]int{{1, 2}, {3, 4, 5}}
	far, three := [][]int{{1, 2}, {3, 17}}, filled(3, 3, 1)
	farThree, both := with(three, 2, 2, -1), [][]int{{17, 2}, {3}}
	for _, c := range []struct {
		a, b [][]int
		want api.Errno
	}{
		{far, wide, api.ErrRange},
		{wide, far, api.ErrForm},
		{far, nil, api.ErrRange},
		{nil, far, api.ErrForm},
		{far, three, api.ErrRange},
		{three, far, api.ErrRange},
		{good, farThree, api.ErrRange},
		{farThree, good, api.ErrRange},
		{far, farThree, api.ErrRange},
		{far, both, api.ErrRange},
		{both, far, api.ErrForm},
		{good, both, api.ErrForm},
		{three, both, api.ErrForm},
		{good, three, api.ErrForm},
		{three, good, api.ErrForm},
		{wide, nil, api.ErrForm},
	} {
		wantMulError(t, c.a, c.b, c.want)
	}
}

func TestStarIsTheLeastPower(t *testing.T) {
	matrices(func(a [][]int) { wantStar(t, a, powers(a)) })
	small([]int{0, 1, 2, 5, 8, 15, 16}, func(a [][]int) { wantStar(t, a, powers(a)) })
}

// TestStarByMul compares with the powers as Mul returns them.
func TestStarByMul(t *testing.T) {
	matrices(func(a [][]int) {
		power, _ := One(len(a))
		least := clone(power)
		for range len(a) + 1 {
			next, err := Mul(power, a)
			if err != nil {
				t.Fatalf("Mul(%v, %v) returns %v", power, a, err)
			}
			for i := range next {
				for k := range next {
					least[i][k] = min(least[i][k], next[i][k])
				}
			}
			power = next
		}
		wantStar(t, a, least)
	})
}

func TestStarOfAStar(t *testing.T) {
	matrices(func(a [][]int) {
		star, err := Star(a)
		if err != nil {
			t.Fatalf("Star(%v) returns %v", a, err)
		}
		wantStar(t, star, star)
		wantMul(t, star, star, star)
	})
	for n := 1; n <= api.MaxNodes; n++ {
		wantStar(t, identity(n), identity(n))
	}
}

// TestDiagonal: whatever is in the diagonal of a, that of Star is 0 and the
// rest of Star does not depend on it.
func TestDiagonal(t *testing.T) {
	matrices(func(a [][]int) {
		zero := clone(a)
		for i := range zero {
			zero[i][i] = 0
		}
		want := powers(zero)
		for _, d := range []int{0, 1, 8, 15, 16} {
			b := clone(a)
			for i := range b {
				b[i][i] = (d + 5*i) % 17
			}
			wantStar(t, b, want)
		}
	})
	for d := range 17 {
		wantStar(t, [][]int{{d}}, [][]int{{0}})
	}
}

// orders calls f with every order of the numbers in order[at:], behind those
// before them.
func orders(order []int, at int, f func(order []int)) {
	if at == len(order) {
		f(order)
		return
	}
	for i := at; i < len(order); i++ {
		order[at], order[i] = order[i], order[at]
		orders(order, at+1, f)
		order[at], order[i] = order[i], order[at]
	}
}

// TestStarOfChains: the way from the first node of a chain to the last one
// needs all others, in whichever order the chain visits them.
func TestStarOfChains(t *testing.T) {
	for n := 1; n <= api.MaxNodes; n++ {
		order := make([]int, n)
		for i := range order {
			order[i] = i
		}
		orders(order, 0, func(order []int) {
			a, want := filled(n, n, 16), identity(n)
			for i, from := range order {
				for j, to := range order[i+1:] {
					want[from][to] = 2 * (j + 1)
				}
				if i+1 < n {
					a[from][order[i+1]] = 2
				}
			}
			if got, err := Star(a); err != nil || !same(got, want) {
				t.Fatalf("Star(%v) = %v, %v, want %v", a, got, err, want)
			}
		})
	}
}

// TestStarBeyondInfinity: ways of 15 are told, those of 16 and more are not.
func TestStarBeyondInfinity(t *testing.T) {
	wantStar(t, [][]int{{16, 7, 16}, {16, 16, 8}, {16, 16, 16}}, [][]int{{0, 7, 15}, {16, 0, 8}, {16, 16, 0}})
	wantStar(t, [][]int{{16, 8, 16}, {16, 16, 8}, {16, 16, 16}}, [][]int{{0, 8, 16}, {16, 0, 8}, {16, 16, 0}})
	wantStar(t, [][]int{{16, 9, 16}, {16, 16, 9}, {16, 16, 16}}, [][]int{{0, 9, 16}, {16, 0, 9}, {16, 16, 0}})
	wantStar(t, [][]int{{16, 15, 16}, {16, 16, 0}, {0, 16, 16}}, [][]int{{0, 15, 15}, {0, 0, 0}, {0, 15, 0}})
}

// askAll calls every function with a, and Mul with a on either side.
func askAll(a, b [][]int) {
	_ = Check(a)
	_, _ = Star(a)
	_, _ = Mul(a, a)
	_, _ = Mul(a, b)
	_, _ = Mul(b, a)
}

// TestMatricesStayAsTheyWere: also the memory behind the length of the rows
// and of the list of them.
func TestMatricesStayAsTheyWere(t *testing.T) {
	unchanged := func(a [][]int) {
		list := append(clone(a), []int{70, 71}, nil)
		for i, row := range a {
			list[i] = append(list[i], 72, 73)[:len(row)]
		}
		askAll(list[:len(a)], identity(max(1, min(len(a), 8))))
		if !same(list[:len(a)], a) || !same(list[len(a):], [][]int{{70, 71}, nil}) {
			t.Errorf("%v became %v", a, list)
		}
		for i, row := range a {
			if n := len(row); !slices.Equal(list[i][n:n+2], []int{72, 73}) {
				t.Errorf("behind row %d of %v is %v", i, a, list[i][n:n+2])
			}
		}
	}
	matrices(unchanged)
	unchanged(nil)
	unchanged([][]int{{1, 2}, {3}})
	unchanged([][]int{{1, 2}, {3, 17}})
	unchanged(filled(9, 9, 3))
}

// TestRowsThatAreOne: a matrix may contain the same memory more than once.
func TestRowsThatAreOne(t *testing.T) {
	row := []int{3, 1, 2}
	a := [][]int{row, row, row}
	want := powers(a)
	wantMul(t, a, a, product(a, a))
	wantStar(t, a, want)
	if !slices.Equal(row, []int{3, 1, 2}) {
		t.Errorf("the row became %v", row)
	}
	memory := []int{1, 2, 3, 4}
	b := [][]int{memory[0:3], memory[1:4], memory[0:3]}
	wantMul(t, b, b, product(b, b))
	wantStar(t, b, powers(b))
}

// wantOwn checks that a change of a row of what ask returns, also behind its
// length, changes neither another row of it nor what ask returns otherwise.
func wantOwn(t *testing.T, name string, ask func() ([][]int, error)) {
	t.Helper()
	rows, err := ask()
	want := clone(rows)
	if err != nil || len(rows) == 0 {
		t.Fatalf("%s returns %v, %v", name, rows, err)
	}
	other, _ := ask()
	for i := range rows {
		for k := range rows[i] {
			rows[i][k] = -1
		}
		_ = append(rows[i], -1, -1, -1)
		if !same(rows[i+1:], want[i+1:]) {
			t.Errorf("%s: a change of row %d changed those behind it to %v", name, i, rows[i+1:])
		}
		if i > 0 && slices.Max(rows[i-1]) != -1 {
			t.Errorf("%s: row %d became %v", name, i-1, rows[i-1])
		}
	}
	for i := len(other) - 1; i >= 0; i-- {
		if !same(other[:i+1], want[:i+1]) {
			t.Errorf("%s: another result became %v, want %v", name, other, want)
		}
		clear(other[i])
		_ = append(other[i], -1, -1, -1)
	}
	if again, err := ask(); err != nil || !same(again, want) {
		t.Errorf("%s returns %v, %v afterwards, want %v", name, again, err, want)
	}
}

func TestResultsAreOwn(t *testing.T) {
	for n := 1; n <= api.MaxNodes; n++ {
		wantOwn(t, "One", func() ([][]int, error) { return One(n) })
		for _, a := range [][][]int{identity(n), made(n, 5, 9), filled(n, n, 16), filled(n, n, 0)} {
			before := clone(a)
			wantOwn(t, "Mul", func() ([][]int, error) { return Mul(a, a) })
			wantOwn(t, "Mul by One", func() ([][]int, error) { return Mul(a, identity(n)) })
			wantOwn(t, "Mul of One", func() ([][]int, error) { return Mul(identity(n), a) })
			wantOwn(t, "Star", func() ([][]int, error) { return Star(a) })
			if !same(a, before) {
				t.Errorf("a change of a result changed %v to %v", before, a)
			}
		}
	}
}

// TestMatricesAreNotKept: a change of a matrix afterwards changes no result.
func TestMatricesAreNotKept(t *testing.T) {
	for n := 1; n <= api.MaxNodes; n++ {
		a, b := made(n, 3, 9), identity(n)
		wantProduct, wantLeast := product(a, b), powers(a)
		ab, _ := Mul(a, b)
		ba, _ := Mul(b, a)
		star, _ := Star(a)
		for i := range a {
			for k := range a {
				a[i][k], b[i][k] = -1, -1
			}
		}
		if !same(ab, wantProduct) || !same(ba, wantProduct) || !same(star, wantLeast) {
			t.Errorf("the results became %v, %v and %v", ab, ba, star)
		}
	}
}
