package dist

import (
	"math"
	"testing"

	"waywarden/api"
	"waywarden/plain"
)

// others are numbers that are no distances; some of them are distances in
// their low bits, or have a distance as their sum.
var others = []int{
	math.MinInt, math.MinInt + 1, math.MinInt + 16, -1 << 62, -1 << 32, -1<<32 + 9, math.MinInt32,
	-65536, -256, -255, -247, -128, -32, -17, -16, -15, -9, -2, -1,
	17, 18, 31, 32, 33, 127, 128, 255, 256, 257, 265, 272, 65536, 65545,
	math.MaxInt32, 1 << 31, 1<<32 - 1, 1 << 32, 1<<32 + 9, 1<<32 + 16, 1 << 62, math.MaxInt - 16, math.MaxInt - 1, math.MaxInt,
}

// wantAdd expects this sum, without an error.
func wantAdd(t *testing.T, a, b, want int) {
	t.Helper()
	if got, err := Add(a, b); got != want || err != nil {
		t.Errorf("Add(%d, %d) = %d, %v, want %d", a, b, got, err, want)
	}
}

// wantLess expects this distance as the smaller one, without an error.
func wantLess(t *testing.T, a, b, want int) {
	t.Helper()
	if got, err := Less(a, b); got != want || err != nil {
		t.Errorf("Less(%d, %d) = %d, %v, want %d", a, b, got, err, want)
	}
}

// wantRange expects ErrRange and 0 of Add and of Less.
func wantRange(t *testing.T, a, b int) {
	t.Helper()
	if got, err := Add(a, b); got != 0 || plain.Told(err) != api.ErrRange {
		t.Errorf("Add(%d, %d) = %d, %v, want 0, ErrRange", a, b, got, err)
	}
	if got, err := Less(a, b); got != 0 || plain.Told(err) != api.ErrRange {
		t.Errorf("Less(%d, %d) = %d, %v, want 0, ErrRange", a, b, got, err)
	}
}

func TestExample(t *testing.T) {
	wantAdd(t, 9, 9, 16)
}

func TestCheck(t *testing.T) {
	for _, c := range []struct {
		d    int
		want api.Errno
	}{
		{-1, api.ErrRange},
		{0, api.OK},
		{15, api.OK},
		{16, api.OK},
		{17, api.ErrRange},
		{math.MinInt, api.ErrRange},
		{math.MaxInt, api.ErrRange},
	} {
		if err := Check(c.d); plain.Told(err) != c.want {
			t.Errorf("Check(%d) = %v, want %v", c.d, err, c.want)
		}
	}
}

// TestCheckOfDistances: of a distance the error is nil, not OK.
func TestCheckOfDistances(t *testing.T) {
	for d := range 17 {
		if err := Check(d); err != nil {
			t.Errorf("Check(%d) = %v, want nil", d, err)
		}
	}
}

func TestCheckOfOthers(t *testing.T) {
	for _, d := range others {
		if err := Check(d); plain.Told(err) != api.ErrRange {
			t.Errorf("Check(%d) = %v, want ErrRange", d, err)
		}
	}
	for d := 17; d < 1<<17; d++ {
		if Check(d) == nil || Check(16-d) == nil {
			t.Fatalf("Check(%d) = %v, Check(%d) = %v, want ErrRange", d, Check(d), 16-d, Check(16-d))
		}
	}
}

// TestAllDistances counts step by step: the sum goes up by one with b until it
// is 16, and the smaller one goes up by one with b until it is a.
func TestAllDistances(t *testing.T) {
	for a := range 17 {
		sum, less := a, 0
		for b := range 17 {
			wantAdd(t, a, b, sum)
			wantLess(t, a, b, less)
			if sum != 16 {
				sum++
			}
			if less != a {
				less++
			}
		}
	}
}

// TestSumsAboutInfinity: sums just below 16, at 16 and beyond it.
func TestSumsAboutInfinity(t *testing.T) {
	for _, c := range []struct{ a, b, want int }{
		{0, 15, 15}, {15, 0, 15}, {7, 8, 15}, {8, 7, 15}, {1, 14, 15}, {14, 1, 15},
		{0, 16, 16}, {16, 0, 16}, {8, 8, 16}, {1, 15, 16}, {15, 1, 16}, {7, 9, 16},
		{1, 16, 16}, {16, 1, 16}, {8, 9, 16}, {9, 8, 16}, {2, 15, 16}, {15, 2, 16},
		{15, 15, 16}, {15, 16, 16}, {16, 15, 16}, {16, 16, 16},
	} {
		wantAdd(t, c.a, c.b, c.want)
	}
}

func TestLess(t *testing.T) {
	for _, c := range []struct{ a, b, want int }{
		{9, 3, 3}, {3, 9, 3}, {5, 5, 5}, {0, 0, 0}, {0, 16, 0}, {16, 0, 0},
		{15, 16, 15}, {16, 15, 15}, {16, 16, 16},
	} {
		wantLess(t, c.a, c.b, c.want)
	}
}

// TestOthersOnOneSide: the error is told also where 16 or 0 on the other side
// would decide the result.
func TestOthersOnOneSide(t *testing.T) {
	for _, o := range others {
		for d := range 17 {
			wantRange(t, o, d)
			wantRange(t, d, o)
		}
	}
}

// TestOthersOnBothSides: the sums of some of these overflow, or are distances.
func TestOthersOnBothSides(t *testing.T) {
	for _, a := range others {
		for _, b := range others {
			wantRange(t, a, b)
		}
	}
	wantRange(t, -1, 17)
	wantRange(t, 17, -1)
	wantRange(t, math.MaxInt, math.MaxInt)
	wantRange(t, math.MinInt, math.MinInt)
	wantRange(t, math.MinInt, math.MaxInt)
}

// TestFirstError: the error of Add and Less is that of Check, unchanged, for a
// if it is no distance, and else for b.
func TestFirstError(t *testing.T) {
	numbers := append([]int{0, 1, 9, 15, 16}, others...)
	for _, a := range numbers {
		for _, b := range numbers {
			want := Check(a)
			if want == nil {
				want = Check(b)
			}
			_, addErr := Add(a, b)
			_, lessErr := Less(a, b)
			told := plain.Told(want)
			if plain.Told(addErr) != told || plain.Told(lessErr) != told {
				t.Errorf("%d and %d: Add returns %v, Less %v, want %v", a, b, addErr, lessErr, want)
			}
		}
	}
}
