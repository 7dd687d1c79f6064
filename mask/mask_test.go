package mask

import (
	"math"
	"strconv"
	"strings"
	"testing"

	"waywarden/api"
	"waywarden/plain"
)

// masks of all lengths, written out, each of which is checked both ways.
var masks = [33]uint32{
	0x00000000,
	0x80000000, 0xc0000000, 0xe0000000, 0xf0000000,
	0xf8000000, 0xfc000000, 0xfe000000, 0xff000000,
	0xff800000, 0xffc00000, 0xffe00000, 0xfff00000,
	0xfff80000, 0xfffc0000, 0xfffe0000, 0xffff0000,
	0xffff8000, 0xffffc000, 0xffffe000, 0xfffff000,
	0xfffff800, 0xfffffc00, 0xfffffe00, 0xffffff00,
	0xffffff80, 0xffffffc0, 0xffffffe0, 0xfffffff0,
	0xfffffff8, 0xfffffffc, 0xfffffffe, 0xffffffff,
}

func TestMask(t *testing.T) {
	for n, want := range masks {
		if got, err := Mask(n); got != want || err != nil {
			t.Errorf("Mask(%d) = %#x, %v, want %#x", n, got, err, want)
		}
	}
	if got, err := Mask(9); got != 4286578688 || err != nil {
		t.Errorf("Mask(9) = %d, %v, want 4286578688", got, err)
	}
}

// TestMaskBits compares with the bits as text, the first one on the left.
func TestMaskBits(t *testing.T) {
	for n := range 33 {
		text := strings.Repeat("1", n) + strings.Repeat("0", 32-n)
		want, err := strconv.ParseUint(text, 2, 32)
		if err != nil {
			t.Fatal(err)
		}
		if got, err := Mask(n); uint64(got) != want || err != nil {
			t.Errorf("Mask(%d) = %032b, %v, want %s", n, got, err, text)
		}
	}
}

func TestLen(t *testing.T) {
	for want, m := range masks {
		if got, err := Len(m); got != want || err != nil {
			t.Errorf("Len(%#x) = %d, %v, want %d", m, got, err, want)
		}
	}
}

func TestMaskRejectsLengths(t *testing.T) {
	for _, n := range []int{
		-1, -2, -8, -31, -32, -33, -64, -255, -256, math.MinInt32, -1 << 32, 32 - 1<<32, math.MinInt, math.MinInt + 1,
		33, 34, 40, 63, 64, 65, 96, 128, 255, 256, 257, 288,
		math.MaxInt32, 1 << 31, 1<<32 - 1, 1 << 32, 1<<32 + 9, 1<<32 + 32, 1 << 62, math.MaxInt,
	} {
		if got, err := Mask(n); got != 0 || plain.Told(err) != api.ErrRange {
			t.Errorf("Mask(%d) = %#x, %v, want 0, ErrRange", n, got, err)
		}
	}
}

// wantForm checks that m is no mask and that the error comes with 0.
func wantForm(t *testing.T, m uint32) {
	t.Helper()
	if got, err := Len(m); got != 0 || plain.Told(err) != api.ErrForm {
		t.Errorf("Len(%#x) = %d, %v, want 0, ErrForm", m, got, err)
	}
}

func TestLenRejectsNumbers(t *testing.T) {
	for _, m := range []uint32{
		1, 2, 3, 5, 9, 24, 32, 255, 0xff00, 0xffff, 0xff0000, 0xff00ff00, 0x00ffff00,
		0x40000000, 0x7ffffffe, 0x7fffffff, 0x80000001, 0xa0000000, 0xaaaaaaaa, 0x55555555,
		0xbfffffff, 0xfeffffff, 0xffff7fff, 0xffffff01, 0xffffff7f, 0xfffffffd,
	} {
		wantForm(t, m)
	}
}

// TestLenRejectsOtherBlocks: ones side by side are a mask only if they begin
// with the first bit, and zeros only if they end with the last one.
func TestLenRejectsOtherBlocks(t *testing.T) {
	for from := 1; from < 32; from++ {
		for to := from + 1; to <= 32; to++ {
			block := masks[to] &^ masks[from]
			wantForm(t, block)
			if to < 32 {
				wantForm(t, ^block)
			}
		}
	}
	for n := 1; n < 32; n++ {
		wantForm(t, ^masks[n])
	}
}

// wantLen checks Len for any number, by a search through the masks.
func wantLen(t *testing.T, m uint32) {
	t.Helper()
	for n, mask := range masks {
		if mask != m {
			continue
		}
		if got, err := Len(m); got != n || err != nil {
			t.Errorf("Len(%#x) = %d, %v, want %d", m, got, err, n)
		}
		return
	}
	wantForm(t, m)
}

// TestLenNearMasks changes one or two bits of each mask.
func TestLenNearMasks(t *testing.T) {
	for _, m := range masks {
		for i := range 32 {
			for j := range 32 {
				wantLen(t, m^(1<<i|1<<j))
			}
		}
	}
}

// TestLenApart goes through numbers from all of the range.
func TestLenApart(t *testing.T) {
	const step = 40503 // odd, so that the lowest bits vary as well
	for m := 0; m < 1<<32; m += step {
		wantLen(t, uint32(m))
	}
}
