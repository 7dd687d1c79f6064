package sum

import (
	"bytes"
	"math/big"
	"math/rand"
	"slices"
	"testing"
)

// add adds two numbers as the document says, carry by carry.
func add(a, b uint16) uint16 {
	c := int(a) + int(b)
	for c >= 65536 {
		c = c/65536 + c%65536
	}
	return uint16(c)
}

// slow returns the sum number by number.
func slow(b []byte) uint16 {
	var s uint16
	for pair := range slices.Chunk(b, 2) {
		n := uint16(pair[0]) * 256
		if len(pair) == 2 {
			n += uint16(pair[1])
		}
		s = add(s, n)
	}
	return 65535 - s
}

// modulo returns the sum by division: a folded sum is the remainder of the
// number that all bytes make, where 65535 stands for the remainder 0 of any
// number but 0.
func modulo(b []byte) uint16 {
	full := slices.Clone(b)
	if len(full)%2 == 1 {
		full = append(full, 0)
	}
	n := new(big.Int).SetBytes(full)
	if n.Sign() == 0 {
		return 65535
	}
	rest := n.Mod(n, big.NewInt(65535)).Int64()
	if rest == 0 {
		rest = 65535
	}
	return uint16(65535 - rest)
}

// repeat returns the bytes count times.
func repeat(count int, b ...byte) []byte {
	return bytes.Repeat(b, count)
}

// wantSum expects this sum, and Right to tell whether it is 0.
func wantSum(t *testing.T, b []byte, want uint16) {
	t.Helper()
	if s := Sum(b); s != want {
		t.Errorf("Sum of %d bytes %v = %d, want %d", len(b), b[:min(len(b), 20)], s, want)
	}
	if r := Right(b); r != (want == 0) {
		t.Errorf("Right of %d bytes %v = %v with the sum %d", len(b), b[:min(len(b), 20)], r, want)
	}
}

// wantSame compares Sum with both other ways to find it.
func wantSame(t *testing.T, b []byte) {
	t.Helper()
	wantSum(t, b, slow(b))
	wantSum(t, b, modulo(b))
}

func TestExamples(t *testing.T) {
	wantSum(t, []byte{0, 1, 242, 3}, 3579)
	wantSum(t, []byte{0, 1, 242, 3, 13, 251}, 0)
	if s := Swap(3579, 1, 2); s != 3578 {
		t.Errorf("Swap(3579, 1, 2) = %d, want 3578", s)
	}
	wantSum(t, []byte{0, 2, 242, 3}, 3578)
}

func TestSum(t *testing.T) {
	tests := []struct {
		b    []byte
		want uint16
	}{
		{nil, 65535},
		{[]byte{}, 65535},
		{[]byte{0}, 65535},
		{[]byte{1}, 0xfeff},
		{[]byte{255}, 0x00ff},
		{[]byte{1, 2}, 0xfefd},
		{[]byte{0, 1}, 0xfffe},
		{[]byte{255, 255}, 0},
		{[]byte{255, 254}, 1},
		{[]byte{1, 2, 3}, 0xfbfd},
		{[]byte{0, 0, 0}, 65535},
		{[]byte{255, 255, 255}, 0x00ff},
		{[]byte{0, 1, 2, 3, 4, 5}, 0xf9f6},
		{[]byte{255, 254, 0, 1}, 0},

		// The sum exceeds 16 bits once.
		{[]byte{128, 0, 128, 0}, 0xfffe},
		{[]byte{255, 255, 0, 1}, 0xfffe},
		{[]byte{255, 255, 255, 255}, 0},
		{[]byte{255, 255, 255, 255, 255}, 0x00ff},
		{[]byte{255, 254, 0, 2}, 0xfffe},

		// And again after it was folded.
		{[]byte{255, 255, 255, 255, 0, 1}, 0xfffe},
		{[]byte{128, 0, 128, 0, 255, 255}, 0xfffe},
		{[]byte{255, 255, 255, 255, 255, 255, 0, 1}, 0xfffe},
		{[]byte{255, 255, 255, 255, 255, 255, 0, 2}, 0xfffd},
		{[]byte{255, 255, 255, 255, 255, 255, 0, 2, 255, 255}, 0xfffd},
	}
	for _, test := range tests {
		wantSum(t, test.b, test.want)
		wantSame(t, test.b)
	}
}

func TestShort(t *testing.T) {
	some := []byte{0, 1, 127, 128, 254, 255}
	for _, a := range some {
		wantSame(t, []byte{a})
		for _, b := range some {
			wantSame(t, []byte{a, b})
			for _, c := range some {
				wantSame(t, []byte{a, b, c})
				for _, d := range some {
					wantSame(t, []byte{a, b, c, d})
					wantSame(t, []byte{a, b, c, d, a})
					wantSame(t, []byte{a, b, c, d, 255, 255, d})
				}
			}
		}
	}
}

func TestAllAlike(t *testing.T) {
	for _, count := range []int{1, 2, 3, 4, 5, 99, 100, 65535, 65536, 131070, 131072, 131073} {
		wantSum(t, repeat(count, 0), 65535)
		wantSame(t, repeat(count, 1))
		wantSame(t, repeat(count, 255))
	}
	wantSum(t, repeat(100, 255), 0)
	wantSum(t, repeat(101, 255), 0x00ff)
}

func TestLong(t *testing.T) {
	// Together these exceed 32 bits.
	long := repeat(1<<19, 255, 255, 254, 253)
	wantSum(t, long, slow(long))
	wantSum(t, long[:len(long)-1], slow(long[:len(long)-1]))

	random := rand.New(rand.NewSource(1))
	for _, size := range []int{10, 11, 1000, 1001, 20000, 20001} {
		for range 20 {
			b := make([]byte, size)
			random.Read(b)
			wantSame(t, b)
		}
	}
}

func TestRight(t *testing.T) {
	random := rand.New(rand.NewSource(2))
	for range 200 {
		b := make([]byte, 2*random.Intn(50))
		random.Read(b)
		s := Sum(b)
		right := append(slices.Clone(b), byte(s>>8), byte(s))
		wantSum(t, right, 0)
		for bit := range 16 {
			other := s ^ 1<<bit
			wrong := append(slices.Clone(b), byte(other>>8), byte(other))
			if Right(wrong) {
				t.Errorf("Right(%v) with %d behind the bytes instead of %d", wrong, other, s)
			}
		}
		// The order of the numbers does not matter to the sum.
		wantSum(t, append([]byte{byte(s >> 8), byte(s)}, b...), 0)
	}
	if Right(nil) || Right([]byte{0, 0, 0}) || Right([]byte{255}) || !Right([]byte{255, 255}) {
		t.Error("Right of no bytes, of bytes 0, of one byte, or of bytes 255")
	}
}

// put returns a copy of b whose number at this place is n.
func put(b []byte, at int, n uint16) []byte {
	c := slices.Clone(b)
	c[at] = byte(n >> 8)
	if at+1 < len(c) {
		c[at+1] = byte(n)
	}
	return c
}

var numbers = []uint16{0, 1, 2, 255, 256, 0x1234, 0x7fff, 0x8000, 0xfffe, 65535}

func TestSwap(t *testing.T) {
	for _, s := range numbers {
		for _, old := range numbers {
			for _, new16 := range numbers {
				want := 65535 - add(add(65535-s, 65535-old), new16)
				if got := Swap(s, old, new16); got != want {
					t.Errorf("Swap(%d, %d, %d) = %d, want %d", s, old, new16, got, want)
				}
			}
		}
	}
	random := rand.New(rand.NewSource(3))
	for range 100000 {
		s, old, new16 := uint16(random.Uint32()), uint16(random.Uint32()), uint16(random.Uint32())
		want := 65535 - add(add(65535-s, 65535-old), new16)
		if got := Swap(s, old, new16); got != want {
			t.Fatalf("Swap(%d, %d, %d) = %d, want %d", s, old, new16, got, want)
		}
	}
}

func TestSwapOfBytes(t *testing.T) {
	for _, size := range []int{2, 4, 10, 1000} {
		for _, fill := range []byte{0, 1, 77, 254, 255} {
			for _, at := range []int{0, (size / 4) * 2 % size, size - 2} {
				wantSwap(t, repeat(size, fill), at)
			}
		}
	}
}

// wantSwap changes the number at this place to and from every number, and
// expects Swap to tell the new sum.
func wantSwap(t *testing.T, b []byte, at int) {
	t.Helper()
	for _, old := range numbers {
		before := put(b, at, old)
		for _, new16 := range numbers {
			after := put(b, at, new16)
			if slices.Max(after) == 0 {
				continue
			}
			if got, want := Swap(Sum(before), old, new16), Sum(after); got != want {
				t.Errorf("%d bytes %d, Swap from %d to %d at %d = %d, want %d", len(b), b[0], old, new16, at, got, want)
			}
		}
	}
}

// Where all bytes are 0 then, Swap follows its own rule, not that of Sum.
func TestSwapToZero(t *testing.T) {
	for _, old := range numbers[1:] {
		if got := Swap(^old, old, 0); got != 0 {
			t.Errorf("Swap(%d, %d, 0) = %d, want 0", ^old, old, got)
		}
	}
	if got := Swap(65535, 0, 0); got != 0 {
		t.Errorf("Swap(65535, 0, 0) = %d, want 0", got)
	}
	if got := Swap(65535, 65535, 0); got != 65535 {
		t.Errorf("Swap(65535, 65535, 0) = %d, want 65535", got)
	}
}

func TestOddEnd(t *testing.T) {
	b := []byte{9, 8, 7}
	after := []byte{9, 8, 200}
	if got := Swap(Sum(b), 7<<8, 200<<8); got != Sum(after) {
		t.Errorf("Swap of the last byte = %d, want %d", got, Sum(after))
	}
}

func TestArgumentsStay(t *testing.T) {
	for length := range 8 {
		memory := []byte{1, 2, 3, 4, 5, 6, 7, 8}
		kept := slices.Clone(memory)
		first := Sum(memory[:length])
		Right(memory[:length])
		if !bytes.Equal(memory, kept) {
			t.Errorf("%d bytes: the memory is %v, was %v", length, memory, kept)
		}
		memory[7] = 99
		if again := Sum(memory[:length]); again != first {
			t.Errorf("%d bytes: a byte behind them changes the sum from %d to %d", length, first, again)
		}
	}
}
