package addr

import (
	"fmt"
	"strings"
	"testing"

	"waywarden/api"
	"waywarden/plain"
)

// pairs of addresses and their texts, each of which is checked both ways.
var pairs = []struct {
	a uint32
	s string
}{
	{0, "0.0.0.0"},
	{1, "0.0.0.1"},
	{9, "0.0.0.9"},
	{10, "0.0.0.10"},
	{99, "0.0.0.99"},
	{100, "0.0.0.100"},
	{255, "0.0.0.255"},
	{256, "0.0.1.0"},
	{65535, "0.0.255.255"},
	{65536, "0.1.0.0"},
	{1<<24 - 1, "0.255.255.255"},
	{1 << 24, "1.0.0.0"},
	{0x01020304, "1.2.3.4"},
	{167837441, "10.0.255.1"},
	{0x7f000001, "127.0.0.1"},
	{1<<31 - 1, "127.255.255.255"},
	{1 << 31, "128.0.0.0"},
	{0xc0a80a14, "192.168.10.20"},
	{1<<32 - 2, "255.255.255.254"},
	{1<<32 - 1, "255.255.255.255"},
}

func TestText(t *testing.T) {
	for _, p := range pairs {
		if got := Text(p.a); got != p.s {
			t.Errorf("Text(%d) = %q, want %q", p.a, got, p.s)
		}
	}
}

func TestParse(t *testing.T) {
	for _, p := range pairs {
		if got, err := Parse(p.s); got != p.a || err != nil {
			t.Errorf("Parse(%q) = %d, %v, want %d", p.s, got, err, p.a)
		}
	}
}

// wantForm checks that s is no address and that the error comes with 0.
func wantForm(t *testing.T, s string) {
	t.Helper()
	if got, err := Parse(s); got != 0 || plain.Told(err) != api.ErrForm {
		t.Errorf("Parse(%.40q) = %d, %v, want 0, ErrForm", s, got, err)
	}
}

func TestParseRejectsWrongNumberOfParts(t *testing.T) {
	for _, s := range []string{
		"", ".", "..", "...", "....", "1", "1.2", "1.2.3", "1.2.3.", ".1.2.3",
		"1.2.3.4.", ".1.2.3.4", "1.2.3.4.5", "1..2.3", "1.2..3.4", "167837441",
	} {
		wantForm(t, s)
	}
}

func TestParseRejectsNumbersInEachPart(t *testing.T) {
	bad := []string{
		"", "00", "000", "01", "001", "010", "09", "0255", "0000000001",
		"256", "257", "260", "300", "999", "1000", "2550",
		"65536", "4294967296", "4294967297", "18446744073709551616", "18446744073709551617",
		"+1", "-1", "-0", " 1", "1 ", "1\n", "\t1", "1\x00", "\x001",
		"a", "ff", "0x1", "0b1", "0o1", "1e1", "1_0", "1,", "/", ":", "2/", "2:",
		"1/8", "\xff", "\x80", "\u0661", "\uff11", "\u00b2",
	}
	for _, b := range bad {
		for i := range 4 {
			parts := []string{"1", "2", "3", "4"}
			parts[i] = b
			wantForm(t, strings.Join(parts, "."))
		}
	}
}

func TestParseRejectsOtherSeparators(t *testing.T) {
	for _, s := range []string{
		"1,2,3,4", "1:2:3:4", "1 2 3 4", "1. 2.3.4", "1.2.3 .4", "1.2.3,4",
		" 1.2.3.4", "1.2.3.4 ", "1.2.3.4\n", "1.2.3.4\x00", "1\u30022.3.4", "1.2.3.4/32",
	} {
		wantForm(t, s)
	}
}

func TestParseRejectsLongTexts(t *testing.T) {
	for _, s := range []string{".", "0", "1", "1.", "1.2.3.4", "\x00"} {
		wantForm(t, strings.Repeat(s, 1_000_000))
	}
	wantForm(t, strings.Repeat("0", 1_000_000)+".0.0.1")
	wantForm(t, "1.0.0."+strings.Repeat("0", 1_000_000)+"1")
}

// TestEveryByteInEachPlace compares with fmt, which the package doesn't use.
func TestEveryByteInEachPlace(t *testing.T) {
	for place := range 4 {
		for b := range 256 {
			bytes := [4]int{17, 0, 255, 108}
			bytes[place] = b
			a := uint32(bytes[0]<<24 | bytes[1]<<16 | bytes[2]<<8 | bytes[3])
			want := fmt.Sprintf("%d.%d.%d.%d", bytes[0], bytes[1], bytes[2], bytes[3])
			if got := Text(a); got != want {
				t.Errorf("Text(%d) = %q, want %q", a, got, want)
			}
			if got, err := Parse(want); got != a || err != nil {
				t.Errorf("Parse(%q) = %d, %v, want %d", want, got, err, a)
			}
		}
	}
}

// TestEveryShortNumber tries every number with up to four digits, and with
// leading zeros, as one part of a text.
func TestEveryShortNumber(t *testing.T) {
	for width := 1; width <= 4; width++ {
		for n := range 10000 {
			part := fmt.Sprintf("%0*d", width, n)
			s := "1.2." + part + ".4"
			if part != fmt.Sprint(n) || n > 255 {
				wantForm(t, s)
				continue
			}
			want := uint32(0x01020004 + n<<8)
			if got, err := Parse(s); got != want || err != nil {
				t.Errorf("Parse(%q) = %d, %v, want %d", s, got, err, want)
			}
		}
	}
}

// TestAddressesApart goes through addresses from all of the range.
func TestAddressesApart(t *testing.T) {
	const step = 40503 // odd, so that the lowest bytes vary as well
	for a := 0; a < 1<<32; a += step {
		s := Text(uint32(a))
		if got, err := Parse(s); got != uint32(a) || err != nil {
			t.Fatalf("Parse(Text(%d)) = %d, %v", a, got, err)
		}
	}
}

// TestParseOnlyTexts: of all changes of one byte in a text, and of all texts
// with one byte more or less, Parse accepts only those that Text writes.
func TestParseOnlyTexts(t *testing.T) {
	check := func(s string) {
		a, err := Parse(s)
		if err == nil && Text(a) != s {
			t.Errorf("Parse(%q) = %d, whose Text is %q", s, a, Text(a))
		}
		if err != nil && (a != 0 || plain.Told(err) != api.ErrForm) {
			t.Errorf("Parse(%q) = %d, %v, want 0, ErrForm", s, a, err)
		}
	}
	for _, p := range pairs {
		for i := range len(p.s) + 1 {
			for b := range 256 {
				c := string([]byte{byte(b)})
				check(p.s[:i] + c + p.s[i:])
				if i < len(p.s) {
					check(p.s[:i] + c + p.s[i+1:])
				}
			}
			if i < len(p.s) {
				check(p.s[:i] + p.s[i+1:])
			}
		}
	}
}
