package pref

import (
	"fmt"
	"math"
	"strings"
	"testing"

	"waywarden/api"
	"waywarden/plain"
)

// pairs of valid networks and their texts, each of which is checked both ways.
var pairs = []struct {
	n api.Net
	s string
}{
	{api.Net{}, "0.0.0.0/0"},
	{api.Net{Len: 1}, "0.0.0.0/1"},
	{api.Net{Len: 32}, "0.0.0.0/32"},
	{api.Net{Addr: 1, Len: 32}, "0.0.0.1/32"},
	{api.Net{Addr: 2, Len: 31}, "0.0.0.2/31"},
	{api.Net{Addr: 167772160, Len: 7}, "10.0.0.0/7"},
	{api.Net{Addr: 167772160, Len: 8}, "10.0.0.0/8"},
	{api.Net{Addr: 167772160, Len: 9}, "10.0.0.0/9"},
	{api.Net{Addr: 0x0a800000, Len: 9}, "10.128.0.0/9"},
	{api.Net{Addr: 0x0ac00000, Len: 10}, "10.192.0.0/10"},
	{api.Net{Addr: 1 << 31, Len: 1}, "128.0.0.0/1"},
	{api.Net{Addr: 0xac100000, Len: 12}, "172.16.0.0/12"},
	{api.Net{Addr: 0xc0a80a00, Len: 24}, "192.168.10.0/24"},
	{api.Net{Addr: 0xc0a80a14, Len: 30}, "192.168.10.20/30"},
	{api.Net{Addr: 0xfffffffe, Len: 31}, "255.255.255.254/31"},
	{api.Net{Addr: 0xffffffff, Len: 32}, "255.255.255.255/32"},
}

// badLengths are outside 0 to 32; some are valid in their low bits.
var badLengths = []int{
	-1, -2, -8, -31, -32, -33, -64, -224, -256, math.MinInt32, -1 << 32, 24 - 1<<32, math.MinInt, math.MinInt + 1,
	33, 34, 40, 63, 64, 65, 128, 255, 256, 264, 288,
	math.MaxInt32, 1 << 31, 1 << 32, 1<<32 + 8, 1<<32 + 32, 1 << 62, math.MaxInt,
}

// samples are addresses whose first bits make networks of all lengths.
var samples = []uint32{
	0, 1, 0x0a000000, 0x0a0000ff, 0x0a800001, 0x12345678, 0x55555555, 0x7fffffff,
	0x80000000, 0x80000001, 0xaaaaaaaa, 0xc0a80a14, 0xdeadbeef, 0xfffffffe, 0xffffffff,
}

// span returns the least and the greatest address of the network of length
// bits around a, found by arithmetic rather than by masks.
func span(a uint32, length int) (int, int) {
	size := 1 << (32 - length)
	low := int(a) / size * size
	return low, low + size - 1
}

// validNets returns the networks of all lengths around the samples.
func validNets() []api.Net {
	var nets []api.Net
	for _, a := range samples {
		for length := range 33 {
			low, _ := span(a, length)
			nets = append(nets, api.Net{Addr: uint32(low), Len: length})
		}
	}
	return nets
}

// someNets returns few enough networks for all pairs of them.
func someNets() []api.Net {
	var nets []api.Net
	for _, a := range []uint32{0, 1, 0x0a000000, 0x0a800001, 0x7fffffff, 0x80000000, 0xffffffff} {
		for _, length := range []int{0, 1, 2, 8, 9, 16, 30, 31, 32} {
			low, _ := span(a, length)
			nets = append(nets, api.Net{Addr: uint32(low), Len: length})
		}
	}
	return nets
}

// invalidNets returns networks that Check rejects, with what it says.
func invalidNets() map[api.Net]api.Errno {
	invalid := map[api.Net]api.Errno{}
	for _, length := range badLengths {
		invalid[api.Net{Len: length}] = api.ErrRange
		// ErrRange precedes ErrForm.
		invalid[api.Net{Addr: 1, Len: length}] = api.ErrRange
		invalid[api.Net{Addr: 0x0a000000, Len: length}] = api.ErrRange
		invalid[api.Net{Addr: 0xffffffff, Len: length}] = api.ErrRange
	}
	for length := range 32 {
		for bit := range 32 - length {
			invalid[api.Net{Addr: 1 << bit, Len: length}] = api.ErrForm
		}
		invalid[api.Net{Addr: 0xffffffff, Len: length}] = api.ErrForm
	}
	return invalid
}

func TestCheckAccepts(t *testing.T) {
	for _, p := range pairs {
		if err := Check(p.n); err != nil {
			t.Errorf("Check(%v) = %v, want nil", p.n, err)
		}
	}
	for _, n := range validNets() {
		if err := Check(n); err != nil {
			t.Errorf("Check(%v) = %v, want nil", n, err)
		}
	}
}

func TestCheckRejects(t *testing.T) {
	for n, want := range invalidNets() {
		if err := Check(n); plain.Told(err) != want {
			t.Errorf("Check(%v) = %v, want %v", n, err, want)
		}
	}
}

// TestCheckSamples decides by arithmetic which lengths fit an address.
func TestCheckSamples(t *testing.T) {
	for _, a := range samples {
		for length := range 33 {
			want := api.OK
			if low, _ := span(a, length); low != int(a) {
				want = api.ErrForm
			}
			if err := Check(api.Net{Addr: a, Len: length}); plain.Told(err) != want {
				t.Errorf("Check(%#x, %d) = %v, want %v", a, length, err, want)
			}
		}
	}
}

func TestText(t *testing.T) {
	for _, p := range pairs {
		if got := Text(p.n); got != p.s {
			t.Errorf("Text(%v) = %q, want %q", p.n, got, p.s)
		}
	}
}

// TestTextOfInvalid: Text has no errors; it writes any length as %d does.
func TestTextOfInvalid(t *testing.T) {
	for n := range invalidNets() {
		a := n.Addr
		want := fmt.Sprintf("%d.%d.%d.%d/%d", a>>24, a>>16&255, a>>8&255, a&255, n.Len)
		if got := Text(n); got != want {
			t.Errorf("Text(%v) = %q, want %q", n, got, want)
		}
	}
	least := api.Net{Addr: 1, Len: math.MinInt}
	if got := Text(least); got != "0.0.0.1/-9223372036854775808" {
		t.Errorf("Text(%v) = %q", least, got)
	}
}

func TestParse(t *testing.T) {
	for _, p := range pairs {
		if got, err := Parse(p.s); got != p.n || err != nil {
			t.Errorf("Parse(%q) = %v, %v, want %v", p.s, got, err, p.n)
		}
	}
}

func TestParseOfText(t *testing.T) {
	for _, n := range validNets() {
		s := Text(n)
		if got, err := Parse(s); got != n || err != nil {
			t.Errorf("Parse(%q) = %v, %v, want %v", s, got, err, n)
		}
	}
}

// wantForm checks that s is no network and that the error comes with none.
func wantForm(t *testing.T, s string) {
	t.Helper()
	if got, err := Parse(s); got != (api.Net{}) || plain.Told(err) != api.ErrForm {
		t.Errorf("Parse(%.60q) = %v, %v, want none, ErrForm", s, got, err)
	}
}

func TestParseRejectsTexts(t *testing.T) {
	for _, s := range []string{
		"", "/", "//", "0", "8", "/8", "0/0", "10/8", "10.0/8", "10.0.0/8", "10.0.0.0.0/8",
		"10.0.0.0", "10.0.0.0/", "10.0.0.0//8", "10.0.0.0/8/", "10.0.0.0/8/8", "/10.0.0.0/8", "8/10.0.0.0",
		"10.0.0.0/08", "10.0.0.0/008", "10.0.0.0/00", "0.0.0.0/00", "0.0.0.0/-0", "0.0.0.0/+0",
		"10.0.0.0/+8", "10.0.0.0/-8", "10.0.0.0/8.", "10.0.0.0/8.0", "10.0.0.0/0x8", "10.0.0.0/1_0",
		"10.0.0.0/8 ", "10.0.0.0/ 8", "10.0.0.0 /8", " 10.0.0.0/8", "10.0.0.0/8\n", "10.0.0.0/8\x00",
		"10.0.0.0\\8", "10.0.0.0:8", "10.0.0.0 8", "10.0.0.0/a", "10.0.0.0/8a", "10.0.0.0/\xff", "10.0.0.0/\uff18",
		"10.0.0.0/255.0.0.0", "010.0.0.0/8", "256.0.0.0/8", "-1.0.0.0/8", "a.0.0.0/8", "10..0.0/8", ".10.0.0.0/8",
		"0.0.0.0/33", "0.0.0.0/320", "0.0.0.0/-1", "0.0.0.0/64", "0.0.0.0/256", "0.0.0.0/4294967296",
		"0.0.0.0/4294967304", "0.0.0.0/18446744073709551616", "0.0.0.0/18446744073709551624",
		"0.0.0.0/9223372036854775807", "0.0.0.0/9223372036854775808", "0.0.0.0/-9223372036854775808",
		"10.0.0.1/9", "10.0.0.0/6", "0.0.0.1/31", "0.0.0.1/0", "128.0.0.0/0", "10.192.0.0/9", "255.255.255.255/31",
	} {
		wantForm(t, s)
	}
}

func TestParseRejectsTextsOfInvalid(t *testing.T) {
	for n := range invalidNets() {
		wantForm(t, Text(n))
	}
}

func TestParseRejectsLongTexts(t *testing.T) {
	for _, part := range []string{"0", "9", "/", ".", "10.0.0.0/8", "\x00"} {
		long := strings.Repeat(part, 1<<16)
		wantForm(t, long)
		wantForm(t, "10.0.0.0/"+long)
		wantForm(t, "10.0.0.0/8"+long)
		wantForm(t, long+"10.0.0.0/8")
	}
}

// TestParseNearTexts changes one byte of a text, to each of the others: what
// Parse accepts is what Text writes.
func TestParseNearTexts(t *testing.T) {
	accepted := 0
	for _, p := range pairs {
		for i := range len(p.s) {
			for b := range 256 {
				s := p.s[:i] + string([]byte{byte(b)}) + p.s[i+1:]
				n, err := Parse(s)
				if err != nil {
					wantForm(t, s)
					continue
				}
				accepted++
				if Check(n) != nil || Text(n) != s {
					t.Errorf("Parse(%q) = %v, which is %q", s, n, Text(n))
				}
			}
		}
	}
	if accepted < len(pairs) {
		t.Errorf("accepted %d texts", accepted)
	}
}

// TestHas compares with the least and the greatest address of a network.
func TestHas(t *testing.T) {
	for _, n := range validNets() {
		low, high := span(n.Addr, n.Len)
		addresses := append([]uint32{
			uint32(low), uint32(high), uint32((low + high) / 2), uint32(low - 1), uint32(high + 1),
		}, samples...)
		for _, a := range addresses {
			want := low <= int(a) && int(a) <= high
			if got := Has(n, a); got != want {
				t.Errorf("Has(%s, %#x) = %v, want %v", Text(n), a, got, want)
			}
		}
	}
}

func TestHasOrdinary(t *testing.T) {
	n := api.Net{Addr: 10 << 24, Len: 8}
	if !Has(n, 10<<24) || !Has(n, 10<<24|7) || !Has(n, 11<<24-1) {
		t.Error("10.0.0.0/8 lacks an address")
	}
	if Has(n, 11<<24) || Has(n, 10<<24-1) || Has(n, 0) {
		t.Error("10.0.0.0/8 has an address of another network")
	}
}

func TestHasOfInvalid(t *testing.T) {
	for n := range invalidNets() {
		for _, a := range append([]uint32{n.Addr, n.Addr + 1}, samples...) {
			if Has(n, a) {
				t.Errorf("Has(%v, %#x) = true, want false", n, a)
			}
		}
	}
}

// TestIn compares the least and the greatest addresses of all pairs.
func TestIn(t *testing.T) {
	nets := validNets()
	for _, a := range nets {
		for _, b := range nets {
			aLow, aHigh := span(a.Addr, a.Len)
			bLow, bHigh := span(b.Addr, b.Len)
			want := bLow <= aLow && aHigh <= bHigh
			if got := In(a, b); got != want {
				t.Errorf("In(%s, %s) = %v, want %v", Text(a), Text(b), got, want)
			}
		}
	}
}

func TestInOrdinary(t *testing.T) {
	all := api.Net{}
	ten := api.Net{Addr: 10 << 24, Len: 8}
	low := api.Net{Addr: 10 << 24, Len: 9}
	high := api.Net{Addr: 10<<24 | 1<<23, Len: 9}
	if !In(low, ten) || !In(high, ten) || !In(ten, ten) || !In(ten, all) || !In(all, all) {
		t.Error("In is false for a network of another one")
	}
	if In(ten, low) || In(low, high) || In(high, low) || In(all, ten) {
		t.Error("In is true for addresses outside")
	}
}

func TestInOfInvalid(t *testing.T) {
	nets := someNets()
	for n := range invalidNets() {
		if In(n, n) {
			t.Errorf("In(%v, %v) = true, want false", n, n)
		}
		for _, valid := range nets {
			if In(n, valid) {
				t.Errorf("In(%v, %v) = true, want false", n, valid)
			}
			if In(valid, n) {
				t.Errorf("In(%v, %v) = true, want false", valid, n)
			}
		}
	}
}

// TestLess goes through networks in their order, valid and invalid ones.
func TestLess(t *testing.T) {
	ordered := []api.Net{
		{Addr: 0, Len: math.MinInt}, {Addr: 0, Len: -1}, {Addr: 0, Len: 0}, {Addr: 0, Len: 1}, {Addr: 0, Len: 32},
		{Addr: 0, Len: 33}, {Addr: 0, Len: math.MaxInt},
		{Addr: 1, Len: math.MinInt}, {Addr: 1, Len: 0}, {Addr: 1, Len: 31}, {Addr: 1, Len: 32},
		{Addr: 10 << 24, Len: 7}, {Addr: 10 << 24, Len: 8}, {Addr: 10 << 24, Len: 9}, {Addr: 10 << 24, Len: 1 << 32},
		{Addr: 10<<24 | 1<<23, Len: 8}, {Addr: 10<<24 | 1<<23, Len: 9},
		{Addr: 1<<31 - 1, Len: 32}, {Addr: 1 << 31, Len: 1}, {Addr: 1<<31 + 1, Len: 0},
		{Addr: 1<<32 - 1, Len: -5}, {Addr: 1<<32 - 1, Len: 32}, {Addr: 1<<32 - 1, Len: math.MaxInt},
	}
	for i, a := range ordered {
		for j, b := range ordered {
			if got := Less(a, b); got != (i < j) {
				t.Errorf("Less(%v, %v) = %v, want %v", a, b, got, i < j)
			}
		}
	}
}

// TestUp checks length and contents: one bit less and all addresses of n.
func TestUp(t *testing.T) {
	for _, n := range validNets() {
		if n.Len == 0 {
			continue
		}
		low, _ := span(n.Addr, n.Len-1)
		want := api.Net{Addr: uint32(low), Len: n.Len - 1}
		if got, err := Up(n); got != want || err != nil {
			t.Errorf("Up(%s) = %s, %v, want %s", Text(n), Text(got), err, Text(want))
		}
	}
}

func TestUpOrdinary(t *testing.T) {
	for s, want := range map[string]string{
		"10.0.0.0/9":         "10.0.0.0/8",
		"10.128.0.0/9":       "10.0.0.0/8",
		"128.0.0.0/1":        "0.0.0.0/0",
		"0.0.0.0/1":          "0.0.0.0/0",
		"255.255.255.255/32": "255.255.255.254/31",
		"0.0.0.4/32":         "0.0.0.4/31",
	} {
		n, err := Parse(s)
		if err != nil {
			t.Fatal(s, err)
		}
		if got, err := Up(n); Text(got) != want || err != nil {
			t.Errorf("Up(%s) = %s, %v, want %s", s, Text(got), err, want)
		}
	}
}

// wantUp checks the error of Up and that it comes with no network.
func wantUp(t *testing.T, n api.Net, want api.Errno) {
	t.Helper()
	if got, err := Up(n); got != (api.Net{}) || plain.Told(err) != want {
		t.Errorf("Up(%v) = %v, %v, want none, %v", n, got, err, want)
	}
}

func TestUpRejects(t *testing.T) {
	for n, want := range invalidNets() {
		wantUp(t, n, want)
	}
	wantUp(t, api.Net{}, api.ErrNone)
	// The errors of Check precede ErrNone.
	wantUp(t, api.Net{Addr: 1, Len: 0}, api.ErrForm)
	wantUp(t, api.Net{Addr: 1 << 31, Len: 0}, api.ErrForm)
}

// TestHalves checks that the halves make up the addresses of n.
func TestHalves(t *testing.T) {
	for _, n := range validNets() {
		if n.Len == 32 {
			continue
		}
		nLow, nHigh := span(n.Addr, n.Len)
		low, high, err := Halves(n)
		if err != nil || low.Len != n.Len+1 || high.Len != n.Len+1 {
			t.Errorf("Halves(%s) = %v, %v, %v", Text(n), low, high, err)
		}
		if int(low.Addr) != nLow || int(high.Addr) != (nLow+nHigh+1)/2 {
			t.Errorf("Halves(%s) = %s, %s", Text(n), Text(low), Text(high))
		}
	}
}

func TestHalvesOrdinary(t *testing.T) {
	for s, want := range map[string]string{
		"0.0.0.0/0":          "0.0.0.0/1 128.0.0.0/1",
		"128.0.0.0/1":        "128.0.0.0/2 192.0.0.0/2",
		"10.0.0.0/8":         "10.0.0.0/9 10.128.0.0/9",
		"255.255.255.254/31": "255.255.255.254/32 255.255.255.255/32",
	} {
		n, err := Parse(s)
		if err != nil {
			t.Fatal(s, err)
		}
		low, high, err := Halves(n)
		if got := Text(low) + " " + Text(high); got != want || err != nil {
			t.Errorf("Halves(%s) = %s, %v, want %s", s, got, err, want)
		}
	}
}

// wantHalves checks the error of Halves and that it comes with no networks.
func wantHalves(t *testing.T, n api.Net, want api.Errno) {
	t.Helper()
	low, high, err := Halves(n)
	if low != (api.Net{}) || high != (api.Net{}) || plain.Told(err) != want {
		t.Errorf("Halves(%v) = %v, %v, %v, want none, %v", n, low, high, err, want)
	}
}

func TestHalvesRejects(t *testing.T) {
	for n, want := range invalidNets() {
		wantHalves(t, n, want)
	}
	for _, a := range samples {
		wantHalves(t, api.Net{Addr: a, Len: 32}, api.ErrNone)
	}
}

// commonBySearch tries all lengths, the greatest one first.
func commonBySearch(a, b api.Net) api.Net {
	aLow, aHigh := span(a.Addr, a.Len)
	bLow, bHigh := span(b.Addr, b.Len)
	for length := 32; length > 0; length-- {
		low, high := span(a.Addr, length)
		if low <= min(aLow, bLow) && max(aHigh, bHigh) <= high {
			return api.Net{Addr: uint32(low), Len: length}
		}
	}
	return api.Net{}
}

func TestCommon(t *testing.T) {
	nets := validNets()
	for _, a := range nets {
		for _, b := range nets {
			want := commonBySearch(a, b)
			if got, err := Common(a, b); got != want || err != nil {
				t.Errorf("Common(%s, %s) = %s, %v, want %s", Text(a), Text(b), Text(got), err, Text(want))
			}
		}
	}
}

func TestCommonOrdinary(t *testing.T) {
	for _, c := range []struct{ a, b, want string }{
		{"10.0.0.0/9", "10.128.0.0/9", "10.0.0.0/8"},
		{"10.0.0.0/24", "10.0.1.0/24", "10.0.0.0/23"},
		{"10.0.1.0/24", "10.0.2.0/24", "10.0.0.0/22"},
		{"10.0.0.0/8", "10.1.0.0/16", "10.0.0.0/8"},
		{"10.1.0.0/16", "10.0.0.0/8", "10.0.0.0/8"},
		{"10.0.0.0/8", "10.0.0.0/8", "10.0.0.0/8"},
		{"10.0.0.0/8", "10.0.0.0/9", "10.0.0.0/8"},
		{"0.0.0.0/1", "128.0.0.0/1", "0.0.0.0/0"},
		{"0.0.0.0/0", "255.255.255.255/32", "0.0.0.0/0"},
		{"1.2.3.4/32", "1.2.3.4/32", "1.2.3.4/32"},
		{"1.2.3.4/32", "1.2.3.5/32", "1.2.3.4/31"},
	} {
		a, errA := Parse(c.a)
		b, errB := Parse(c.b)
		if errA != nil || errB != nil {
			t.Fatal(c, errA, errB)
		}
		if got, err := Common(a, b); Text(got) != c.want || err != nil {
			t.Errorf("Common(%s, %s) = %s, %v, want %s", c.a, c.b, Text(got), err, c.want)
		}
	}
}

// wantCommon checks the error of Common and that it comes with no network.
func wantCommon(t *testing.T, a, b api.Net, want api.Errno) {
	t.Helper()
	if got, err := Common(a, b); got != (api.Net{}) || plain.Told(err) != want {
		t.Errorf("Common(%v, %v) = %v, %v, want none, %v", a, b, got, err, want)
	}
}

func TestCommonRejects(t *testing.T) {
	nets := someNets()
	for n, want := range invalidNets() {
		wantCommon(t, n, n, want)
		for _, valid := range nets {
			wantCommon(t, n, valid, want)
			wantCommon(t, valid, n, want)
		}
	}
}

// TestCommonErrorOrder: the error of a precedes that of b, whichever it is.
func TestCommonErrorOrder(t *testing.T) {
	length := api.Net{Addr: 10 << 24, Len: 33}
	bit := api.Net{Addr: 10<<24 | 1, Len: 8}
	wantCommon(t, length, bit, api.ErrRange)
	wantCommon(t, bit, length, api.ErrForm)
}

// TestUpOfHalves: Up and Common undo Halves, and each half is in n.
func TestUpOfHalves(t *testing.T) {
	for _, n := range validNets() {
		low, high, err := Halves(n)
		if err != nil {
			continue
		}
		upLow, errLow := Up(low)
		upHigh, errHigh := Up(high)
		common, errCommon := Common(low, high)
		if errLow != nil || errHigh != nil || errCommon != nil {
			t.Errorf("%s: %v, %v, %v", Text(n), errLow, errHigh, errCommon)
		}
		if upLow != n || upHigh != n || common != n || !In(low, n) || !In(high, n) || !Less(low, high) {
			t.Errorf("%s has the halves %s and %s", Text(n), Text(low), Text(high))
		}
	}
}
