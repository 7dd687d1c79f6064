package wire

import (
	"bytes"
	"encoding/binary"
	"math"
	"math/rand"
	"slices"
	"testing"

	"waywarden/api"
	"waywarden/plain"
)

var numbers = []uint32{0, 1, 255, 256, 0x01020304, 0x0a000000, 0x7fffffff, 0x80000000, 0xfffefdfc, math.MaxUint32}

// bitsOf returns the mask of a length, without mask.
func bitsOf(length int) uint32 {
	return uint32(uint64(math.MaxUint32) << (32 - length))
}

// entry returns a valid entry whose network contains a.
func entry(a uint32, length, tag int, hop uint32, metric int) api.Entry {
	return api.Entry{Net: api.Net{Addr: a & bitsOf(length), Len: length}, Tag: tag, Hop: hop, Metric: metric}
}

// entries returns count valid entries, all different.
func entries(count int) []api.Entry {
	var l []api.Entry
	for i := range count {
		l = append(l, entry(0xc0a80101+uint32(i)*0x01030507, (7+i*5)%33, i*2621%65536, uint32(i)*0x0a141e28, 1+i%16))
	}
	return l
}

// entryBytes writes the entry as the document says, without Encode.
func entryBytes(e api.Entry) []byte {
	var b []byte
	b = binary.BigEndian.AppendUint16(b, 2)
	b = binary.BigEndian.AppendUint16(b, uint16(e.Tag))
	b = binary.BigEndian.AppendUint32(b, e.Net.Addr)
	b = binary.BigEndian.AppendUint32(b, bitsOf(e.Net.Len))
	b = binary.BigEndian.AppendUint32(b, e.Hop)
	return binary.BigEndian.AppendUint32(b, uint32(e.Metric))
}

// messageBytes writes the message as the document says, without Encode.
func messageBytes(m api.Message) []byte {
	b := []byte{2, 2, 0, 0}
	if m.Ask {
		b[0] = 1
	}
	for _, e := range m.Entries {
		b = append(b, entryBytes(e)...)
	}
	return b
}

// find searches the entries for one whose bytes begin with part. Tag, address
// and hop are those of part, with bytes 0 where it ends, which no length
// forbids; all lengths and metrics are tried.
func find(part []byte) (api.Entry, bool) {
	var b [20]byte
	copy(b[:], part)
	e := api.Entry{Tag: int(binary.BigEndian.Uint16(b[2:])), Hop: binary.BigEndian.Uint32(b[12:])}
	for e.Net.Len = 0; e.Net.Len <= 32; e.Net.Len++ {
		e.Net.Addr = binary.BigEndian.Uint32(b[4:])
		if e.Net.Addr&bitsOf(e.Net.Len) != e.Net.Addr {
			continue
		}
		for e.Metric = 1; e.Metric <= 16; e.Metric++ {
			if bytes.HasPrefix(entryBytes(e), part) {
				return e, true
			}
		}
	}
	return api.Entry{}, false
}

// search returns what Decode must return, by searching for every entry.
func search(b []byte) (api.Message, api.Errno) {
	m := api.Message{Ask: len(b) > 0 && b[0] == 1}
	start := b[:min(len(b), 4)]
	if !bytes.HasPrefix([]byte{1, 2, 0, 0}, start) && !bytes.HasPrefix([]byte{2, 2, 0, 0}, start) {
		return api.Message{}, api.ErrForm
	}
	if len(b) < 4 {
		return api.Message{}, api.ErrShort
	}
	short := false
	for part := range slices.Chunk(b[4:], 20) {
		e, ok := find(part)
		if !ok || len(m.Entries) == 25 {
			return api.Message{}, api.ErrForm
		}
		m.Entries = append(m.Entries, e)
		short = len(part) < 20
	}
	if short {
		return api.Message{}, api.ErrShort
	}
	return m, api.OK
}

func equal(a, b api.Message) bool {
	return a.Ask == b.Ask && slices.Equal(a.Entries, b.Entries)
}

// wantDecode expects this error, and without one this message.
func wantDecode(t *testing.T, b []byte, want api.Message, wrong api.Errno) {
	t.Helper()
	if m, err := Decode(b); !equal(m, want) || plain.Told(err) != wrong {
		t.Fatalf("Decode(%v) = %v, %v, want %v, %v", b, m, err, want, wrong)
	}
}

// wantSearch compares Decode with the search.
func wantSearch(t *testing.T, b []byte) {
	t.Helper()
	want, wrong := search(b)
	wantDecode(t, b, want, wrong)
}

// wantBoth expects Check and Encode to accept m, these bytes of Encode, and m
// of Decode.
func wantBoth(t *testing.T, m api.Message, want []byte) {
	t.Helper()
	if err := Check(m); err != nil {
		t.Fatalf("Check(%v) = %v", m, err)
	}
	if b, err := Encode(m); !bytes.Equal(b, want) || err != nil {
		t.Fatalf("Encode(%v) = %v, %v, want %v", m, b, err, want)
	}
	wantDecode(t, want, m, api.OK)
}

// wantWrong expects an error of Check and Encode.
func wantWrong(t *testing.T, m api.Message, want api.Errno) {
	t.Helper()
	if err := Check(m); plain.Told(err) != want {
		t.Errorf("Check(%v) = %v, want %v", m, err, want)
	}
	if b, err := Encode(m); len(b) != 0 || plain.Told(err) != want {
		t.Errorf("Encode(%v) = %v, %v, want %v", m, b, err, want)
	}
}

func TestExamples(t *testing.T) {
	first := api.Entry{Net: api.Net{Addr: 10 << 24, Len: 8}, Tag: 258, Hop: 1, Metric: 3}
	second := api.Entry{Net: api.Net{Addr: 0x01020380, Len: 25}, Tag: 65535, Hop: 0x090a0b0c, Metric: 16}
	firstBytes := []byte{0, 2, 1, 2, 10, 0, 0, 0, 255, 0, 0, 0, 0, 0, 0, 1, 0, 0, 0, 3}
	secondBytes := []byte{0, 2, 255, 255, 1, 2, 3, 128, 255, 255, 255, 128, 9, 10, 11, 12, 0, 0, 0, 16}
	tell, ask := []byte{2, 2, 0, 0}, []byte{1, 2, 0, 0}

	wantBoth(t, api.Message{}, tell)
	wantBoth(t, api.Message{Entries: []api.Entry{}}, tell)
	wantBoth(t, api.Message{Ask: true}, ask)
	wantBoth(t, api.Message{Entries: []api.Entry{first}}, slices.Concat(tell, firstBytes))
	wantBoth(t, api.Message{Ask: true, Entries: []api.Entry{first}}, slices.Concat(ask, firstBytes))
	wantBoth(t, api.Message{Entries: []api.Entry{first, second}}, slices.Concat(tell, firstBytes, secondBytes))
	wantBoth(t, api.Message{Ask: true, Entries: []api.Entry{second, first}}, slices.Concat(ask, secondBytes, firstBytes))
	wantBoth(t, api.Message{Entries: []api.Entry{first, first}}, slices.Concat(tell, firstBytes, firstBytes))
}

func TestEntriesThereAndBack(t *testing.T) {
	want := func(e api.Entry) {
		t.Helper()
		for _, ask := range []bool{false, true} {
			m := api.Message{Ask: ask, Entries: []api.Entry{e}}
			wantBoth(t, m, messageBytes(m))
		}
	}
	for length := range 33 {
		for _, a := range numbers {
			want(entry(a, length, 300, 70000, 5))
		}
	}
	for tag := range 65536 {
		want(entry(0x0a000000, 9, tag, 70000, 5))
	}
	for _, hop := range numbers {
		want(entry(0x0a000000, 9, 300, hop, 5))
	}
	for metric := 1; metric <= 16; metric++ {
		want(entry(0x0a000000, 9, 300, 70000, metric))
	}
}

func TestMessagesThereAndBack(t *testing.T) {
	for count := range 26 {
		for _, ask := range []bool{false, true} {
			m := api.Message{Ask: ask, Entries: entries(count)}
			wantBoth(t, m, messageBytes(m))
		}
	}
}

func TestCheckRanges(t *testing.T) {
	good := entry(0x0a000000, 8, 1, 1, 1)
	change := func(f func(e *api.Entry)) api.Message {
		e := good
		f(&e)
		return api.Message{Entries: []api.Entry{e}}
	}
	far := []int{math.MinInt, math.MinInt32, -1<<32 + 1, -65536, -1, 1<<16 + 1, 1<<32 + 1, math.MaxInt}
	for _, v := range append(far, 65536) {
		wantWrong(t, change(func(e *api.Entry) { e.Tag = v }), api.ErrRange)
	}
	for _, v := range append(far, 0, 17, 257) {
		wantWrong(t, change(func(e *api.Entry) { e.Metric = v }), api.ErrRange)
	}
	for _, v := range append(far, 33) {
		wantWrong(t, change(func(e *api.Entry) { e.Net.Len = v }), api.ErrRange)
	}
	for length := range 32 {
		wantWrong(t, change(func(e *api.Entry) { e.Net = api.Net{Addr: 1, Len: length} }), api.ErrForm)
		wantWrong(t, change(func(e *api.Entry) { e.Net = api.Net{Addr: 1 << (31 - length), Len: length} }), api.ErrForm)
	}
}

func TestCheckOrder(t *testing.T) {
	good := entry(0x0a000000, 8, 1, 1, 1)
	length, form, tag, metric, formAndTag, formAndMetric := good, good, good, good, good, good
	length.Net.Len = 33
	form.Net.Addr++
	tag.Tag = -1
	metric.Metric = 17
	formAndTag.Net.Addr++
	formAndTag.Tag = 65536
	formAndMetric.Net.Addr++
	formAndMetric.Metric = 0

	for _, c := range []struct {
		want api.Errno
		list []api.Entry
	}{
		{api.ErrForm, []api.Entry{formAndTag}},
		{api.ErrForm, []api.Entry{formAndMetric}},
		{api.ErrForm, []api.Entry{good, form}},
		{api.ErrRange, []api.Entry{good, good, metric}},
		{api.ErrRange, []api.Entry{length, form}},
		{api.ErrRange, []api.Entry{tag, form}},
		{api.ErrRange, []api.Entry{metric, form}},
		{api.ErrForm, []api.Entry{form, length}},
		{api.ErrForm, []api.Entry{form, tag}},
		{api.ErrForm, []api.Entry{form, metric}},
	} {
		for _, ask := range []bool{false, true} {
			wantWrong(t, api.Message{Ask: ask, Entries: c.list}, c.want)
		}
	}
	for at := range 25 {
		l := entries(25)
		l[at].Net = form.Net
		wantWrong(t, api.Message{Entries: l}, api.ErrForm)
	}
}

func TestCheckFull(t *testing.T) {
	for _, count := range []int{26, 27, 50, 256, 281, 65561} {
		wantWrong(t, api.Message{Entries: entries(count)}, api.ErrFull)
		wantWrong(t, api.Message{Ask: true, Entries: entries(count)}, api.ErrFull)
	}
	// There being too many precedes whatever is wrong with any of them.
	for _, bad := range []api.Entry{{}, {Net: api.Net{Len: 33}, Metric: 1}, {Net: api.Net{Addr: 1}, Metric: 1}} {
		for _, at := range []int{0, 24, 25} {
			l := slices.Repeat([]api.Entry{entry(0, 0, 0, 0, 1)}, 26)
			l[at] = bad
			wantWrong(t, api.Message{Ask: true, Entries: l}, api.ErrFull)
		}
	}
}

func TestCutOff(t *testing.T) {
	for _, ask := range []bool{false, true} {
		m := api.Message{Ask: ask, Entries: entries(25)}
		b := messageBytes(m)
		for size := range b {
			if size >= 4 && size%20 == 4 {
				wantDecode(t, b[:size], api.Message{Ask: ask, Entries: m.Entries[:size/20]}, api.OK)
			} else {
				wantDecode(t, b[:size], api.Message{}, api.ErrShort)
			}
		}
	}
	wantDecode(t, nil, api.Message{}, api.ErrShort)
	wantDecode(t, []byte{}, api.Message{}, api.ErrShort)
}

// Entries of all masks, with addresses that only the longest ones allow, are
// cut off at every place.
func TestCutOffMasks(t *testing.T) {
	for length := range 33 {
		for _, a := range append(numbers, bitsOf(length), bitsOf(length)/2+1<<31) {
			b := append([]byte{2, 2, 0, 0}, entryBytes(api.Entry{Net: api.Net{Addr: a, Len: length}, Metric: 1})...)
			for size := range len(b) + 1 {
				wantSearch(t, b[:size])
			}
		}
	}
}

func TestDecodeParts(t *testing.T) {
	start := []byte{2, 2, 0, 0}
	for _, c := range []struct {
		want api.Errno
		part []byte
	}{
		{api.ErrShort, []byte{0}},
		{api.ErrForm, []byte{1}},
		{api.ErrForm, []byte{2}},
		{api.ErrShort, []byte{0, 2}},
		{api.ErrForm, []byte{0, 0}},
		{api.ErrForm, []byte{0, 1}},
		{api.ErrForm, []byte{0, 3}},
		{api.ErrForm, []byte{1, 2}},
		{api.ErrShort, []byte{0, 2, 255, 255, 255, 255, 255, 255}},
		{api.ErrShort, []byte{0, 2, 0, 0, 10, 0, 0, 1, 255}},
		{api.ErrShort, []byte{0, 2, 0, 0, 10, 0, 0, 1, 255, 255, 255}},
		{api.ErrShort, []byte{0, 2, 0, 0, 10, 0, 0, 1, 255, 255, 255, 255}},
		{api.ErrForm, []byte{0, 2, 0, 0, 10, 0, 0, 1, 254}},
		{api.ErrForm, []byte{0, 2, 0, 0, 10, 0, 0, 1, 0}},
		{api.ErrForm, []byte{0, 2, 0, 0, 10, 0, 0, 1, 255, 255, 254}},
		{api.ErrForm, []byte{0, 2, 0, 0, 10, 0, 0, 1, 255, 255, 255, 254}},
		{api.ErrShort, []byte{0, 2, 0, 0, 10, 0, 0, 0, 254}},
		{api.ErrShort, []byte{0, 2, 0, 0, 10, 0, 0, 0, 254, 0}},
		{api.ErrForm, []byte{0, 2, 0, 0, 10, 0, 0, 0, 254, 128}},
		{api.ErrForm, []byte{0, 2, 0, 0, 10, 0, 0, 0, 253}},
		{api.ErrForm, []byte{0, 2, 0, 0, 10, 0, 0, 0, 127}},
		{api.ErrForm, []byte{0, 2, 0, 0, 10, 0, 0, 0, 0}},
		{api.ErrShort, []byte{0, 2, 0, 0, 0, 0, 0, 0, 0}},
		{api.ErrForm, []byte{0, 2, 0, 0, 0, 0, 0, 0, 0, 0, 0, 1}},
		{api.ErrShort, []byte{0, 2, 0, 0, 0, 0, 0, 0, 0, 0, 0, 0, 255, 255, 255, 255}},
		{api.ErrShort, []byte{0, 2, 0, 0, 0, 0, 0, 0, 0, 0, 0, 0, 0, 0, 0, 0, 0}},
		{api.ErrForm, []byte{0, 2, 0, 0, 0, 0, 0, 0, 0, 0, 0, 0, 0, 0, 0, 0, 1}},
		{api.ErrForm, []byte{0, 2, 0, 0, 0, 0, 0, 0, 0, 0, 0, 0, 0, 0, 0, 0, 0, 0, 1}},
		{api.ErrShort, []byte{0, 2, 0, 0, 0, 0, 0, 0, 0, 0, 0, 0, 0, 0, 0, 0, 0, 0, 0}},
		{api.ErrForm, []byte{0, 2, 0, 0, 0, 0, 0, 0, 0, 0, 0, 0, 0, 0, 0, 0, 0, 0, 0, 0}},
		{api.ErrForm, []byte{0, 2, 0, 0, 0, 0, 0, 0, 0, 0, 0, 0, 0, 0, 0, 0, 0, 0, 0, 17}},
		{api.ErrForm, []byte{0, 2, 0, 0, 0, 0, 0, 0, 0, 0, 0, 0, 0, 0, 0, 0, 0, 0, 1, 1}},
		{api.ErrForm, []byte{0, 2, 0, 0, 0, 0, 0, 0, 0, 0, 0, 0, 0, 0, 0, 0, 128, 0, 0, 1}},
	} {
		wantDecode(t, slices.Concat(start, c.part), api.Message{}, c.want)
		before := entryBytes(entry(0x0a000000, 8, 1, 1, 1))
		wantDecode(t, slices.Concat(start, before, c.part), api.Message{}, c.want)
		full := messageBytes(api.Message{Entries: entries(24)})
		wantDecode(t, slices.Concat(full, c.part), api.Message{}, c.want)
	}
}

// All heads of up to two bytes, and those that differ from a head in one byte.
func TestDecodeHeads(t *testing.T) {
	for x := range 256 {
		wantSearch(t, []byte{byte(x)})
		for y := range 256 {
			wantSearch(t, []byte{byte(x), byte(y)})
			wantSearch(t, []byte{byte(x), byte(y), 0, 0})
			wantSearch(t, []byte{1, 2, byte(x), byte(y)})
			wantSearch(t, []byte{2, 2, byte(x), byte(y)})
		}
		wantSearch(t, []byte{1, 2, byte(x)})
		wantSearch(t, []byte{2, 2, byte(x)})
		wantSearch(t, append([]byte{byte(x), 2, 0, 0}, entryBytes(entry(0, 0, 0, 0, 1))...))
	}
}

// Each byte of a message of two entries gets all values, and the bytes behind
// it are cut off at every place of its entry.
func TestDecodeOneByteChanged(t *testing.T) {
	good := messageBytes(api.Message{Entries: []api.Entry{entry(0xac101f00, 20, 258, 7, 3), entry(0x0a0b0c0d, 32, 1, 1<<24, 16)}})
	for at := range good {
		for x := range 256 {
			b := slices.Clone(good)
			b[at] = byte(x)
			wantSearch(t, b)
			for size := at + 1; size <= min(at+4, len(b)); size++ {
				wantSearch(t, b[:size])
			}
		}
	}
}

// What is wrong at the front stays wrong, whatever follows and wherever it
// ends.
func TestDecodeWrongInFront(t *testing.T) {
	m := api.Message{Entries: entries(25)}
	for _, at := range []int{0, 1, 2, 3, 4, 5, 20, 21, 22, 24, 25, 4 + 20*23 + 1} {
		b := messageBytes(m)
		b[at] ^= 0x40
		for size := at + 1; size <= len(b); size++ {
			wantSearch(t, b[:size])
		}
	}
}

func TestDecodeMixed(t *testing.T) {
	source := rand.New(rand.NewSource(6))
	special := []byte{0, 1, 2, 3, 16, 17, 127, 128, 192, 252, 254, 255}
	for range 20000 {
		m := api.Message{Ask: source.Intn(2) == 0, Entries: entries(25)[source.Intn(23):]}
		m.Entries = m.Entries[:source.Intn(3)]
		b := messageBytes(m)
		for range source.Intn(3) {
			b[source.Intn(len(b))] = special[source.Intn(len(special))]
		}
		wantSearch(t, b[:source.Intn(len(b)+1)])
	}
}

func TestDecodeFull(t *testing.T) {
	full := messageBytes(api.Message{Entries: entries(25)})
	more := entryBytes(entry(0, 0, 0, 0, 1))
	wantDecode(t, full, api.Message{Entries: entries(25)}, api.OK)
	for size := 1; size <= len(more); size++ {
		wantDecode(t, slices.Concat(full, more[:size]), api.Message{}, api.ErrForm)
	}
	wantDecode(t, slices.Concat(full, more, more[:7]), api.Message{}, api.ErrForm)
	wantDecode(t, slices.Concat(full, []byte{1}), api.Message{}, api.ErrForm)
	if m, err := Decode(make([]byte, 1<<24)); !equal(m, api.Message{}) || plain.Told(err) != api.ErrForm {
		t.Errorf("Decode of 2^24 bytes 0 = %v, %v", m, err)
	}
	if m, err := Decode(slices.Concat(full[:4], bytes.Repeat(more, 1<<16))); !equal(m, api.Message{}) || plain.Told(err) != api.ErrForm {
		t.Errorf("Decode of 2^16 entries = %v, %v", m, err)
	}
}

// The memory behind the length of an argument stays as it was, too.
func TestArgumentsUnchanged(t *testing.T) {
	all := entries(30)
	for _, count := range []int{0, 1, 25, 26} {
		m := api.Message{Entries: all[:count]}
		Check(m)
		Encode(m)
		if len(m.Entries) != count || !slices.Equal(all, entries(30)) {
			t.Fatalf("the %d entries have changed", count)
		}
	}
	b := messageBytes(api.Message{Entries: all[:27]})
	good := slices.Clone(b)
	for size := range len(b) + 1 {
		Decode(b[:size])
		if !bytes.Equal(b, good) {
			t.Fatalf("Decode of %d bytes has changed them, or those behind them", size)
		}
	}
}

func TestResultsAreNew(t *testing.T) {
	m := api.Message{Ask: true, Entries: entries(3)}
	first, _ := Encode(m)
	second, _ := Encode(m)
	clear(first[:cap(first)])
	m.Entries[0] = api.Entry{}
	if !bytes.Equal(second, messageBytes(api.Message{Ask: true, Entries: entries(3)})) {
		t.Errorf("a result of Encode has changed: %v", second)
	}

	before, _ := Decode(second)
	after, _ := Decode(second)
	clear(before.Entries[:cap(before.Entries)])
	clear(second)
	if !slices.Equal(after.Entries, entries(3)) {
		t.Errorf("a result of Decode has changed: %v", after)
	}

	empty, _ := Encode(api.Message{})
	empty[0] = 77
	if again, _ := Encode(api.Message{}); !bytes.Equal(again, []byte{2, 2, 0, 0}) {
		t.Errorf("the result of Encode depends on an earlier one: %v", again)
	}
}
