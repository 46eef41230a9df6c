package take_test

import (
	"encoding/binary"
	"hash/adler32"
	"math/rand"
	"slices"
	"strings"
	"testing"

	"deadwax/api"
	"deadwax/take"
)

// wantedFile follows the definition of the chapter, for takes whose numbers have room in two bytes.
func wantedFile(t api.Take) []byte {
	b := append([]byte{84, 75, byte(len(t.Name))}, t.Name...)
	b = binary.BigEndian.AppendUint16(b, uint16(len(t.Data)))
	for _, s := range t.Data {
		b = binary.BigEndian.AppendUint16(b, uint16(s.L+32768))
		b = binary.BigEndian.AppendUint16(b, uint16(s.R+32768))
	}
	return summed(b)
}

// summed appends the checksum.
func summed(b []byte) []byte {
	return binary.BigEndian.AppendUint32(slices.Clone(b), adler32.Checksum(b))
}

// goodTakes are at the limits, and within them.
func goodTakes() []api.Take {
	r := rand.New(rand.NewSource(3))
	l := []api.Take{
		{Name: "c", Data: []api.Sample{{R: 1}}},
		{Name: strings.Repeat("z", api.MaxName), Data: []api.Sample{{L: api.MaxSample, R: -api.MaxSample}, {L: -api.MaxSample, R: api.MaxSample}}},
		{Name: "0az9", Data: someSamples(r, 300, api.MaxSample)},
		loudTake("loud", api.MaxLong),
		{Name: "low", Data: slices.Repeat([]api.Sample{{L: -api.MaxSample, R: -api.MaxSample}}, api.MaxLong)},
		{Name: "some", Data: someSamples(r, api.MaxLong, api.MaxSample)},
		{Name: "many255", Data: someSamples(r, 255, 9)},
		{Name: "many256", Data: someSamples(r, 256, 9)},
	}
	return append(l, exampleTakes()...)
}

// P1.11, P1.19
func TestPackAndUnpack(t *testing.T) {
	example := []byte{84, 75, 1, 99, 0, 1, 128, 0, 128, 1, 11, 184, 2, 6}
	if b, e := take.Pack(goodTakes()[0]); e != api.OK || !slices.Equal(b, example) {
		t.Errorf("the example: %v %d", b, e)
	}
	for _, x := range goodTakes() {
		b, e := take.Pack(x)
		if e != api.OK || !slices.Equal(b, wantedFile(x)) {
			t.Errorf("Pack of %s: %d bytes, %d", x.Name, len(b), e)
		}
		y, e := take.Unpack(wantedFile(x))
		if e != api.OK || !sameTake(x, y) {
			t.Errorf("Unpack of %s: %s with %d samples, %d", x.Name, y.Name, len(y.Data), e)
		}
	}
}

// P1.11
func TestPackErrors(t *testing.T) {
	one := []api.Sample{{L: 1}}
	for _, c := range []struct {
		name string
		x    api.Take
		want api.Errno
	}{
		{"the zero value", api.Take{}, api.ErrArg},
		{"no name", api.Take{Data: one}, api.ErrArg},
		{"a name of 21", api.Take{Name: strings.Repeat("a", api.MaxName+1), Data: one}, api.ErrArg},
		{"a name of 256", api.Take{Name: strings.Repeat("a", 256), Data: one}, api.ErrArg},
		{"a capital", api.Take{Name: "aB", Data: one}, api.ErrArg},
		{"no samples", api.Take{Name: "a"}, api.ErrArg},
		{"4,097 samples", loudTake("a", api.MaxLong+1), api.ErrMany},
		{"4,097 samples and no name", loudTake("", api.MaxLong+1), api.ErrMany},
		{"4,097 samples that are not valid", api.Take{Name: "a", Data: slices.Repeat([]api.Sample{{R: 1 << 15}}, api.MaxLong+1)}, api.ErrMany},
		{"65,537 samples", loudTake("a", 1<<16+1), api.ErrMany},
	} {
		if b, e := take.Pack(c.x); e != c.want || len(b) != 0 {
			t.Errorf("%s: %v %d, not %d", c.name, b, e, c.want)
		}
	}
	for _, s := range invalidSamples() {
		if b, e := take.Pack(api.Take{Name: "a", Data: []api.Sample{{}, s}}); e != api.ErrArg || len(b) != 0 {
			t.Errorf("the sample %v: %v %d", s, b, e)
		}
	}
}

// noTake fails the test if Unpack reads a file.
func noTake(t *testing.T, name string, b []byte, want api.Errno) {
	t.Helper()
	kept := slices.Clone(b)
	x, e := take.Unpack(b)
	if e != want || x.Name != "" || len(x.Data) != 0 {
		t.Errorf("%s: %v %d, not %d", name, x, e, want)
	}
	if !slices.Equal(b, kept) {
		t.Errorf("%s: the bytes were changed", name)
	}
}

// P1.11, P1.19: what is wrong here has the right checksum.
func TestUnpackOfOtherBytes(t *testing.T) {
	good := []byte{84, 75, 1, 99, 0, 1, 128, 0, 128, 1}
	with := func(at int, x byte) []byte {
		b := slices.Clone(good)
		b[at] = x
		return summed(b)
	}
	for _, c := range []struct {
		name string
		b    []byte
	}{
		{"nothing", nil},
		{"an empty list", []byte{}},
		{"a checksum only", summed(nil)},
		{"a mark only", summed([]byte{84, 75})},
		{"no name and no samples", summed([]byte{84, 75, 0, 0, 0})},
		{"another first byte", with(0, 85)},
		{"another second byte", with(1, 74)},
		{"a name of 0", with(2, 0)},
		{"a name of 2", with(2, 2)},
		{"a name of 255", with(2, 255)},
		{"a capital", with(3, 'C')},
		{"a space", with(3, ' ')},
		{"a high byte", with(3, 0xe9)},
		{"no samples", with(5, 0)},
		{"two samples", with(5, 2)},
		{"257 samples", with(4, 1)},
		{"65,281 samples", with(4, 255)},
		{"-32,768 on the left", with(6, 0)},
		{"-32,768 on the right", summed([]byte{84, 75, 1, 99, 0, 1, 128, 0, 0, 0})},
		{"no name, and one sample", summed([]byte{84, 75, 0, 0, 1, 128, 0, 128, 1})},
		{"a name, and no samples", summed([]byte{84, 75, 1, 99, 0, 0})},
		{"half a sample more", summed(append(slices.Clone(good), 128, 0))},
		{"a sample more", summed(append(slices.Clone(good), 128, 0, 128, 0))},
		{"a byte more", summed(append(slices.Clone(good), 0))},
		{"a byte after the checksum", append(summed(good), 0)},
		{"a byte before", summed(append([]byte{0}, good...))},
		{"no checksum", good},
		{"the checksum of another order", append(slices.Clone(good), 2, 6, 11, 184)},
		{"the checksum 0", append(slices.Clone(good), 0, 0, 0, 0)},
		{"a checksum that begins with 0", binary.BigEndian.AppendUint32(slices.Clone(good), 1)},
		{"twice the file", append(summed(good), summed(good)...)},
	} {
		noTake(t, c.name, c.b, api.ErrForm)
	}
	noTake(t, "a name of 21", wantedFile(api.Take{Name: strings.Repeat("a", api.MaxName+1), Data: []api.Sample{{}}}), api.ErrForm)
	noTake(t, "4,097 samples", wantedFile(loudTake("a", api.MaxLong+1)), api.ErrForm)
}

// P1.11
func TestUnpackLong(t *testing.T) {
	noTake(t, "65,536 bytes", make([]byte, api.MaxText), api.ErrForm)
	noTake(t, "65,537 bytes", make([]byte, api.MaxText+1), api.ErrLong)
	longest := wantedFile(loudTake("a", (api.MaxText-10)/4))
	noTake(t, "16,381 samples", longest, api.ErrForm)
	noTake(t, "16,382 samples", wantedFile(loudTake("a", (api.MaxText-10)/4+1)), api.ErrLong)
	noTake(t, "a file and zeros", append(wantedFile(goodTakes()[0]), make([]byte, api.MaxText)...), api.ErrLong)
}

// P1.19
func TestUnpackOfAChangedFile(t *testing.T) {
	for _, x := range []api.Take{goodTakes()[0], goodTakes()[1], exampleTakes()[0]} {
		b := wantedFile(x)
		for at := range b {
			for change := 1; change < 256; change++ {
				c := slices.Clone(b)
				c[at] ^= byte(change)
				if y, e := take.Unpack(c); e != api.ErrForm || y.Name != "" || len(y.Data) != 0 {
					t.Errorf("the byte %d of %s changed to %d: %v %d", at, x.Name, c[at], y, e)
				}
			}
		}
		for n := range b {
			noTake(t, "the beginning", b[:n:n], api.ErrForm)
			noTake(t, "the end", b[n+1:], api.ErrForm)
		}
	}
}

// P1.19: whatever bytes Unpack reads, Pack has written.
func TestUnpackReadsJustWhatPackWrites(t *testing.T) {
	r := rand.New(rand.NewSource(4))
	read := 0
	for range 30000 {
		b := []byte{84, 75, byte(r.Intn(4)), byte('a' - 1 + r.Intn(3)), byte('a' - 1 + r.Intn(3))}
		for range r.Intn(12) {
			b = append(b, byte(r.Intn(3)))
		}
		b = summed(b)
		x, e := take.Unpack(b)
		if e != api.OK && e != api.ErrForm {
			t.Fatalf("%v: %d", b, e)
		}
		if e != api.OK {
			continue
		}
		read++
		if again, e := take.Pack(x); e != api.OK || !slices.Equal(again, b) {
			t.Fatalf("%v is read, but written as %v", b, again)
		}
	}
	if read == 0 {
		t.Error("no file was read")
	}
}

// R5
func TestFilesOwnMemory(t *testing.T) {
	x := exampleTakes()[0]
	b, _ := take.Pack(x)
	y, e := take.Unpack(b)
	clear(b)
	if e != api.OK || !sameTake(x, y) {
		t.Errorf("the take shares the memory of its file: %v %d", y, e)
	}
	if again, e := take.Pack(x); e != api.OK || !slices.Equal(again, wantedFile(x)) {
		t.Errorf("the file was changed: %v %d", again, e)
	}
}

// P1.11, P1.19
func TestTextAndParse(t *testing.T) {
	l := append(exampleTakes(), loudTake("long0123456789012345", api.MaxLong))
	for _, c := range []struct {
		name string
		p    []api.Part
		want string
	}{
		{"no parts", nil, ""},
		{"the example", exampleParts(), "part a 0 4 2 0 0 1000\npart b 0 2 -1 0 0 1000\n"},
		{"all numbers differ", []api.Part{{From: 1, To: 3, Gap: 4, In: 5, Out: 6, Level: 7}}, "part a 1 3 4 5 6 7\n"},
		{"zeros", []api.Part{{To: 1}}, "part a 0 1 0 0 0 0\n"},
		{"the limits", []api.Part{{Take: 2, To: api.MaxLong, In: 1000, Out: 1000, Level: 4000}, {Take: 2, To: api.MaxLong, Gap: -api.MaxLong}},
			"part long0123456789012345 0 4096 0 1000 1000 4000\npart long0123456789012345 0 4096 -4096 0 0 0\n"},
		{"32 parts", repeated(api.Part{To: 4, Level: 10}, api.MaxParts), strings.Repeat("part a 0 4 0 0 0 10\n", api.MaxParts)},
	} {
		if s, e := take.Text(l, c.p); e != api.OK || s != c.want {
			t.Errorf("Text of %s: %q %d", c.name, s, e)
		}
		if p, e := take.Parse(l, c.want); e != api.OK || !slices.Equal(p, c.p) {
			t.Errorf("Parse of %s: %v %d", c.name, p, e)
		}
	}
	eachProgramme(t, 100, func(_ *rand.Rand, l []api.Take, p []api.Part) {
		s, e := take.Text(l, p)
		if e != api.OK {
			t.Errorf("Text: %d", e)
		}
		if q, e := take.Parse(l, s); e != api.OK || !slices.Equal(p, q) {
			t.Errorf("Parse of %q: %v %d", s, q, e)
		}
	})
}

// P1.11, P1.19
func TestParseOfOtherTexts(t *testing.T) {
	l := append(exampleTakes(), api.Take{Name: "1", Data: []api.Sample{{L: 1}}})
	line := "part a 0 4 2 0 0 1000\n"
	bad := []string{
		"\n", " ", " \n", line + "\n", "\n" + line, line[:len(line)-1], line + line[:5], line + "x", line + " ",
		"part a 0 4 2 0 0 1000\r\n", "part a 0 4 2 0 0 1000 \n", " part a 0 4 2 0 0 1000\n", "part  a 0 4 2 0 0 1000\n",
		"part a 0 4  2 0 0 1000\n", "part\ta 0 4 2 0 0 1000\n", "part a 0\t4 2 0 0 1000\n",
		"Part a 0 4 2 0 0 1000\n", "parts a 0 4 2 0 0 1000\n", "a 0 4 2 0 0 1000\n", "par a 0 4 2 0 0 1000\n", " a 0 4 2 0 0 1000\n",
		"part A 0 4 2 0 0 1000\n", "part c 0 4 2 0 0 1000\n", "part  0 4 2 0 0 1000\n", "part 0 0 4 2 0 0 1000\n", "part aa 0 4 2 0 0 1000\n",
		"part a 0 4 2 0 0\n", "part a 0 4 2 0 0 1000 0\n", "part a 0 4 2 0 0 \n", "part a\n", "part\n", "part a 0 4 2 0 0 1000\npart",
		"part a 0 4 2 0 0 1000\x00\n", "part a 0 4 2 0 0 1000\v\n", "part a 0 4 2 0 0 1000part a 0 4 2 0 0 1000\n",
		line + "part b 0 3 0 0 0 1000\n", line + "part b 0 2 -3 0 0 1000\n", line + "part b 0 2 4096 0 0 1000\n",
		strings.Repeat("part a 0 4 0 0 0 10\n", api.MaxParts+1), "part a 0 4 -1 0 0 1000\n",
	}
	words := []string{"0", "4", "2", "0", "0", "1000"}
	for i := range words {
		for _, w := range []string{"", "-", "+", "x", "-1", "-0", "00", "01", "+1", "1.0", "1e0", "0x1", "1_0", "--1", "1-", "9999", "٣", "0b1", "0o1", "１",
			"4097", "-4097", "99999999999999999999", "-99999999999999999999", "9223372036854775808", "18446744073709551616", "18446744073709551617", "4294967296", "4294967297"} {
			if i == 2 && w == "-1" {
				w = "-2" // a gap may be below 0, but not that of the first part
			}
			changed := slices.Clone(words)
			changed[i] = w
			bad = append(bad, "part a "+strings.Join(changed, " ")+"\n")
			changed[i] = "0" + words[i]
			bad = append(bad, "part a "+strings.Join(changed, " ")+"\n")
			changed[i] = "+" + words[i]
			bad = append(bad, "part a "+strings.Join(changed, " ")+"\n")
		}
	}
	for _, s := range bad {
		if p, e := take.Parse(l, s); e != api.ErrForm || len(p) != 0 {
			t.Errorf("%q: %v %d", s, p, e)
		}
	}
	// A gap of -0 in a place where 0 would be possible.
	if p, e := take.Parse(l, line+"part b 0 2 -0 0 0 1000\n"); e != api.ErrForm || len(p) != 0 {
		t.Errorf("-0: %v %d", p, e)
	}
	if p, e := take.Parse(l, line+"part b 0 2 -01 0 0 1000\n"); e != api.ErrForm || len(p) != 0 {
		t.Errorf("-01: %v %d", p, e)
	}
}

// P1.11
func TestParseLong(t *testing.T) {
	l := exampleTakes()
	for n, want := range map[int]api.Errno{api.MaxText: api.ErrForm, api.MaxText + 1: api.ErrLong, 1 << 20: api.ErrLong} {
		for _, c := range []string{"\n", "x", " ", "part a 0 4 0 0 0 10\n"} {
			s := strings.Repeat(c, n)[:n]
			if p, e := take.Parse(l, s); e != want || len(p) != 0 {
				t.Errorf("%d bytes: %v %d, not %d", n, p, e, want)
			}
		}
	}
}

// P1.19: whatever text Parse reads, Text has written.
func TestParseReadsJustWhatTextWrites(t *testing.T) {
	r := rand.New(rand.NewSource(5))
	l := exampleTakes()
	read := 0
	for range 60000 {
		s := []byte("part a 0 4 2 0 0 1000\npart b 0 2 -1 0 0 1000\n")
		for range 1 + r.Intn(3) {
			at := r.Intn(len(s))
			switch r.Intn(3) {
			case 0:
				s[at] = "part ab\n-+0123456789"[r.Intn(20)]
			case 1:
				s = slices.Delete(s, at, at+1)
			default:
				s = slices.Insert(s, at, "ab \n-01249"[r.Intn(10)])
			}
		}
		p, e := take.Parse(l, string(s))
		if e != api.OK && (e != api.ErrForm || len(p) != 0) {
			t.Fatalf("%q: %v %d", s, p, e)
		}
		if e != api.OK {
			continue
		}
		read++
		if again, e := take.Text(l, p); e != api.OK || again != string(s) {
			t.Fatalf("%q is read, but written as %q", s, again)
		}
	}
	if read < 100 {
		t.Errorf("only %d texts were read", read)
	}
}
