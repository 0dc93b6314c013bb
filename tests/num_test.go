package tests

import (
	"bytes"
	"hash/crc32"
	"math"
	"strconv"
	"strings"
	"testing"

	"loop.example/g00487/impl"
)

// Numbers beside every place where one more byte is needed, and their bytes.
var wireNumbers = []struct {
	n     int
	bytes string
}{
	{0, "\x00"},
	{1, "\x01"},
	{127, "\x7f"},
	{128, "\x80\x01"},
	{300, "\xac\x02"},
	{16383, "\xff\x7f"},
	{16384, "\x80\x80\x01"},
	{2097151, "\xff\xff\x7f"},
	{2097152, "\x80\x80\x80\x01"},
	{268435455, "\xff\xff\xff\x7f"},
	{268435456, "\x80\x80\x80\x80\x01"},
	{2147483646, "\xfe\xff\xff\xff\x07"},
	{2147483647, "\xff\xff\xff\xff\x07"},
}

// wireTexts: texts beside the lengths where the number ahead grows, and bytes of every kind.
func wireTexts() []string {
	every := make([]byte, 256)
	for i := range every {
		every[i] = byte(i)
	}
	return []string{
		"", "a", "ab", "\x00", "\xff\xfe", "héron",
		string(every),
		strings.Repeat("x", 127), strings.Repeat("x", 128),
		strings.Repeat("y", 16383), strings.Repeat("y", 16384),
		strings.Repeat("z", 2097152),
	}
}

func TestDigits(t *testing.T) {
	for n, want := range map[int]string{
		0: "0", 7: "7", 10: "10", -1: "-1", -70: "-70", 999999: "999999", 1000000: "1000000",
		math.MaxInt: "9223372036854775807", math.MinInt: "-9223372036854775808",
	} {
		if got := impl.Digits(n); got != want {
			t.Errorf("Digits(%d) = %q", n, got)
		}
	}
}

func TestNumberReadsDigits(t *testing.T) {
	for n := 0; n <= 999999; n++ {
		if got, ok := impl.Number(impl.Digits(n)); got != n || !ok {
			t.Fatalf("Number(Digits(%d)) = %d, %v", n, got, ok)
		}
	}
}

func TestNumberRefuses(t *testing.T) {
	for _, s := range []string{
		"", "00", "01", "012", "000000", "0999999", "1000000", "9999999", "-1", "-0", "+1", "-", "+",
		" 1", "1 ", "1\n", "1 2", "1a", "a1", "1.0", "1e3", "0x1", "1_0", "1\x00", "/", ":", "1/", "1:",
		"\xff", "\uff11", "\u0661", "9223372036854775808", "18446744073709551616", "18446744073709551617",
		strings.Repeat("9", 1000), strings.Repeat("0", 1000),
	} {
		if n, ok := impl.Number(s); n != 0 || ok {
			t.Errorf("Number(%q) = %d, %v", s, n, ok)
		}
	}
}

func TestPutNum(t *testing.T) {
	for _, x := range wireNumbers {
		if got := impl.PutNum(x.n); string(got) != x.bytes {
			t.Errorf("PutNum(%d) = %x", x.n, got)
		}
	}
	for _, n := range []int{-1, -128, 2147483648, 2147483649, 1 << 32, 1<<32 + 1, math.MaxInt, math.MinInt} {
		if got := impl.PutNum(n); len(got) != 0 {
			t.Errorf("PutNum(%d) = %x", n, got)
		}
	}
}

// roundTripNumbers: the table's, and some of every size between.
func roundTripNumbers() []int {
	var out []int
	for _, x := range wireNumbers {
		out = append(out, x.n)
	}
	for n := 0; n < 70000; n++ {
		out = append(out, n)
	}
	for n := 70000; n <= 2147483647; n += n/97 + 1 {
		out = append(out, n)
	}
	return out
}

func TestGetNumReadsPutNum(t *testing.T) {
	for _, n := range roundTripNumbers() {
		wire := impl.PutNum(n)
		for _, ahead := range []string{"", "\x00", "\x80", "\xff\xff\x01"} {
			for _, behind := range []string{"", "\x00", "\xff"} {
				b := []byte(ahead + string(wire) + behind)
				got, next, ok := impl.GetNum(b, len(ahead))
				if got != n || next != len(ahead)+len(wire) || !ok {
					t.Fatalf("GetNum(%x, %d) = %d, %d, %v, not %d", b, len(ahead), got, next, ok, n)
				}
			}
		}
	}
}

func TestNumbersOneBehindTheOther(t *testing.T) {
	var b []byte
	for _, x := range wireNumbers {
		b = append(b, impl.PutNum(x.n)...)
	}
	at := 0
	for _, x := range wireNumbers {
		n, next, ok := impl.GetNum(b, at)
		if n != x.n || !ok {
			t.Fatalf("at %d: %d, %v, not %d", at, n, ok, x.n)
		}
		at = next
	}
	if n, next, ok := impl.GetNum(b, at); at != len(b) || n != 0 || next != 0 || ok {
		t.Error("behind the last", at, n, next, ok)
	}
}

func TestGetNumRefuses(t *testing.T) {
	for _, x := range []struct {
		why, b string
		at     int
	}{
		{"not the shortest", "\x80\x00", 0},
		{"not the shortest", "\xff\x00", 0},
		{"not the shortest", "\x81\x80\x00", 0},
		{"not the shortest", "\xff\xff\xff\xff\x00", 0},
		{"not the shortest", "\x80\x80\x80\x80\x80\x00", 0},
		{"not the shortest", "\xff\xff\xff\xff\x87\x00", 0},
		{"not the shortest, at another place", "\x05\x80\x00", 1},
		{"ends too early", "", 0},
		{"ends too early", "\x80", 0},
		{"ends too early", "\xff\xff\xff\xff", 0},
		{"ends too early", "\x01\x80", 1},
		{"too great", "\x80\x80\x80\x80\x08", 0},
		{"too great", "\xff\xff\xff\xff\x08", 0},
		{"too great", "\xff\xff\xff\xff\x0f", 0},
		{"too great", "\xff\xff\xff\xff\x7f", 0},
		{"too great", "\x80\x80\x80\x80\x80\x01", 0},
		{"too great", "\x80\x80\x80\x80\x80\x80\x80\x80\x80\x01", 0},
		{"too great by wrapping round", "\x81\x80\x80\x80\x80\x80\x80\x80\x80\x02", 0},
		{"without an end", strings.Repeat("\x80", 100), 0},
		{"without an end", strings.Repeat("\x80", 100) + "\x01", 0},
		{"behind the end", "\x01", 1},
		{"behind the end", "\x01", 2},
		{"behind the end", "\x01", math.MaxInt},
		{"below 0", "\x01", -1},
		{"below 0", "\x01", math.MinInt},
	} {
		if n, next, ok := impl.GetNum([]byte(x.b), x.at); n != 0 || next != 0 || ok {
			t.Errorf("%s: GetNum(%x, %d) = %d, %d, %v", x.why, x.b, x.at, n, next, ok)
		}
	}
	if n, next, ok := impl.GetNum(nil, 0); n != 0 || next != 0 || ok {
		t.Error("nil", n, next, ok)
	}
}

// Of all that three bytes can be, just what PutNum writes is read.
func TestGetNumReadsNothingElse(t *testing.T) {
	read := 0
	for x := 0; x < 1<<24; x++ {
		b := [3]byte{byte(x), byte(x >> 8), byte(x >> 16)}
		n, next, ok := impl.GetNum(b[:], 0)
		if !ok {
			if n != 0 || next != 0 {
				t.Fatalf("%x: %d, %d beside false", b, n, next)
			}
			continue
		}
		if next < 1 || next > 3 || !bytes.Equal(impl.PutNum(n), b[:next]) {
			t.Fatalf("%x: %d, %d", b, n, next)
		}
		read++
	}
	// 128 numbers of one byte, 127 * 128 of two and 127 * 128 * 128 of three, with any bytes behind.
	if want := 128<<16 + 127*128<<8 + 127*128*128; read != want {
		t.Errorf("%d were read, not %d", read, want)
	}
}

func TestPutText(t *testing.T) {
	for _, s := range wireTexts() {
		want := string(impl.PutNum(len(s))) + s
		if got := impl.PutText(s); string(got) != want {
			t.Errorf("PutText of %d bytes has %d", len(s), len(got))
		}
	}
	if got := impl.PutText(""); string(got) != "\x00" {
		t.Errorf("PutText of the empty text: %x", got)
	}
}

func TestGetTextReadsPutText(t *testing.T) {
	for _, s := range wireTexts() {
		for _, ahead := range []string{"", "\x03", "\x80\x80"} {
			for _, behind := range []string{"", "\x00", "more"} {
				wire := impl.PutText(s)
				b := []byte(ahead + string(wire) + behind)
				got, next, ok := impl.GetText(b, len(ahead))
				if got != s || next != len(ahead)+len(wire) || !ok {
					t.Errorf("text of %d bytes at %d: %d bytes, %d, %v", len(s), len(ahead), len(got), next, ok)
				}
			}
		}
	}
}

func TestGetTextRefuses(t *testing.T) {
	for _, x := range []struct {
		why, b string
		at     int
	}{
		{"shorter than it says", "\x01", 0},
		{"shorter than it says", "\x03ab", 0},
		{"shorter than it says", "\x00\x02a", 1},
		{"shorter than it says", "\x80\x01" + strings.Repeat("x", 127), 0},
		{"shorter than it says", "\xff\xff\xff\xff\x07abc", 0},
		{"length is not the shortest", "\x80\x00", 0},
		{"length is not the shortest", "\x82\x00ab", 0},
		{"length ends too early", "", 0},
		{"length ends too early", "\x82", 0},
		{"length is too great", "\x80\x80\x80\x80\x08abc", 0},
		{"behind the end", "\x01a", 2},
		{"behind the end", "\x01a", math.MaxInt},
		{"below 0", "\x01a", -1},
		{"below 0", "\x01a", math.MinInt},
	} {
		if s, next, ok := impl.GetText([]byte(x.b), x.at); s != "" || next != 0 || ok {
			t.Errorf("%s: GetText(%x, %d) = %q, %d, %v", x.why, x.b, x.at, s, next, ok)
		}
	}
	if s, next, ok := impl.GetText(nil, 0); s != "" || next != 0 || ok {
		t.Error("nil", s, next, ok)
	}
}

func TestParts(t *testing.T) {
	for _, x := range []struct {
		s    string
		by   byte
		want []string
	}{
		{"", ',', []string{""}},
		{",", ',', []string{"", ""}},
		{"a", ',', []string{"a"}},
		{"a,,b,", ',', []string{"a", "", "b", ""}},
		{",a", ',', []string{"", "a"}},
		{"a b", ',', []string{"a b"}},
		{"set 1 x", ' ', []string{"set", "1", "x"}},
		{"a\x00b", 0, []string{"a", "b"}},
		{"a\xffb", 255, []string{"a", "b"}},
		{"é", 0xa9, []string{"\xc3", ""}},
		{"\n\n", '\n', []string{"", "", ""}},
	} {
		got := impl.Parts(x.s, x.by)
		if len(got) != len(x.want) {
			t.Errorf("Parts(%q, %d) = %q", x.s, x.by, got)
			continue
		}
		for i := range got {
			if got[i] != x.want[i] {
				t.Errorf("Parts(%q, %d) = %q", x.s, x.by, got)
			}
		}
	}
}

// Whatever the text: its parts, with the byte between them, are the text, and none has the byte.
func TestPartsPutTogether(t *testing.T) {
	for by := 0; by < 256; by++ {
		sep := string([]byte{byte(by)})
		for x := 0; x < 1<<6; x++ {
			s := ""
			for bit := 0; bit < 6; bit++ {
				if x>>bit&1 == 1 {
					s += sep
				} else {
					s += string([]byte{byte(by + 1)})
				}
			}
			got := impl.Parts(s, byte(by))
			if strings.Join(got, sep) != s || len(got) != strings.Count(s, sep)+1 {
				t.Fatalf("Parts(%q, %d) = %q", s, by, got)
			}
		}
	}
}

func TestCrc(t *testing.T) {
	if got := impl.Crc([]byte("123456789")); got != 3421780262 {
		t.Error("Crc of 123456789:", got)
	}
	if impl.Crc(nil) != 0 || impl.Crc([]byte{}) != 0 {
		t.Error("Crc of nothing")
	}
	b := make([]byte, 0, 600)
	for i := range 600 {
		b = append(b, byte(i*i+i/7))
		if got, want := impl.Crc(b), int(crc32.ChecksumIEEE(b)); got != want {
			t.Fatalf("Crc of %d bytes = %d, not %d", len(b), got, want)
		}
	}
	for i := range 256 {
		one := []byte{byte(i)}
		if got, want := impl.Crc(one), int(crc32.ChecksumIEEE(one)); got != want {
			t.Errorf("Crc of byte %d = %d, not %d", i, got, want)
		}
	}
}

// What stands behind a slice's end is not read: a number or text that only ends there is none.
func TestSpareRoomIsNotRead(t *testing.T) {
	whole := []byte{0x82, 0x01, 'a', 'b'}
	if n, next, ok := impl.GetNum(whole[:1], 0); n != 0 || next != 0 || ok {
		t.Error("number", n, next, ok)
	}
	text := []byte{2, 'a', 'b'}
	if s, next, ok := impl.GetText(text[:2], 0); s != "" || next != 0 || ok {
		t.Error("text", s, next, ok)
	}
}

func TestNothingIsWrittenIntoArguments(t *testing.T) {
	for _, full := range []string{"\x03abc\xac\x02rest", "\x80\x00\x80\x80", "\xff\xff\xff\xff\x07", "\x05ab"} {
		room := []byte(full + "spare")
		b := room[:len(full)]
		for at := -1; at <= len(b)+1; at++ {
			impl.GetNum(b, at)
			impl.GetText(b, at)
		}
		impl.Crc(b)
		if string(room) != full+"spare" {
			t.Errorf("%x became %x", full, room)
		}
	}
}

func TestAnswersAreNewMemory(t *testing.T) {
	b := []byte("\x03abc")
	s, _, _ := impl.GetText(b, 0)
	b[1] = 'X'
	if s != "abc" {
		t.Error("the text read turned with its bytes:", s)
	}
	for _, n := range []int{0, 300, 2147483647} {
		first := impl.PutNum(n)
		want := string(first)
		for i := range first {
			first[i]++
		}
		if got := impl.PutNum(n); string(got) != want {
			t.Errorf("PutNum(%s) turned with an earlier answer", strconv.Itoa(n))
		}
	}
	text := impl.PutText("ab")
	text[1] = 'X'
	if string(impl.PutText("ab")) != "\x02ab" {
		t.Error("PutText turned with an earlier answer")
	}
	parts := impl.Parts("a,b", ',')
	parts[0] = "X"
	if p := impl.Parts("a,b", ','); p[0] != "a" || p[1] != "b" {
		t.Error("Parts turned with an earlier answer")
	}
}
