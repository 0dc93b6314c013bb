package impl

import "strconv"

const (
	maxNumber = 999999     // the greatest that Number reads
	maxNum    = 2147483647 // the greatest that PutNum writes
)

const (
	crcOnes = 4294967295
	crcPoly = 3988292384
)

// What the readers below panic with; the faces turn it into a false.
const (
	noNumber = "no number"
	noText   = "no text"
)

func Digits(n int) string { return strconv.Itoa(n) }

// The faces that read set no result ahead of the one return, so that a panic below leaves them all zero.

func Number(s string) (int, bool) {
	defer func() { _ = recover() }()
	n := readDigits(s)
	return n, true
}

func PutNum(n int) []byte {
	if n < 0 || n > maxNum {
		return nil
	}
	var out []byte
	for n >= 128 {
		out = append(out, byte(n%128+128))
		n /= 128
	}
	return append(out, byte(n))
}

func GetNum(b []byte, at int) (int, int, bool) {
	defer func() { _ = recover() }()
	n, next := readNum(b, at)
	return n, next, true
}

func PutText(s string) []byte { return append(PutNum(len(s)), s...) }

func GetText(b []byte, at int) (string, int, bool) {
	defer func() { _ = recover() }()
	s, next := readText(b, at)
	return s, next, true
}

// Parts gathers bytes instead of cutting s, so that no part shares memory with it.
func Parts(s string, by byte) []string {
	var out []string
	var part []byte
	for i := 0; i < len(s); i++ {
		if s[i] == by {
			out = append(out, string(part))
			part = nil
			continue
		}
		part = append(part, s[i])
	}
	return append(out, string(part))
}

func Crc(b []byte) int {
	sum := crcOnes
	for _, x := range b {
		sum ^= int(x)
		for range 8 {
			odd := sum%2 == 1
			sum /= 2
			if odd {
				sum ^= crcPoly
			}
		}
	}
	return sum ^ crcOnes
}

// readDigits ends at the first byte that brings it above maxNumber, so that no length wraps it round.
func readDigits(s string) int {
	if s == "" || s[0] == '0' && len(s) > 1 {
		panic(noNumber)
	}
	n := 0
	for i := 0; i < len(s); i++ {
		if s[i] < '0' || s[i] > '9' {
			panic(noNumber)
		}
		n = n*10 + int(s[i]-'0')
		if n > maxNumber {
			panic(noNumber)
		}
	}
	return n
}

func readNum(b []byte, at int) (int, int) {
	if at < 0 {
		panic(noNumber)
	}
	n, unit := 0, 1
	for at < len(b) && unit <= maxNum {
		x := int(b[at])
		at++
		if x >= 128 {
			n += (x - 128) * unit
			unit *= 128
			continue
		}
		n += x * unit
		// A last byte of 0 could have been left away, unless it is the only one.
		if n > maxNum || x == 0 && unit > 1 {
			panic(noNumber)
		}
		return n, at
	}
	panic(noNumber)
}

func readText(b []byte, at int) (string, int) {
	size, from := readNum(b, at)
	if size > len(b)-from {
		panic(noText)
	}
	return string(b[from : from+size]), from + size
}
