package op

import (
	"strconv"
	"strings"

	"punnet/api"
	"punnet/dos"
)

// Digits returns the decimal digits of a number.
func Digits(n int) string {
	return strconv.Itoa(n)
}

// Number returns the number with these digits; false: there is none.
func Number(s string) (int, bool) {
	n, err := strconv.Atoi(s)
	if err != nil || Digits(n) != s {
		return 0, false
	}
	return n, true
}

// Clock returns a time as a text; empty: it is not right.
func Clock(t api.Time) string {
	if !dos.Right(t) {
		return ""
	}
	date := strings.Join([]string{Digits(t.Year), two(t.Month), two(t.Day)}, "-")
	clock := strings.Join([]string{two(t.Hour), two(t.Minute), two(t.Sec)}, ":")
	return date + "T" + clock
}

// two returns the digits of a number below 100, at least two.
func two(n int) string {
	if n < 10 {
		return "0" + Digits(n)
	}
	return Digits(n)
}

// ReadClock returns the time of a text; false: there is none.
func ReadClock(s string) (api.Time, bool) {
	if len(s) != len("2024-05-06T07:08:10") {
		return api.Time{}, false
	}
	var parts [6]int
	at := 0
	for i := range parts {
		n := 2
		if i == 0 {
			n = 4
		}
		parts[i], _ = strconv.Atoi(s[at : at+n])
		at += n + 1
	}
	t := api.Time{Year: parts[0], Month: parts[1], Day: parts[2], Hour: parts[3], Minute: parts[4], Sec: parts[5]}
	// The text of another time differs, also in what lies between the digits.
	if Clock(t) != s {
		return api.Time{}, false
	}
	return t, true
}

const (
	hexDigits = "0123456789abcdef"
	noBytes   = "-"
)

// Hex returns two digits for each byte.
func Hex(b []byte) string {
	if len(b) == 0 {
		return noBytes
	}
	text := make([]byte, 0, 2*len(b))
	for _, c := range b {
		text = append(text, hexDigits[c>>4], hexDigits[c&15])
	}
	return string(text)
}

// ReadHex returns the bytes of a text; false: there are none.
func ReadHex(s string) ([]byte, bool) {
	if s == noBytes {
		return nil, true
	}
	if s == "" || len(s)%2 != 0 {
		return nil, false
	}
	b := make([]byte, len(s)/2)
	for i := range b {
		high := strings.IndexByte(hexDigits, s[2*i])
		low := strings.IndexByte(hexDigits, s[2*i+1])
		if high < 0 || low < 0 {
			return nil, false
		}
		b[i] = byte(high<<4 | low)
	}
	return b, true
}
