package ratio

import (
	"strings"

	"bandplan/api"
	"bandplan/number"
)

// Text returns a Ratio as a string.
func Text(a api.Ratio) string {
	if !Valid(a) {
		return ""
	}
	text := number.Text(a.Num)
	if isOne(a.Den) {
		return text
	}
	return text + "/" + number.Text(a.Den)
}

// Parse returns the Ratio of a string.
func Parse(s string) (api.Ratio, api.Errno) {
	left, right, found := strings.Cut(s, "/")
	num, e := number.Parse(left)
	den, f := number.Of(1), api.OK
	if found {
		den, f = parseDen(right)
	}
	switch {
	case e == api.ErrFormat || f == api.ErrFormat:
		// A wrong format counts before a number that is too large, on whichever side.
		return api.Ratio{}, api.ErrFormat
	case e != api.OK:
		return api.Ratio{}, e
	case f != api.OK:
		return api.Ratio{}, f
	}
	a := api.Ratio{Num: num, Den: den}
	if !Valid(a) {
		return api.Ratio{}, api.ErrFormat
	}
	return a, api.OK
}

// parseDen looks at the string to find whether the number is greater than 1, because there may be no Int of it.
func parseDen(s string) (api.Int, api.Errno) {
	if strings.HasPrefix(s, "-") || s == "0" || s == "1" {
		return api.Int{}, api.ErrFormat
	}
	return number.Parse(s)
}
