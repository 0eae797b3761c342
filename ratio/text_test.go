package ratio_test

import (
	"math/big"
	"strings"
	"testing"

	"bandplan/api"
	"bandplan/ratio"
)

// P2.5

func TestTextAndParse(t *testing.T) {
	list := samples()
	m := mixer{4}
	for i := range 2000 {
		list = append(list, m.ratio(1+i%64))
	}
	for _, a := range list {
		want := ratOf(a).RatString()
		if got := ratio.Text(a); got != want {
			t.Fatal("Text of", want, "is", got)
		}
		got, e := ratio.Parse(want)
		expect(t, "Parse of "+want, got, e, ratOf(a))
	}
	for _, bad := range invalid() {
		if got := ratio.Text(bad); got != "" {
			t.Error("Text of", show(bad), "is", got)
		}
	}
	for s, want := range map[string]api.Ratio{"-3/4": parts("-3", "4"), "5": parts("5", "1"), "0": parts("0", "1"), "-5": parts("-5", "1"), "1/2": parts("1", "2"), "10/9": parts("10", "9")} {
		got, e := ratio.Parse(s)
		if e != api.OK || !same(got, want) || ratio.Text(want) != s {
			t.Error(s, show(got), e, ratio.Text(want))
		}
	}
}

// refused returns the strings that are not of the form, and others that are not reduced.
func refused() []string {
	list := []string{
		"", "-", "+", " ", "a", "-0", "00", "007", "-007", "+1", " 1", "1 ", "1\n", "1.5", "1e3", "0x10", "1_000", "\xff", "\u0661",
		"/", "//", "1/", "/2", "-/2", "1/-", "1//2", "1/2/", "/1/2", "1/2/3", "1/2/1", "1:2", "1\\2",
		"01/2", "1/02", "-01/2", "+1/2", "1/+2", "-0/2", " 1/2", "1 /2", "1/ 2", "1/2 ", "1/2\x00", "a/2", "1/a", "1/2a", "1/0x2", "1/\u0662",
		"1/-2", "-1/-2", "1/0", "0/0", "1/-0", "1/00", "0/1", "3/1", "-3/1", "1/1", "3/-1", "0/-1",
		"2/4", "-2/4", "6/3", "5/5", "-5/5", "0/2", "0/5", "10/15", "12/18", "340282366920938463463374607431768211456/2",
		most().String() + "/" + most().String(),
		power(511, 0).String() + "/2", power(510, 0).String() + "/" + power(511, 0).String(), "0/" + most().String(),
	}
	// A number that is too large does not hide a wrong format.
	for _, huge := range []string{power(512, 0).String(), "-" + power(512, 0).String(), strings.Repeat("9", 400)} {
		list = append(list, huge+"x", "0"+huge, "+"+huge, huge+" ", "x"+huge, huge+".")
		list = append(list, huge+"/", huge+"/x", huge+"/02", huge+"/0", huge+"/1", huge+"/-1", huge+"/-2", huge+"/2/3", huge+"//2", huge+"/-"+strings.TrimPrefix(huge, "-"))
		list = append(list, "/"+huge, "x/"+huge, "02/"+huge, "-0/"+huge, "1/2/"+huge, "1//"+huge, "1/x"+huge, "1/0"+huge, "1/-"+strings.TrimPrefix(huge, "-"), huge+"x/"+huge, huge+"/"+huge+"x")
	}
	return list
}

func TestParseFormat(t *testing.T) {
	for _, s := range refused() {
		got, e := ratio.Parse(s)
		expectError(t, "Parse of \""+s+"\"", got, e, api.ErrFormat)
	}
}

func TestParseOfAnyByte(t *testing.T) {
	for c := range 256 {
		b := string([]byte{byte(c)})
		for _, s := range []string{"1" + b + "2", b + "1/2", "1/2" + b, "1/" + b + "2"} {
			digit := c >= '0' && c <= '9'
			want, ok := new(big.Rat).SetString(s)
			// What this reads otherwise than Parse are signs, zeros and numbers that are not reduced.
			got, e := ratio.Parse(s)
			if ok && (digit || c == '/' || c == '-') && want.RatString() == s {
				expect(t, "Parse of \""+s+"\"", got, e, want)
			} else {
				expectError(t, "Parse of \""+s+"\"", got, e, api.ErrFormat)
			}
		}
	}
}

func TestParseFull(t *testing.T) {
	limit := power(512, 0).String()
	for _, huge := range []string{limit, power(512, 1).String(), power(576, 0).String(), strings.Repeat("9", 155), strings.Repeat("7", 1<<20)} {
		for _, s := range []string{
			huge, "-" + huge, huge + "/2", huge + "/3", "-" + huge + "/" + limit, huge + "/" + most().String(), "1/" + huge, "-1/" + huge, "0/" + huge, "2/" + huge, most().String() + "/" + huge,
			huge + "/" + huge, "-" + huge + "/" + huge,
		} {
			got, e := ratio.Parse(s)
			expectError(t, "Parse of "+s[:min(len(s), 400)], got, e, api.ErrFull)
		}
	}
	top := most().String()
	for _, s := range []string{top, "-" + top, top + "/2", "2/" + top, "-" + top + "/" + power(512, -2).String(), "1/" + top} {
		want, _ := new(big.Rat).SetString(s)
		got, e := ratio.Parse(s)
		expect(t, "Parse of "+s, got, e, want)
	}
}
