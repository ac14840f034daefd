package code_test

import (
	"slices"
	"strings"
	"testing"

	"genlock/api"
	"genlock/code"
)

// P7.4: example 7.
func TestSent(t *testing.T) {
	for s, wanted := range map[string][]byte{"": nil, "AB": {193, 194}, "C": {67}, "\x00\x7f": {128, 127}, "?": {191}, " ~": {32, 254}} {
		want(t, s, results(code.Sent(s)), wanted, api.OK)
	}
	for b := range 128 {
		sent := byte(b)
		if count(sent)%2 == 0 {
			sent += 128
		}
		want(t, b, results(code.Sent(string([]byte{byte(b), 'C'}))), []byte{sent, 'C'}, api.OK)
	}
}

// P7.4: the length is asked before the bytes.
func TestSentErrors(t *testing.T) {
	for b := 128; b < 256; b++ {
		for _, s := range []string{string([]byte{byte(b)}), "abc" + string([]byte{byte(b)}), string([]byte{byte(b)}) + "abc"} {
			want(t, s, results(code.Sent(s)), []byte{}, api.ErrForm)
		}
	}
	long := strings.Repeat("A", 4000)
	want(t, "4000 bytes", results(code.Sent(long)), slices.Repeat([]byte{193}, 4000), api.OK)
	want(t, "4001 bytes", results(code.Sent(long+"A")), []byte{}, api.ErrLong)
	want(t, "4001 bytes", results(code.Sent(long+"\xff")), []byte{}, api.ErrLong)
	want(t, "4001 bytes", results(code.Sent("\xff"+long)), []byte{}, api.ErrLong)
	want(t, "4000 bytes", results(code.Sent(long[1:]+"\xff")), []byte{}, api.ErrForm)
	want(t, "a letter", results(code.Sent("\u00e9")), []byte{}, api.ErrForm)
}

// P7.4: example 7.
func TestHeard(t *testing.T) {
	for _, x := range []struct {
		s     []byte
		text  string
		wrong []int
	}{
		{nil, "", nil}, {[]byte{65}, "?", []int{0}}, {[]byte{193, 194}, "AB", nil}, {[]byte{193, 66, 67, 195, 194}, "A?C?B", []int{1, 3}}, {[]byte{0, 255, 128, 127}, "??\x00\x7f", []int{0, 1}}, {[]byte{191, 63}, "??", []int{1}},
	} {
		want(t, x.s, results(code.Heard(x.s)), x.text, x.wrong, api.OK)
	}
	for b := range 256 {
		text, wrong := "?C", []int{0}
		if count(byte(b))%2 == 1 {
			text, wrong = string([]byte{byte(b % 128), 'C'}), nil
		}
		want(t, b, results(code.Heard([]byte{byte(b), 'C'})), text, wrong, api.OK)
	}
	for _, x := range givenStreams() {
		wantError(t, len(x.v), results(code.Heard(x.v)), x.e, "", []int{})
	}
	text, wrong, e := code.Heard(make([]byte, 4000))
	want(t, "4000 bytes", results(text, len(wrong), wrong[3999], e), strings.Repeat("?", 4000), 4000, 3999, api.OK)
}
