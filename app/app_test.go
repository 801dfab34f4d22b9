package app_test

import (
	"slices"
	"strconv"
	"strings"
	"testing"

	"sternpost/api"
	"sternpost/app"
)

const (
	mostLine  = 256
	mostNames = 64
	mostName  = 32
	mostGrown = 200
)

// takes looks what is answered to these bytes.
func takes(t *testing.T, s *app.Session, data, want string) {
	t.Helper()
	if a, e := s.Take(data); a != want || e != api.OK {
		t.Errorf("Take(%q): %q, %d, want %q", data, a, e, want)
	}
}

// says looks what is answered to each line, told as line, answer, line, answer ..
func says(t *testing.T, s *app.Session, talk ...string) {
	t.Helper()
	for i := 0; i < len(talk); i += 2 {
		takes(t, s, talk[i]+"\n", talk[i+1]+"\n")
	}
}

// names looks at the names, twice, as asking may change nothing.
func names(t *testing.T, s *app.Session, want ...string) {
	t.Helper()
	for range 2 {
		if l := s.Names(); !slices.Equal(l, want) {
			t.Errorf("Names: %q, want %q", l, want)
		}
	}
}

func over(t *testing.T, s *app.Session, want bool) {
	t.Helper()
	if s.Over() != want {
		t.Errorf("Over: %v", !want)
	}
}

// of is a text of one byte, n times.
func of(b string, n int) string { return strings.Repeat(b, n) }

// full is a session with as many names as there may be: n00, n01 ..
func full(t *testing.T) (s *app.Session, all []string) {
	t.Helper()
	s = app.New()
	for i := range mostNames {
		all = append(all, "n"+strconv.Itoa(i/10)+strconv.Itoa(i%10))
		says(t, s, "PUT "+all[i]+" "+strconv.Itoa(i), "OK")
	}
	return s, all
}

// 21.1
func TestNew(t *testing.T) {
	s := app.New()
	over(t, s, false)
	names(t, s)
	takes(t, s, "", "")
	says(t, s, "COUNT", "COUNT 0", "LIST", "LIST", "GET a", "NONE")
	over(t, s, false)
}

// Chapter 21, example 1, and example 8 of the whole.
func TestExample(t *testing.T) {
	s := app.New()
	takes(t, s, "PUT a 1\nADD a 2\nGET a\nQUIT\n", "OK\nVALUE 3\nVALUE 3\nBYE\n")
	over(t, s, true)
	s = app.New()
	takes(t, s, "PUT a 1\nADD a 2\n", "OK\nVALUE 3\n")
}

// 21.1: the value is all behind the blank behind the name, whatever that is.
func TestPutAndGet(t *testing.T) {
	s := app.New()
	for _, v := range []string{"1", "", " ", "  ", " x", "x ", "x y  z", "\r", "\x00", "\t\v", "\xff\xfe", "ä€", "PUT a 1", "-0", of("v", mostLine-len("PUT a "))} {
		says(t, s, "PUT a "+v, "OK", "GET a", "VALUE "+v)
	}
	names(t, s, "a")
	says(t, s, "GET b", "NONE", "PUT b 1", "OK", "GET b", "VALUE 1", "PUT b 2", "OK", "GET b", "VALUE 2", "GET B", "NONE")
	names(t, s, "a", "b")
}

// 21.1: which words are names.
func TestNames(t *testing.T) {
	good := []string{"a", "!", "~", "!~", "-", "0", "GET", of("n", mostName-1), of("n", mostName), of("~", mostName)}
	wrong := []string{"", "\x00", "\x1f", "\x7f", "\x80", "\xff", "é", "€", "\xc3", "a\x7f", "a\t", "\ta", "a\r", "a\x80b", "a\x1f", "aé", of("n", mostName+1), of("n", 100)}
	for b := range 256 {
		word := "n" + string([]byte{byte(b)})
		switch {
		case b > ' ' && b < 127:
			good = append(good, word)
		case b != ' ' && b != '\n':
			wrong = append(wrong, word)
		}
	}
	for _, n := range good {
		s := app.New()
		says(t, s, "PUT "+n+" x", "OK", "GET "+n, "VALUE x", "DEL "+n, "OK", "GET "+n, "NONE", "DEL "+n, "NONE")
		says(t, s, "ADD "+n+" 5", "VALUE 5", "APP "+n+" 6", "COUNT 2", "LIST", "LIST "+n)
		names(t, s, n)
	}
	s := app.New()
	for _, n := range wrong {
		says(t, s, "PUT "+n+" x", "BAD", "GET "+n, "BAD", "DEL "+n, "BAD", "ADD "+n+" 5", "BAD", "APP "+n+" 6", "BAD")
	}
	names(t, s)
}

// 21.1
func TestDel(t *testing.T) {
	s := app.New()
	says(t, s, "DEL a", "NONE", "PUT a 1", "OK", "PUT b 2", "OK", "DEL a", "OK", "DEL a", "NONE", "GET a", "NONE", "GET b", "VALUE 2", "COUNT", "COUNT 1")
	names(t, s, "b")
	says(t, s, "ADD a 4", "VALUE 4", "DEL a", "OK", "APP a 4", "COUNT 1", "DEL a", "OK", "DEL b", "OK", "LIST", "LIST", "COUNT", "COUNT 0")
	names(t, s)
}

// 21.1: names rise by their bytes, in LIST and in Names.
func TestRising(t *testing.T) {
	rising := []string{"!", "-1", "0", "10", "9", "A", "B", "Z", "a", "aa", "ab", "b", "b!", "z", "~"}
	s := app.New()
	for i := range rising {
		// Any order but the right one.
		says(t, s, "PUT "+rising[(i*7+4)%len(rising)]+" x", "OK")
	}
	says(t, s, "LIST", "LIST "+strings.Join(rising, " "), "COUNT", "COUNT "+strconv.Itoa(len(rising)))
	names(t, s, rising...)
}

// 21.1
func TestAdd(t *testing.T) {
	s := app.New()
	says(t, s, "ADD a 5", "VALUE 5", "GET a", "VALUE 5", "ADD a -7", "VALUE -2", "ADD a 2", "VALUE 0", "GET a", "VALUE 0", "ADD a 0", "VALUE 0",
		"ADD a -1", "VALUE -1", "PUT a 10", "OK", "ADD a 90", "VALUE 100", "ADD b 0", "VALUE 0", "GET b", "VALUE 0", "COUNT", "COUNT 2")
	// Nine digits, and not one more.
	says(t, s, "ADD c 999999999", "VALUE 999999999", "ADD c 1", "BAD", "ADD c 999999999", "BAD", "GET c", "VALUE 999999999", "ADD c 0", "VALUE 999999999",
		"ADD c -999999999", "VALUE 0", "ADD c -999999999", "VALUE -999999999", "ADD c -1", "BAD", "ADD c -999999999", "BAD", "GET c", "VALUE -999999999",
		"ADD c 999999998", "VALUE -1", "PUT c 999999990", "OK", "ADD c 9", "VALUE 999999999", "ADD c -1", "VALUE 999999998", "ADD c 2", "BAD", "GET c", "VALUE 999999998")
}

// noNumbers are no whole numbers, some of which might be taken for one.
var noNumbers = []string{"", "-", "+", "+1", "-0", "00", "01", "-01", "-00", "007", "1000000000", "-1000000000", "0999999999", "9999999999", "18446744073709551617",
	"-9223372036854775808", of("9", 100), "1_0", "0x1", "1e3", "1.0", "1.", "x", "1x", "x1", " 1", "1 ", "1 2", "--1", "1-", "\t1", "1\r", "1\x00", "٣", "１", "\xff"}

// 21.1: to a value that is no whole number one counts as to 0; but such a word is nothing to count.
func TestAddOfNoNumbers(t *testing.T) {
	s := app.New()
	for _, n := range noNumbers {
		says(t, s, "ADD new "+n, "BAD", "GET new", "NONE", "PUT a 5", "OK", "ADD a "+n, "BAD", "GET a", "VALUE 5")
		says(t, s, "PUT a "+n, "OK", "ADD a "+n, "BAD", "GET a", "VALUE "+n, "ADD a -12", "VALUE -12", "GET a", "VALUE -12")
	}
	names(t, s, "a")
}

// 21.1: which words are whole numbers, here and in a value.
func TestAddOfNumbers(t *testing.T) {
	s := app.New()
	for _, n := range []string{"0", "1", "9", "10", "123456789", "100000000", "999999998", "-1", "-9", "-10", "-123456789", "-999999998"} {
		says(t, s, "PUT a 0", "OK", "ADD a "+n, "VALUE "+n, "PUT b "+n, "OK", "ADD b 0", "VALUE "+n, "PUT c x", "OK", "ADD c "+n, "VALUE "+n)
	}
}

// 21.1
func TestApp(t *testing.T) {
	s := app.New()
	says(t, s, "APP a xy", "COUNT 2", "APP a ", "COUNT 2", "APP a  z ", "COUNT 5", "GET a", "VALUE xy z ", "APP b ", "COUNT 0", "GET b", "VALUE ", "COUNT", "COUNT 2")
	says(t, s, "PUT c 12", "OK", "APP c 3", "COUNT 3", "ADD c 1", "VALUE 124", "APP c 0", "COUNT 4", "GET c", "VALUE 1240")
	says(t, s, "APP d €", "COUNT 3", "APP d \xff", "COUNT 4", "GET d", "VALUE €\xff")
}

// 21.1: a value that grows may have 200 bytes, one that is put more.
func TestAppOfMuch(t *testing.T) {
	s := app.New()
	most := of("x", mostGrown)
	says(t, s, "APP a "+most+"y", "FULL", "GET a", "NONE", "COUNT", "COUNT 0", "APP a "+most, "COUNT 200", "APP a y", "FULL", "APP a ", "COUNT 200", "GET a", "VALUE "+most)
	says(t, s, "PUT b "+most[1:], "OK", "APP b yy", "FULL", "GET b", "VALUE "+most[1:], "APP b y", "COUNT 200", "APP b y", "FULL", "GET b", "VALUE "+most[1:]+"y")
	says(t, s, "PUT c "+most+"y", "OK", "APP c ", "FULL", "APP c z", "FULL", "GET c", "VALUE "+most+"y")
	names(t, s, "a", "b", "c")
}

// 21.1: of 64 names none is new, but those that are there may have other values.
func TestFull(t *testing.T) {
	s, all := full(t)
	untouched := func() {
		t.Helper()
		names(t, s, all...)
		says(t, s, "COUNT", "COUNT 64", "LIST", "LIST "+strings.Join(all, " "), "GET new", "NONE")
	}
	for range 2 {
		says(t, s, "PUT new 1", "FULL", "PUT new ", "FULL", "ADD new 1", "FULL", "APP new 1", "FULL", "APP new "+of("x", mostGrown+1), "FULL")
		// What is no line of these is none, whether there is room or not.
		says(t, s, "PUT new", "BAD", "ADD new x", "BAD", "ADD new ", "BAD", "APP new", "BAD", "PUT \x7f 1", "BAD")
		untouched()
		says(t, s, "PUT n00 x", "OK", "ADD n01 1", "VALUE 2", "APP n63 y", "COUNT 3", "ADD n01 -1", "VALUE 1", "PUT n63 63", "OK", "ADD n02 x", "BAD")
		untouched()
		says(t, s, "DEL n00", "OK", "COUNT", "COUNT 63", "ADD new 7", "VALUE 7", "PUT n00 0", "FULL", "DEL new", "OK", "APP n00 0", "COUNT 1", "DEL n00", "OK", "PUT n00 0", "OK")
		untouched()
	}
}

// 21.1
func TestQuit(t *testing.T) {
	for _, x := range []struct{ data, want string }{
		{"QUIT\n", "BYE\n"}, {"QUIT\nQUIT\n", "BYE\n"}, {"QUIT\nPUT b 2\nDEL a\n", "BYE\n"}, {"QUIT\n\n", "BYE\n"}, {"QUIT\n" + of("x", 1000), "BYE\n"},
		{"COUNT\nQUIT\nCOUNT\n", "COUNT 1\nBYE\n"}, {"PUT a 1\nQUIT\nPUT a 2", "OK\nBYE\n"},
	} {
		s := app.New()
		says(t, s, "PUT a 1", "OK")
		over(t, s, false)
		takes(t, s, x.data, x.want)
		over(t, s, true)
		names(t, s, "a")
		for range 2 {
			for _, more := range []string{"", "\n", "COUNT\n", "PUT b 2\n", "QUIT\n", of("x", api.MaxBytes)} {
				refused(t, s, more, api.ErrEnd)
			}
		}
		names(t, s, "a")
		over(t, s, true)
	}
	s := app.New()
	for _, line := range []string{"QUIT ", " QUIT", "QUIT x", "quit", "Quit", "QUIT\r", "QUITQUIT", "QUI"} {
		says(t, s, line, "BAD")
		over(t, s, false)
	}
	takes(t, s, "QUIT", "")
	over(t, s, false)
	takes(t, s, "\n", "BYE\n")
	over(t, s, true)
}

// 21.1: lines that are none of those.
func TestBad(t *testing.T) {
	s := app.New()
	says(t, s, "PUT a 1", "OK")
	for _, line := range []string{
		"", " ", "  ", "\r", "\x00", "x", "PUT", "PUT ", "PUT  ", "PUT a", "PUT  a", "PUT  a 2", " PUT a 2", "put a 2", "Put a 2", "PUTa 2", "PUT\ta 2", "PUT\ta\t2", "PUT a\t2",
		"GET", "GET ", "GET  ", "GET  a", "GET a ", "GET a b", "GET a  ", " GET a", "get a", "GETa", "GET\ta", "GET a\r",
		"DEL", "DEL ", "DEL  a", "DEL a ", "DEL a b", " DEL a", "del a", "DELa",
		"LIST ", "LIST a", " LIST", "list", "LIST\r", "LISTS", "COUNT ", "COUNT a", "count", "COUNT\r", "COUNT\x00",
		"ADD", "ADD ", "ADD a", "ADD a ", "ADD  a 1", "ADD a  1", "ADD a 1 ", "ADD a b", "ADD 1 a", "add a 1", "ADD\ta 1",
		"APP", "APP ", "APP a", "APP  a 1", " APP a 1", "app a 1", "OK", "BAD", "VALUE 1", "\xff\xfe", "PUT \xff x", "ＰＵＴ a 2",
	} {
		says(t, s, line, "BAD", "GET a", "VALUE 1")
	}
	names(t, s, "a")
	over(t, s, false)
}
