package app_test

import (
	"strings"
	"testing"

	"sternpost/api"
	"sternpost/app"
)

// refused looks whether these bytes are refused.
func refused(t *testing.T, s *app.Session, data string, want api.Code) {
	t.Helper()
	if a, e := s.Take(data); a != "" || e != want {
		t.Errorf("Take of %d bytes: %q, %d, want error %d", len(data), a, e, want)
	}
}

// 21.1: what is refused changes nothing, in the midst of a line neither; of two errors the one named first is told.
func TestTakeRefused(t *testing.T) {
	long := of("COUNT\n", api.MaxBytes/6+1)
	if len(long) <= api.MaxBytes {
		t.Fatal(len(long))
	}
	s := app.New()
	refused(t, s, long, api.ErrLong)
	takes(t, s, "PUT a 1\nCOU", "OK\n")
	for _, data := range []string{long, of("x", api.MaxBytes+1), of("\n", api.MaxBytes+1), "QUIT\n" + long, of("x", 1<<20)} {
		refused(t, s, data, api.ErrLong)
	}
	over(t, s, false)
	takes(t, s, "NT\nGET a\n", "COUNT 1\nVALUE 1\n")
	takes(t, s, "QUIT\n", "BYE\n")
	refused(t, s, long, api.ErrLong)
	refused(t, s, long[:api.MaxBytes], api.ErrEnd)
	refused(t, s, "", api.ErrEnd)
}

// 21.1: as many bytes at a time as may be, and as many as one likes one after the other.
func TestTakeMuch(t *testing.T) {
	s := app.New()
	takes(t, s, of("\n", api.MaxBytes), of("BAD\n", api.MaxBytes))
	takes(t, s, of("x", api.MaxBytes), "")
	takes(t, s, "\n"+of("COUNT\n", (api.MaxBytes-1)/6), "BAD\n"+of("COUNT 0\n", (api.MaxBytes-1)/6))
	for range 40 {
		takes(t, s, of("x", api.MaxBytes), "")
	}
	takes(t, s, "\nCOUNT\n", "BAD\nCOUNT 0\n")
	s, all := full(t)
	takes(t, s, of("LIST\n", api.MaxBytes/5), of("LIST "+strings.Join(all, " ")+"\n", api.MaxBytes/5))
}

// long is a line of n bytes that puts a value.
func long(n int) string { return "PUT a " + of("v", n-len("PUT a ")) }

// 21.1: a line has at most 256 bytes.
func TestLongLines(t *testing.T) {
	s := app.New()
	says(t, s, long(mostLine-1), "OK", "GET a", "VALUE "+long(mostLine - 1)[6:], long(mostLine), "OK", "GET a", "VALUE "+long(mostLine)[6:])
	for _, n := range []int{mostLine + 1, mostLine + 2, 2 * mostLine, 2*mostLine + 1, 1 << 12, 1<<16 - 1} {
		says(t, s, "PUT a 1", "OK", long(n), "BAD", "GET a", "VALUE 1")
	}
	// None is cut to one that would be right, from no end.
	for _, line := range []string{"COUNT", "QUIT", "GET a", "DEL a", "LIST"} {
		says(t, s, line+of(" ", mostLine), "BAD", line+of("x", mostLine), "BAD", of(" ", mostLine)+line, "BAD", of("x", mostLine)+line, "BAD", of(line, mostLine), "BAD")
	}
	over(t, s, false)
	says(t, s, "GET a", "VALUE 1")
}

// 21.1: the answer to a line that is too long comes with its line feed, and what comes behind that is a line again.
func TestLongLinesInPieces(t *testing.T) {
	for _, first := range []int{0, 1, 100, mostLine - 1, mostLine, mostLine + 1, 1000} {
		for _, then := range []int{0, 1, 2, 100, mostLine, 1000} {
			line := long(2000)[:first+then]
			want := "BAD\n"
			if len(line) > len("PUT a") && len(line) <= mostLine {
				want = "OK\n"
			}
			s := app.New()
			takes(t, s, line[:first], "")
			takes(t, s, line[first:], "")
			f := s.Fork()
			takes(t, s, "", "")
			takes(t, s, "\nPUT b 2\nGE", want+"OK\n")
			takes(t, s, "T b\n", "VALUE 2\n")
			takes(t, f, "\n", want)
			says(t, f, "GET b", "NONE", "PUT b 2", "OK")
		}
	}
}

// 21.1
func TestPieces(t *testing.T) {
	s := app.New()
	takes(t, s, "P", "")
	takes(t, s, "UT", "")
	takes(t, s, " ", "")
	takes(t, s, "", "")
	takes(t, s, "a x", "")
	names(t, s)
	takes(t, s, "y\nG", "OK\n")
	names(t, s, "a")
	takes(t, s, "ET a\nQU", "VALUE xy\n")
	over(t, s, false)
	takes(t, s, "IT", "")
	over(t, s, false)
	takes(t, s, "\nGET a\n", "BYE\n")
	over(t, s, true)
}

// 21.1: a fork goes its own way, and so does the one it was made of.
func TestFork(t *testing.T) {
	s := app.New()
	takes(t, s, "PUT a 1\nPUT b 2\nADD a ", "OK\nOK\n")
	f, g := s.Fork(), s.Fork()
	takes(t, s, "5\nDEL b\n", "VALUE 6\nOK\n")
	takes(t, f, "7\nPUT c 3\nQUIT\n", "VALUE 8\nOK\nBYE\n")
	takes(t, g, "9\n", "VALUE 10\n")
	names(t, s, "a")
	names(t, f, "a", "b", "c")
	names(t, g, "a", "b")
	over(t, s, false)
	over(t, f, true)
	over(t, g, false)
	says(t, s, "GET a", "VALUE 6", "QUIT", "BYE")
	says(t, g, "GET a", "VALUE 10", "GET b", "VALUE 2", "GET c", "NONE")
	refused(t, f, "COUNT\n", api.ErrEnd)
	// One of a session that is over is over, too.
	h := f.Fork()
	over(t, h, true)
	names(t, h, "a", "b", "c")
	refused(t, h, "COUNT\n", api.ErrEnd)
}

// 21.1: bytes of a line that came in several pieces are each one's own, too.
func TestForkInALine(t *testing.T) {
	s := app.New()
	for i := range 100 {
		takes(t, s, "PUT a "+of("v", i), "")
		f, g := s.Fork(), s.Fork()
		takes(t, f, "f", "")
		takes(t, s, "s", "")
		takes(t, g, "g", "")
		h := f.Fork()
		takes(t, f, "F", "")
		takes(t, h, "H", "")
		for _, x := range []struct {
			s    *app.Session
			tail string
		}{{f, "fF"}, {s, "s"}, {g, "g"}, {h, "fH"}} {
			takes(t, x.s, "!\nGET a\n", "OK\nVALUE "+of("v", i)+x.tail+"!\n")
		}
	}
	// One of a line that is too long, too.
	takes(t, s, of("x", mostLine+1), "")
	f := s.Fork()
	takes(t, s, "\nCOUNT\n", "BAD\nCOUNT 1\n")
	takes(t, f, "x\nCOUNT\n", "BAD\nCOUNT 1\n")
}

// R4: a list that was told is the caller's own.
func TestMemory(t *testing.T) {
	s := app.New()
	says(t, s, "PUT a 1", "OK", "PUT b 2", "OK")
	l, m := s.Names(), s.Names()
	l[0], l[1] = "x", "y"
	if _ = append(l, "z"); m[0] != "a" || m[1] != "b" {
		t.Errorf("%q", m)
	}
	names(t, s, "a", "b")
	says(t, s, "LIST", "LIST a b", "GET a", "VALUE 1", "GET x", "NONE")
}

// 21.2
func TestAnswer(t *testing.T) {
	for _, x := range []struct {
		data, want string
		over       bool
	}{
		{"", "", false},
		{"COUNT", "", false},
		{"COUNT\n", "COUNT 0\n", false},
		{"QUIT", "", false},
		{"QUIT\n", "BYE\n", true},
		{"PUT a 1\nADD a 2\nGET a\nQUIT\n", "OK\nVALUE 3\nVALUE 3\nBYE\n", true},
		{"PUT a 1\nQUIT\nGET a\n", "OK\nBYE\n", true},
		{"PUT a 1\nGET a\nGET a", "OK\nVALUE 1\n", false},
		{"\nquit\n", "BAD\nBAD\n", false},
		{of("x", api.MaxBytes), "", false},
		{of("x", api.MaxBytes-1) + "\n", "BAD\n", false},
		{of("\n", api.MaxBytes-5) + "QUIT\n", of("BAD\n", api.MaxBytes-5) + "BYE\n", true},
		{"QUIT\n" + of("x", api.MaxBytes-5), "BYE\n", true},
		{of("x", api.MaxBytes+1), "", false},
		{"QUIT\n" + of("x", api.MaxBytes-4), "", false},
		{of("\n", api.MaxBytes+1), "", false},
	} {
		// Nothing of one call is left for the next one.
		for range 2 {
			if a, over := app.Answer(x.data); a != x.want || over != x.over {
				t.Errorf("Answer(%.40q): %.80q, %v, want %.80q, %v", x.data, a, over, x.want, x.over)
			}
		}
	}
}
