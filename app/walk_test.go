package app_test

import (
	"slices"
	"strconv"
	"strings"
	"testing"

	"sternpost/api"
	"sternpost/app"
)

// dice are numbers that look as if they were thrown, and are the same each time.
type dice uint64

func (d *dice) upTo(n int) int {
	*d = *d*6364136223846793005 + 1442695040888963407
	return int(uint64(*d)>>33) % (n + 1)
}

func (d *dice) of(l ...string) string { return l[d.upTo(len(l)-1)] }

// rarely holds once in n times.
func (d *dice) rarely(n int) bool { return d.upTo(n-1) == 0 }

// bytes are any ones at all.
func (d *dice) bytes(n int) string {
	b := make([]byte, n)
	for i := range b {
		b[i] = byte(d.upTo(255))
	}
	return string(b)
}

// verb is mostly the first word of a line that there is.
func (d *dice) verb() string {
	if d.rarely(30) {
		return d.of("", "put", "QUIT", "HELP", "GETS", "\x00", "VALUE")
	}
	return d.of("PUT", "PUT", "PUT", "GET", "GET", "DEL", "LIST", "COUNT", "ADD", "ADD", "APP", "APP")
}

// name is one of so many names, or now and then none.
func (d *dice) name(names int) string {
	if d.rarely(30) {
		return d.of("", "é", "\x7f", "a\tb", of("n", mostName), of("n", mostName+1), of("~", 300))
	}
	return "k" + strconv.Itoa(d.upTo(names-1))
}

// value is a number, or a text, or what is neither, nor always fits.
func (d *dice) value() string {
	switch d.upTo(5) {
	case 0:
		return strconv.Itoa(d.upTo(20) - 10)
	case 1:
		return strconv.Itoa(d.upTo(1<<31-2) - 1<<30)
	case 2:
		return strconv.Itoa(999999999*(d.upTo(2)-1) + d.upTo(4) - 2)
	case 3:
		return d.of(noNumbers...)
	case 4:
		return of(d.of("v", " ", "\xff", "0"), d.upTo(260))
	}
	return strings.ReplaceAll(d.bytes(d.upTo(40)), "\n", "")
}

// line is mostly one that there is; its words may be parted in a wrong way, or there may be too many of them.
func (d *dice) line(names int) string {
	verb := d.verb()
	words := []string{verb}
	if !strings.Contains("LIST COUNT QUIT", verb) || d.rarely(20) {
		words = append(words, d.name(names))
	}
	if strings.Contains("PUT ADD APP", verb) || d.rarely(20) {
		words = append(words, d.value())
	}
	between := " "
	if d.rarely(30) {
		between = d.of("  ", "", "\t")
	}
	return strings.Join(words, between)
}

// talk is many lines, the last one of them not always whole; one of a hundred lines that end it is among them.
func (d *dice) talk(lines, names int) string {
	var s strings.Builder
	for range d.upTo(lines) {
		s.WriteString(d.line(names) + "\n")
		if d.rarely(100) {
			s.WriteString("QUIT\n")
		}
	}
	if d.rarely(2) {
		s.WriteString(d.line(names))
	}
	return s.String()
}

// kind is the first word of an answer.
func kind(answer string) string {
	word, _, _ := strings.Cut(strings.TrimSuffix(answer, "\n"), " ")
	return word
}

// 21.1, 21.2: many lines of all kinds, to few names and to more than there may be.
func TestWalks(t *testing.T) {
	came := map[string]int{}
	for seed := range 600 {
		d := dice(seed)
		data := d.talk(400, []int{1, 3, 20, 70, 200}[seed%5])
		data = data[:min(len(data), api.MaxBytes)]
		m := &slow{}
		want := m.answers(data)
		for _, a := range want {
			came[kind(a)]++
		}
		whole := strings.Join(want, "")
		if a, over := app.Answer(data); a != whole || over != m.over {
			t.Fatalf("seed %d: Answer: %q, %v, want %q, %v", seed, a, over, whole, m.over)
		}
		s := app.New()
		takes(t, s, data, whole)
		names(t, s, m.names()...)
		over(t, s, m.over)
		if t.Failed() {
			t.Fatalf("seed %d", seed)
		}
	}
	for _, word := range []string{"OK", "FULL", "NONE", "VALUE", "COUNT", "LIST", "BAD", "BYE"} {
		if came[word] < 200 {
			t.Errorf("%s: only %d times", word, came[word])
		}
	}
}

// 21.3: the pieces do not matter, of no byte neither; what is told grows as the bytes do, and never becomes another one.
func TestAnyPieces(t *testing.T) {
	for seed := range 300 {
		d := dice(2000 + seed)
		data := d.talk(60, 1+d.upTo(90))
		want, ends := app.Answer(data)
		s, told, at := app.New(), "", 0
		for at < len(data) && !s.Over() {
			n := min(d.upTo([]int{1, 2, 9, 600}[seed%4]), len(data)-at)
			twin := s.Fork()
			a, e := s.Take(data[at : at+n])
			if b, f := twin.Take(data[at : at+n]); e != api.OK || a != b || e != f || !slices.Equal(s.Names(), twin.Names()) || s.Over() != twin.Over() {
				t.Fatalf("seed %d: %q, %d, of a fork %q, %d", seed, a, e, b, f)
			}
			// What becomes of a fork must not be seen.
			twin.Take(d.talk(3, 90))
			at += n
			told += a
			if now, over := app.Answer(data[:at]); now != told || over != s.Over() || !strings.HasPrefix(want, now) {
				t.Fatalf("seed %d: of %d bytes %q, %v, but in pieces %q, %v", seed, at, now, over, told, s.Over())
			}
		}
		if told != want || s.Over() != ends {
			t.Errorf("seed %d: in pieces %q, %v, want %q, %v", seed, told, s.Over(), want, ends)
		}
	}
}

// 21.3: of each beginning of some bytes the answer is a beginning, too.
func TestAllBeginnings(t *testing.T) {
	data := "PUT a 1\nADD a 2\n" + long(mostLine) + "\n" + long(mostLine+1) + "\n\nLIST\nAPP b x\nCOUNT\nDEL a\nLIST\nQUIT\nGET b\n"
	want := "OK\nVALUE 3\nOK\nBAD\nBAD\nLIST a\nCOUNT 1\nCOUNT 2\nOK\nLIST b\nBYE\n"
	for n := range len(data) + 1 {
		a, over := app.Answer(data[:n])
		if lines := min(strings.Count(data[:n], "\n"), 11); strings.Count(a, "\n") != lines || !strings.HasPrefix(want, a) || over != (lines == 11) {
			t.Errorf("%d bytes: %q, %v", n, a, over)
		}
		s := app.New()
		first, _ := s.Take(data[:n])
		second, _ := s.Take(data[n:])
		if first != a || first+second != want || !s.Over() {
			t.Errorf("parted at %d: %q, %q", n, first, second)
		}
	}
}

// P1: no bytes break it off, and each line has one answer.
func TestAnyBytes(t *testing.T) {
	for seed := range 200 {
		d := dice(5000 + seed)
		s, m, all := app.New(), &slow{}, ""
		for range 20 {
			data := d.bytes(d.upTo(2000))
			if d.rarely(2) {
				data = strings.ReplaceAll(data, d.of("\x00", "\x10", "a", "\xff"), d.of("\nPUT ", " ", "\n", "\nADD a "))
			}
			all += data
			a, e := s.Take(data)
			if e != api.OK || !strings.HasSuffix("\n"+a, "\n") {
				t.Fatalf("seed %d: %q, %d", seed, a, e)
			}
			m = &slow{}
			if told := m.answers(all); len(told) != strings.Count(all, "\n") || !strings.HasSuffix(strings.Join(told, ""), a) {
				t.Fatalf("seed %d: %q, want the end of %q", seed, a, told)
			}
		}
		names(t, s, m.names()...)
		over(t, s, false)
	}
}
