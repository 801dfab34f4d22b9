package app

import (
	"strconv"
	"strings"
)

const (
	mostName   = 32 // bytes of a name
	mostNumber = 999999999
)

// command is a line as its words: which of them there are hangs on the first one.
type command struct{ verb, name, text string }

// read is the command that a line is, if it is one.
func read(line string) (c command, ok bool) {
	verb, rest, more := strings.Cut(line, " ")
	c = command{verb: verb, name: rest}
	switch verb {
	case "PUT", "APP", "ADD":
		// The text may be nothing, but the blank ahead of it may not be missing.
		c.name, c.text, ok = strings.Cut(rest, " ")
		if !ok {
			return c, false
		}
		fallthrough
	case "GET", "DEL":
		return c, isName(c.name)
	case "LIST", "COUNT", "QUIT":
		return c, !more
	}
	return c, false
}

func isName(word string) bool {
	if word == "" || len(word) > mostName {
		return false
	}
	// A byte that is none of ASCII is never a rune below 127, so runes tell as much as bytes.
	for _, r := range word {
		if r <= ' ' || r >= 127 {
			return false
		}
	}
	return true
}

// number is the whole number that a word is, if it is one: then it stands just as that number is written.
func number(word string) (n int, ok bool) {
	n, err := strconv.Atoi(word)
	if err != nil || !isShort(n) || strconv.Itoa(n) != word {
		return 0, false
	}
	return n, true
}

// isShort tells whether a number has no more digits than a whole number may have.
func isShort(n int) bool { return -mostNumber <= n && n <= mostNumber }
