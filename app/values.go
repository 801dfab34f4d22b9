package app

import (
	"strconv"
	"strings"
)

const (
	mostNames = 64
	mostGrown = 200 // bytes of a value behind which something was put
)

const (
	bad  = "BAD"
	done = "OK"
	full = "FULL"
	none = "NONE"
)

// value is what stands behind a name.
type value struct{ text string }

// number is the whole number that a value counts as.
func (v value) number() int {
	n, _ := number(v.text)
	return n
}

// answer does what a whole line says, and tells what is answered to it, without a line feed.
func (s *Session) answer(line string) string {
	c, ok := read(line)
	if !ok {
		return bad
	}
	switch c.verb {
	case "PUT":
		return s.keep(c.name, c.text, done)
	case "GET":
		return s.get(c.name)
	case "DEL":
		return s.drop(c.name)
	case "LIST":
		return strings.Join(append([]string{"LIST"}, s.Names()...), " ")
	case "COUNT":
		return counted(len(s.values))
	case "ADD":
		return s.add(c.name, c.text)
	case "APP":
		return s.grow(c.name, c.text)
	case "QUIT":
		s.over = true
		return "BYE"
	}
	return bad
}

// keep gives a name its value, and answers what is told of it, if there is room for that name.
func (s *Session) keep(name, text, told string) string {
	if _, there := s.values[name]; !there && len(s.values) >= mostNames {
		return full
	}
	s.values[name] = value{text}
	return told
}

func (s *Session) get(name string) string {
	v, there := s.values[name]
	if !there {
		return none
	}
	return valued(v.text)
}

func (s *Session) drop(name string) string {
	if _, there := s.values[name]; !there {
		return none
	}
	delete(s.values, name)
	return done
}

// add counts a number to a value. One that isn't there is as good as one that is nothing: no number.
func (s *Session) add(name, text string) string {
	n, ok := number(text)
	sum := s.values[name].number() + n
	if !ok || !isShort(sum) {
		return bad
	}
	told := strconv.Itoa(sum)
	return s.keep(name, told, valued(told))
}

// grow puts text behind a value.
func (s *Session) grow(name, text string) string {
	text = s.values[name].text + text
	if len(text) > mostGrown {
		return full
	}
	return s.keep(name, text, counted(len(text)))
}

func valued(text string) string { return "VALUE " + text }

func counted(n int) string { return "COUNT " + strconv.Itoa(n) }
