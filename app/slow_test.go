package app_test

import (
	"regexp"
	"slices"
	"strconv"
	"strings"
)

// pair is a name and its value.
type pair struct{ name, value string }

// slow is a session as the words say it, over whole lines: its pairs stand in a list, in their order.
type slow struct {
	pairs []pair
	over  bool
}

// row is one of the table of what is answered: what a line is like, and what is answered to one, by what stands in it for the name and for the value.
type row struct {
	form   *regexp.Regexp
	answer func(m *slow, name, value string) string
}

const (
	name  = `([!-~]{1,32})`
	text  = `((?s:.*))`
	whole = `(0|-?[1-9][0-9]{0,8})`
)

// form is a line of these words.
func form(words ...string) *regexp.Regexp {
	return regexp.MustCompile(`\A` + strings.Join(words, " ") + `\z`)
}

var rows = []row{
	{form("PUT", name, text), (*slow).put},
	{form("GET", name), func(m *slow, name, _ string) string {
		if i := m.find(name); i >= 0 {
			return "VALUE " + m.pairs[i].value
		}
		return "NONE"
	}},
	{form("DEL", name), func(m *slow, name, _ string) string {
		i := m.find(name)
		if i < 0 {
			return "NONE"
		}
		m.pairs = slices.Delete(m.pairs, i, i+1)
		return "OK"
	}},
	{form("LIST"), func(m *slow, _, _ string) (s string) {
		s = "LIST"
		for _, p := range m.pairs {
			s += " " + p.name
		}
		return s
	}},
	{form("COUNT"), func(m *slow, _, _ string) string { return "COUNT " + strconv.Itoa(len(m.pairs)) }},
	{form("ADD", name, whole), (*slow).add},
	{form("APP", name, text), (*slow).app},
	{form("QUIT"), func(m *slow, _, _ string) string {
		m.over = true
		return "BYE"
	}},
}

var wholeNumber = form(whole)

func (m *slow) find(name string) int {
	return slices.IndexFunc(m.pairs, func(p pair) bool { return p.name == name })
}

func (m *slow) value(name string) string {
	if i := m.find(name); i >= 0 {
		return m.pairs[i].value
	}
	return ""
}

func (m *slow) put(name, value string) string {
	if i := m.find(name); i >= 0 {
		m.pairs[i].value = value
		return "OK"
	}
	if len(m.pairs) == mostNames {
		return "FULL"
	}
	at := 0
	for at < len(m.pairs) && m.pairs[at].name < name {
		at++
	}
	m.pairs = slices.Insert(m.pairs, at, pair{name, value})
	return "OK"
}

func (m *slow) add(name, value string) string {
	sum := 0
	for _, s := range []string{m.value(name), value} {
		if wholeNumber.MatchString(s) {
			n, _ := strconv.Atoi(s)
			sum += n
		}
	}
	told := strconv.Itoa(sum)
	if len(strings.TrimPrefix(told, "-")) > 9 {
		return "BAD"
	}
	if m.put(name, told) == "FULL" {
		return "FULL"
	}
	return "VALUE " + told
}

func (m *slow) app(name, value string) string {
	value = m.value(name) + value
	if len(value) > mostGrown || m.put(name, value) == "FULL" {
		return "FULL"
	}
	return "COUNT " + strconv.Itoa(len(value))
}

func (m *slow) line(s string) string {
	if len(s) > mostLine {
		return "BAD"
	}
	for _, r := range rows {
		if w := r.form.FindStringSubmatch(s); w != nil {
			w = append(w, "", "")
			return r.answer(m, w[1], w[2])
		}
	}
	return "BAD"
}

// answers is what is answered to all these bytes, a line each.
func (m *slow) answers(all string) (l []string) {
	lines := strings.Split(all, "\n")
	for _, s := range lines[:len(lines)-1] {
		if !m.over {
			l = append(l, m.line(s)+"\n")
		}
	}
	return l
}

func (m *slow) names() (l []string) {
	for _, p := range m.pairs {
		l = append(l, p.name)
	}
	return l
}
