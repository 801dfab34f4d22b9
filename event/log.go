package event

import (
	"strings"

	"sternpost/api"
)

const mostEvents = 4 * api.MaxItems

// Log is events in the order in which they came; the first one has the number 1.
type Log struct{ events []api.Event }

// New is a log without events.
func New() *Log { return &Log{} }

// Add puts an event behind all others: its number.
func (l *Log) Add(x api.Event) (number int, e api.Code) {
	switch {
	case Check(x) != api.OK:
		return 0, api.ErrEvent
	case x.Now < l.Now():
		return 0, api.ErrRange
	case l.Len() == mostEvents:
		return 0, api.ErrLong
	}
	l.events = append(l.events, x)
	return l.Len(), api.OK
}

// Get is the event of a number.
func (l *Log) Get(number int) (api.Event, api.Code) {
	if number < 1 || number > l.Len() {
		return api.Event{}, api.ErrNone
	}
	return l.events[number-1], api.OK
}

// Len is how many events there are.
func (l *Log) Len() int { return len(l.events) }

// Now is the tick of the last event.
func (l *Log) Now() int {
	if l.Len() == 0 {
		return 0
	}
	return l.events[l.Len()-1].Now
}

// Bytes is events from a number on, as bytes, of which there are at most so many but for the first event's: and the number behind these events.
func (l *Log) Bytes(from, most int) (s string, next int) {
	from = max(from, 1)
	var all strings.Builder
	for next = from; next <= l.Len(); next++ {
		one := encode(l.events[next-1])
		if next > from && all.Len()+len(one) > most {
			break
		}
		all.WriteString(one)
	}
	return all.String(), next
}
