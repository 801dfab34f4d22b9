package sock

import (
	"sternpost/api"
	"sternpost/table"
)

// socket is what a number stands for. The two calls are those that may be asked of any.
type socket interface {
	state(t *table.Table) int
	leave(t *table.Table, now int) []api.Out
}

// listener is the socket of a port at which connections come in.
type listener struct{ port int }

func (l listener) state(*table.Table) int { return api.Listen }

func (l listener) leave(t *table.Table, _ int) []api.Out {
	t.Silence(l.port)
	return nil
}

// stream is the socket of a connection. The table gives no number twice, so two of them are the same just if these are.
type stream struct{ number int }

func (s stream) state(t *table.Table) int {
	state, _, _ := t.State(s.number)
	return state
}

// leave does not mind whether it may be closed: it is closed already where it may not.
func (s stream) leave(t *table.Table, now int) []api.Out {
	out, _ := t.Close(s.number, now)
	t.Drop(s.number)
	return out
}
