package sock

import "sternpost/api"

// look is a look at the requests that wait: the tick at which it is, and what goes out by it.
type look struct {
	*Box
	now int
	out []api.Out
}

// turn is what a request comes to; false if it goes on waiting.
func (l *look) turn(w *wait) (d api.Done, ok bool) {
	switch w.Kind {
	case api.SListen:
		return l.listen(w.Port), true
	case api.SConnect:
		return l.connect(w)
	}
	switch s := l.find(w.FD).(type) {
	case listener:
		if w.Kind == api.SAccept {
			return l.accept(s)
		}
		return l.askAny(s, w), true
	case stream:
		return l.askStream(s, w)
	}
	return refused(api.ErrNone), true
}

func (l *look) askStream(s stream, w *wait) (d api.Done, ok bool) {
	switch w.Kind {
	case api.SRead:
		return l.read(s, w)
	case api.SWrite:
		return l.write(s, w)
	case api.SShut:
		return l.shut(s), true
	case api.SAbort:
		return l.abort(s, w.FD), true
	}
	return l.askAny(s, w), true
}

// askAny answers what may be asked of every socket.
func (l *look) askAny(s socket, w *wait) api.Done {
	switch w.Kind {
	case api.SClose:
		l.send(s.leave(l.table, l.now))
		l.sockets[w.FD] = nil
		return api.Done{}
	case api.SStat:
		return api.Done{N: s.state(l.table)}
	}
	return refused(api.ErrShape)
}

func (l *look) listen(port int) api.Done {
	fd, ok := l.free()
	if !ok {
		return refused(api.ErrFull)
	}
	if e := l.table.Listen(port); e != api.OK {
		return refused(e)
	}
	l.sockets[fd] = listener{port}
	return api.Done{FD: fd}
}

func (l *look) accept(s listener) (d api.Done, ok bool) {
	fd, ok := l.free()
	if !ok {
		return refused(api.ErrFull), true
	}
	number, ok := l.table.Accept(s.port)
	if !ok {
		return api.Done{}, false
	}
	l.sockets[fd] = stream{number}
	return api.Done{FD: fd}, true
}

func (l *look) connect(w *wait) (d api.Done, ok bool) {
	if w.opened == (stream{}) {
		if e := l.open(w); e != api.OK {
			return refused(e), true
		}
	}
	// Its number may have been given to another one by now.
	if l.sockets[w.at] != w.opened {
		return refused(api.ErrNone), true
	}
	switch state, e, _ := l.table.State(w.opened.number); state {
	case api.SynSent, api.SynRcvd:
		return api.Done{}, false
	case api.Closed:
		l.drop(w.opened, w.at)
		if e == api.OK {
			e = api.ErrState
		}
		return refused(e), true
	}
	return api.Done{FD: w.at}, true
}

// open opens the connection that is asked for.
func (l *look) open(w *wait) api.Code {
	fd, ok := l.free()
	if !ok {
		return api.ErrFull
	}
	number, out, e := l.table.Connect(w.IP, w.Port, l.now)
	if e != api.OK {
		return e
	}
	l.send(out)
	w.opened, w.at = stream{number}, fd
	l.sockets[fd] = w.opened
	return api.OK
}

func (l *look) read(s stream, w *wait) (d api.Done, ok bool) {
	if w.N < 1 {
		return refused(api.ErrRange), true
	}
	data, out, e := l.table.Read(s.number, w.N, l.now)
	if e != api.OK {
		return refused(e), true
	}
	l.send(out)
	return api.Done{N: len(data), Data: data}, data != ""
}

func (l *look) write(s stream, w *wait) (d api.Done, ok bool) {
	n, out, e := l.table.Write(s.number, w.Data, l.now)
	l.send(out)
	w.taken += n
	w.Data = w.Data[n:]
	if e != api.OK && e != api.ErrFull {
		return api.Done{Code: e, N: w.taken}, true
	}
	return api.Done{N: w.taken}, w.Data == ""
}

func (l *look) shut(s stream) api.Done {
	out, e := l.table.Close(s.number, l.now)
	l.send(out)
	return refused(e)
}

func (l *look) abort(s stream, fd int) api.Done {
	out, _ := l.table.Abort(s.number)
	l.send(out)
	l.drop(s, fd)
	return api.Done{}
}

// drop leaves a connection to itself, and its socket's number to others.
func (l *look) drop(s stream, fd int) {
	l.table.Drop(s.number)
	l.sockets[fd] = nil
}

func (l *look) send(out []api.Out) { l.out = append(l.out, out...) }

func refused(e api.Code) api.Done { return api.Done{Code: e} }
