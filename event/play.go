package event

import (
	"slices"

	"sternpost/api"
	"sternpost/host"
)

// Play lets an event come to a host: the frames that come out.
func Play(h *host.Host, x api.Event) (out []string) {
	if h == nil || mayNot(x) {
		return nil
	}
	if x.Kind == api.ETick {
		_, out = h.Tick(x.Now)
	} else {
		_, out = h.Frame(x.Data, x.Now)
	}
	return out
}

// Replay is a new host on which events were played, and how many frames came out by each.
func Replay(s host.Setup, l []api.Event) (*host.Host, []int, api.Code) {
	h, e := host.New(s)
	if e != api.OK {
		return nil, nil, e
	}
	if slices.ContainsFunc(l, mayNot) {
		return nil, nil, api.ErrEvent
	}
	play := counter(h)
	counts := make([]int, len(l))
	for i, x := range l {
		counts[i] = play(x)
	}
	return h, counts, api.OK
}

// counter plays events on one host, and tells how many frames came out by each.
func counter(h *host.Host) func(api.Event) int {
	return func(x api.Event) int { return len(Play(h, x)) }
}

func mayNot(x api.Event) bool { return Check(x) != api.OK }
