package stack

import "weighbridge/api"

// nothing: what a client waits for that doesn't wait; no kind has this number.
const nothing = 0

// client: what it waits for, and what it was answered last.
type client struct {
	kind int
	at   int
	data string
	left []int // the sectors that a Sync still waits for

	got string
	err error
}

// answer a client: it waits no more.
func (c *client) answer(data string, err error) {
	*c = client{got: data, err: err}
}

func isClient(i int) bool { return i >= 0 && i < api.Clients }

// check what is asked.
func check(client, kind, at int, data string) error {
	if !isClient(client) || kind != api.Read && kind != api.Write && kind != api.Sync {
		return api.ErrShape
	}
	if at < 0 || at >= api.Sectors || kind == api.Sync && at != 0 {
		return api.ErrBound
	}
	if len(data) > api.MaxData || kind != api.Write && data != "" {
		return api.ErrBound
	}
	return nil
}
