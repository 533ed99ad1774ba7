package device

import "headstock/api"

// uart receives bytes, which wait in its queue, and sends some.
type uart struct{ state }

// maxSent is the greatest number of bytes sent that is told: all of its bits are 1.
const maxSent = 1<<31 - 1

func (u *uart) read(reg int) int {
	switch reg {
	case 0:
		return u.first()
	case 1:
		if len(u.Queue) > 0 {
			return 3
		}
		return 2
	case 3:
		return u.Sent
	}
	return u.state.read(reg)
}

// first takes the first byte out of the queue.
func (u *uart) first() int {
	if len(u.Queue) == 0 {
		return -1
	}
	n := u.Queue[0]
	u.Queue = u.Queue[1:]
	u.update()
	return n
}

func (u *uart) write(reg, n int) {
	switch reg {
	case 0:
		u.Sent = (u.Sent + 1) & maxSent
	case 2:
		u.keep(reg, n)
		u.update()
	}
}

func (u *uart) input(n int) {
	if len(u.Queue) < api.MaxQueue {
		u.Queue = append(u.Queue, n&255)
		u.update()
	}
}

func (u *uart) update() { u.Raised = u.enabled() && len(u.Queue) > 0 }
