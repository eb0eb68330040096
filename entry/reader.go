package entry

import (
	"strings"

	"omnibus/api"
	"omnibus/msg"
	"omnibus/vec"
)

// cursor stands in a text, ahead of what is left of it.
type cursor struct{ left string }

// take is the next so many bytes, and false, if they are not all there.
func (c *cursor) take(size int) (string, bool) {
	if len(c.left) < size {
		return "", false
	}
	taken := c.left[:size]
	c.left = c.left[size:]
	return taken, true
}

// numbers puts the next ones, of so many bytes each, where they belong, and tells whether they were all there.
func (c *cursor) numbers(size int, to ...*int) bool {
	for _, n := range to {
		bytes, is := c.take(size)
		if !is {
			return false
		}
		*n = 0
		for k := range size {
			*n = *n<<8 | int(bytes[k])
		}
	}
	return true
}

// ahead is what stands next, so many bytes or what there is, and is not taken by that.
func (c *cursor) ahead(size int) string { return c.left[:min(size, len(c.left))] }

// rest is all that is left. A piece of the text would share its memory, and an answer is new memory.
func (c *cursor) rest() string { return strings.Clone(c.left) }

// reader takes an entry's parts, whose bytes its cursor takes.
type reader struct{ cursor }

// entry is the next one, which need not be right.
func (r *reader) entry() (api.Entry, api.Errno) {
	var e api.Entry
	if !r.head(&e) {
		return e, api.ErrShort
	}
	many := 0
	if !r.numbers(1, &many) {
		return e, api.ErrShort
	}
	// Each sender has one message at most.
	if many > api.MaxNodes {
		return e, api.ErrForm
	}
	for range many {
		m, fault := r.message()
		if fault != api.OK {
			return e, fault
		}
		e.Msgs = append(e.Msgs, m)
	}
	return e, api.OK
}

// head takes what stands ahead of the messages, and tells whether it was all there.
func (r *reader) head(e *api.Entry) bool {
	if !r.numbers(2, &e.Term, &e.Epoch, &e.Members) {
		return false
	}
	for range vec.Count(e.Members) {
		inc := 0
		if !r.numbers(2, &inc) {
			return false
		}
		e.Incs = append(e.Incs, inc)
	}
	return true
}

// message is the next one.
func (r *reader) message() (api.Message, api.Errno) {
	// Decode answers a copy of what stands behind, so it is handed no more than a message may have.
	bytes := r.ahead(api.MaxWhole)
	m, behind, fault := msg.Decode(bytes)
	r.take(len(bytes) - len(behind))
	return m, fault
}
