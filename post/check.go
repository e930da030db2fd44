package post

import (
	"cocket/api"
)

// isZero reports whether the net is one that New did not make.
func (t *Net) isZero() bool {
	return t == nil || len(t.stations) == 0
}

// checkPost returns the error of a function with a post of the net.
func (t *Net) checkPost(post int) api.Errno {
	if t.isZero() {
		return api.ErrNil
	}
	if !isWithin(post, 0, len(t.stations)-1) {
		return api.ErrArg
	}
	return api.OK
}

// checkMessage returns the error of a function with a message of the net.
func (t *Net) checkMessage(i int) api.Errno {
	if t.isZero() {
		return api.ErrNil
	}
	if !isWithin(i, 0, len(t.messages)-1) {
		return api.ErrRange
	}
	return api.OK
}

// check returns the error of calls that are to be explained.
func check(calls []api.Call) api.Errno {
	if len(calls) > api.MaxHistory {
		return api.ErrLimit
	}
	for i, call := range calls {
		if !isCall(call) {
			return api.ErrArg
		}
		for _, former := range calls[:i] {
			if isOverlap(former, call) {
				return api.ErrArg
			}
		}
	}
	return api.OK
}

func isCall(c api.Call) bool {
	return isWithin(c.Post, 0, api.MaxPosts-1) && isWithin(c.Value, 0, api.MaxValue) &&
		c.Start >= 0 && (c.End == pending || c.End > c.Start)
}

// isOverlap reports whether two calls, of which a is the former one in the list, are of one post and overlap.
func isOverlap(a, b api.Call) bool {
	if b.Start < a.Start {
		a, b = b, a
	}
	return a.Post == b.Post && hasEnded(a) && a.End >= b.Start
}

func isWithin(n, least, greatest int) bool {
	return n >= least && n <= greatest
}
