package post

import (
	"cocket/api"
)

func hasEnded(c api.Call) bool {
	return c.End != pending
}

// isEarlier reports whether call a ended before call b started.
func isEarlier(a, b api.Call) bool {
	return hasEnded(a) && a.End < b.Start
}

// isEarlierAtPost reports whether two calls of one post have ended, and a started first.
func isEarlierAtPost(a, b api.Call) bool {
	return a.Post == b.Post && hasEnded(a) && hasEnded(b) && a.Start < b.Start
}

// isRegular reports whether a read has a value that it may have.
func isRegular(calls []api.Call, read api.Call) bool {
	written := false
	for _, write := range calls {
		if !write.Write {
			continue
		}
		if write.Value == read.Value && write.Start <= read.End && !isCovered(calls, write, read) {
			return true
		}
		written = written || isEarlier(write, read)
	}
	return read.Value == 0 && !written
}

// isCovered reports whether a write lies between a write and a read.
func isCovered(calls []api.Call, write, read api.Call) bool {
	for _, between := range calls {
		if between.Write && isEarlier(write, between) && isEarlier(between, read) {
			return true
		}
	}
	return false
}
