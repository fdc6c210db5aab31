// Package count has numbers of what happened, which stop at api.MaxCount.
package count

import (
	"sync/atomic"

	"periscope/api"
)

// Count is 0 at first.
type Count struct {
	n atomic.Int64
}

// Add counts n more, up to api.MaxCount; a number below 0 counts nothing.
func (c *Count) Add(n int) {
	// No summand is above MaxCount, so that no sum wraps round.
	if c.n.Add(min(max(int64(n), 0), api.MaxCount)) > api.MaxCount {
		c.n.Store(api.MaxCount)
	}
}

// N is how many were counted.
func (c *Count) N() int {
	return int(c.n.Load())
}
