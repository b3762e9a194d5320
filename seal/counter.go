package seal

import (
	"math"

	"escutcheon/api"
)

const (
	// perCommit is how far a commit lies above the one ahead of it: the burns have their room in between.
	perCommit = api.MaxBurns + 1

	// maxCommit is the greatest number that a counter can say as its commit.
	maxCommit = math.MaxUint64 / perCommit
)

// Counter is one, once it is made: a zero one is as a nil one.
type Counter struct {
	made  bool
	value uint64
}

func NewCounter() *Counter {
	return &Counter{made: true}
}

func (c *Counter) isNone() bool {
	return c == nil || !c.made
}

func (c *Counter) Raise(n uint64) api.Errno {
	switch {
	case c.isNone():
		return api.ErrNil
	case n <= c.value:
		return api.ErrSeq
	}
	c.value = n
	return api.OK
}

func (c *Counter) Value() uint64 {
	if c.isNone() {
		return 0
	}
	return c.value
}

func (c *Counter) Copy() *Counter {
	if c.isNone() {
		return nil
	}
	return &Counter{made: true, value: c.value}
}

func (c *Counter) commit() uint64 {
	return c.value / perCommit
}

func (c *Counter) burns() uint64 {
	return c.value % perCommit
}
