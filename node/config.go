package node

import (
	"chatelaine/api"
	"chatelaine/drift"
	"chatelaine/fault"
	"chatelaine/grid"
	"chatelaine/route"
	"chatelaine/steal"
)

// mostFold is after how many commands a node creates an image at the latest.
const mostFold = 32

// Config is the nodes and the subtrees, and how long everything lasts.
type Config struct {
	Grid           grid.Config
	Subs           []string
	Term, Every    int
	Rate           drift.Rate
	Lease          int
	Policy         steal.Policy
	Patience, Fold int
	Token, Counter uint64
}

// Check returns the first error of a configuration.
func (c Config) Check() error { return fault.Wrap(c.wrong(), "config") }

// wrong returns what Check wraps.
func (c Config) wrong() error {
	if c.Grid.Check() != api.OK {
		return fault.Of(api.ErrConfig)
	}
	if _, err := route.New(c.Subs...); err != nil {
		return err
	}
	if !c.inRange() {
		return fault.Of(api.ErrConfig)
	}
	return nil
}

// inRange reports whether all durations and numbers are within their limits.
func (c Config) inRange() bool {
	return upTo(c.Term, api.MaxTerm) && upTo(c.Every, c.Term) &&
		c.Rate.Check() == api.OK && c.Policy.Check() == api.OK &&
		upTo(c.Lease, api.MaxTerm) && upTo(c.Patience, api.MaxTerm) && upTo(c.Fold, mostFold)
}

// upTo reports whether n is 1 to most.
func upTo(n, most int) bool { return 1 <= n && n <= most }
