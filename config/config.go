// Package config tells which configs there may be, for the layers that are handed one.
package config

import (
	"bastion/api"
)

// leastSectors hold both superblocks and one record.
const leastSectors = 3

// May tells whether there may be a server of c.
func May(c api.Config) bool {
	return within(c.Sectors, leastSectors, api.MaxSectors) &&
		within(c.Halves, 1, api.MaxHalves) &&
		within(c.Sessions, 1, api.MaxSessions) &&
		within(c.Addresses, 1, api.MaxAddresses) &&
		within(c.Fails, 1, api.MaxFails) &&
		areLives(c.Lockout, c.HalfLife, c.Idle, c.Absolute, c.Quarantine, c.TicketLife) &&
		within(c.Keep, 0, api.MaxKeep)
}

// areLives tells whether each of xs is a number of ticks that something may last.
func areLives(xs ...int) bool {
	for _, x := range xs {
		if !within(x, 1, api.MaxLife) {
			return false
		}
	}
	return true
}

// within tells whether x is from least to most.
func within(x, least, most int) bool {
	return x >= least && x <= most
}
