package config

import (
	"math"
	"slices"
	"testing"

	"bastion/api"
)

// number is one of a config's, with its limits.
type number struct {
	name        string
	of          func(c *api.Config) *int
	least, most int
}

func numbers() []number {
	return []number{
		{"Sectors", func(c *api.Config) *int { return &c.Sectors }, 3, 256},
		{"Halves", func(c *api.Config) *int { return &c.Halves }, 1, 8},
		{"Sessions", func(c *api.Config) *int { return &c.Sessions }, 1, 8},
		{"Addresses", func(c *api.Config) *int { return &c.Addresses }, 1, 16},
		{"Fails", func(c *api.Config) *int { return &c.Fails }, 1, 8},
		{"Lockout", func(c *api.Config) *int { return &c.Lockout }, 1, 65536},
		{"HalfLife", func(c *api.Config) *int { return &c.HalfLife }, 1, 65536},
		{"Idle", func(c *api.Config) *int { return &c.Idle }, 1, 65536},
		{"Absolute", func(c *api.Config) *int { return &c.Absolute }, 1, 65536},
		{"Quarantine", func(c *api.Config) *int { return &c.Quarantine }, 1, 65536},
		{"TicketLife", func(c *api.Config) *int { return &c.TicketLife }, 1, 65536},
		{"Keep", func(c *api.Config) *int { return &c.Keep }, 0, 4},
	}
}

// configs are one with each number at its least, one with each at its greatest, and one between.
func configs() []api.Config {
	var least, most, middle api.Config
	for _, n := range numbers() {
		*n.of(&least), *n.of(&most), *n.of(&middle) = n.least, n.most, (n.least+n.most)/2
	}
	return []api.Config{least, most, middle}
}

// May of each number at its edges, one beyond them, and far away; cut to fewer bits, some of these would be numbers that may be.
func TestMay(t *testing.T) {
	for _, c := range configs() {
		if !May(c) {
			t.Errorf("May(%v): no", c)
		}
		for _, n := range numbers() {
			far := []int{math.MinInt, math.MinInt + n.most, -1<<32 + n.most, -1 << 32, math.MinInt32, -api.MaxNum, -n.most, api.MaxNum, math.MaxInt32, 1<<32 + n.least, 1<<32 + n.most, math.MaxInt}
			near := []int{n.least - 2, n.least - 1, n.least, n.least + 1, n.most - 1, n.most, n.most + 1, n.most + 2}
			for _, x := range slices.Concat(near, far) {
				one := c
				*n.of(&one) = x
				if got, want := May(one), x >= n.least && x <= n.most; got != want {
					t.Errorf("May with %s %d: %v", n.name, x, got)
				}
			}
		}
	}
	if May(api.Config{}) {
		t.Errorf("May of zeros: yes")
	}
}

// May where two numbers are one beyond their limits.
func TestTwo(t *testing.T) {
	for _, c := range configs() {
		for k, one := range numbers() {
			for _, two := range numbers()[:k] {
				for _, x := range []int{one.least - 1, one.most + 1} {
					for _, y := range []int{two.least - 1, two.most + 1} {
						no := c
						*one.of(&no), *two.of(&no) = x, y
						if May(no) {
							t.Errorf("May with %s %d, %s %d: yes", one.name, x, two.name, y)
						}
					}
				}
			}
		}
	}
}
