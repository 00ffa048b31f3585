package script_test

import (
	"testing"

	"quorate/api"
	"quorate/script"
)

func TestConfigBounds(t *testing.T) {
	const least = -int(^uint(0)>>1) - 1
	for _, c := range []struct {
		name      string
		low, high int
		set       func(c *api.Config, v int)
	}{
		{"Window", 1, 8, func(c *api.Config, v int) { c.Window = v }},
		{"Base", 1, 8, func(c *api.Config, v int) { c.Base = v }},
		{"Step", 1, 8, func(c *api.Config, v int) { c.Step = v }},
		{"Cap", 2, 64, func(c *api.Config, v int) { c.Cap = v }}, // Base is 2
		{"Cap alone", 1, 64, func(c *api.Config, v int) { c.Cap, c.Base, c.Step = v, 1, 1 }},
		{"Room", 1, 20000, func(c *api.Config, v int) { c.Room = v }},
		{"Floor", 0, api.MaxCount, func(c *api.Config, v int) { c.Floor = v }},
		{"first vote", 0, 9, func(c *api.Config, v int) { c.Votes[0] = v }},
		{"last vote", 0, 9, func(c *api.Config, v int) { c.Votes[2] = v }},
		{"Nodes", 1, 16, func(c *api.Config, v int) {
			c.Nodes = v
			c.Votes = make([]int, max(0, min(v, 17)))
			if len(c.Votes) > 0 {
				c.Votes[0] = 1
			}
		}},
		{"number of votes", 3, 3, func(c *api.Config, v int) {
			c.Votes = append(make([]int, max(0, min(v, 40))), 1)[1:]
		}},
		{"Nodes for three votes", 3, 3, func(c *api.Config, v int) { c.Nodes = v }},
		{"only vote", 1, 9, func(c *api.Config, v int) { c.Votes = []int{0, v, 0} }},
	} {
		for _, v := range []int{least, -1, 0, 1, c.low - 1, c.low, c.low + 1, c.high - 1, c.high, c.high + 1, api.MaxCount + 1, -(least + 1)} {
			if v == c.low+1 && c.low == c.high {
				continue // told by high+1
			}
			config := config()
			c.set(&config, v)
			want := api.ErrConfig
			if c.low <= v && v <= c.high {
				want = api.OK
			}
			if e := script.CheckConfig(config); e != want {
				t.Errorf("S1: %s %d: CheckConfig = %d, want %d", c.name, v, e, want)
			}
		}
	}
}

func TestConfigOddOnes(t *testing.T) {
	for _, c := range []struct {
		config api.Config
		want   api.Errno
	}{
		{config(), api.OK},
		{api.Config{}, api.ErrConfig},
		{api.Config{Nodes: 1, Window: 1, Base: 1, Step: 1, Cap: 1, Room: 1, Votes: []int{1}}, api.OK},
		{api.Config{Nodes: 1, Window: 1, Base: 1, Step: 1, Cap: 1, Room: 1, Votes: []int{0}}, api.ErrConfig},
		{api.Config{Nodes: 1, Window: 1, Base: 1, Step: 1, Cap: 1, Room: 1}, api.ErrConfig},
		{api.Config{Nodes: 2, Window: 1, Base: 1, Step: 1, Cap: 1, Room: 1, Votes: []int{-1, 2}}, api.ErrConfig},
		{api.Config{Nodes: 2, Window: 1, Base: 1, Step: 1, Cap: 1, Room: 1, Votes: []int{10, 0}}, api.ErrConfig},
		{api.Config{Nodes: 2, Window: 8, Base: 64, Step: 64, Cap: 64, Room: 20000, Floor: api.MaxCount, Votes: []int{9, 9}}, api.OK},
		{api.Config{Nodes: 2, Window: 8, Base: 64, Step: 63, Cap: 63, Room: 20000, Votes: []int{9, 9}}, api.ErrConfig},
		{api.Config{Nodes: 2, Window: 8, Base: 63, Step: 64, Cap: 63, Room: 20000, Votes: []int{9, 9}}, api.ErrConfig},
	} {
		if e := script.CheckConfig(c.config); e != c.want {
			t.Errorf("S1: CheckConfig(%v) = %d, want %d", c.config, e, c.want)
		}
	}
}
