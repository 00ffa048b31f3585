package world

import (
	"sync"

	"quorate/api"
	"quorate/node"
)

// runner is a node that is up, at work on a goroutine of its own.
type runner struct {
	inputs  chan []api.Input
	outputs chan []api.Output
}

// run starts a node's goroutine. It ends when the inputs do.
func run(n *node.Node, all *sync.WaitGroup) *runner {
	r := &runner{inputs: make(chan []api.Input), outputs: make(chan []api.Output)}
	all.Add(1)
	go func() {
		defer all.Done()
		for steps := range r.inputs {
			r.outputs <- makeSteps(n, steps)
		}
	}()
	return r
}

// makeSteps lets a node make steps one behind the other.
func makeSteps(n *node.Node, steps []api.Input) []api.Output {
	made := make([]api.Output, len(steps))
	for i, in := range steps {
		made[i] = n.Step(in)
	}
	return made
}

// makeStep lets the node make one step.
func (r *runner) makeStep(in api.Input) api.Output {
	r.inputs <- []api.Input{in}
	made := <-r.outputs
	return made[0]
}

// stop lets the goroutine end.
func (r *runner) stop() { close(r.inputs) }
