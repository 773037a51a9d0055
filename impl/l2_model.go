package impl

// MaxNodes is the largest number of nodes of a process.
const MaxNodes = 10

// MaxFlows is the largest number of flows of a process.
const MaxFlows = 14

// MaxWait is the largest time that a timer waits.
const MaxWait = 100

// MaxName is the largest number of a message.
const MaxName = 9

// NodeStart is the node with which a process begins.
const NodeStart = 0

// NodeEnd is a node with which a process ends.
const NodeEnd = 1

// NodeTask is a node at which somebody works.
const NodeTask = 2

// NodeTimer is a node that waits for some time.
const NodeTimer = 3

// NodeMessage is a node that waits for a message.
const NodeMessage = 4

// NodeChoice is a node that goes on in one of several ways.
const NodeChoice = 5

// NodeFork is a node that goes on in several ways at once.
const NodeFork = 6

// NodeMerge is a node at which several ways become one.
const NodeMerge = 7

// NodeJoin is a node that waits for all its ways.
const NodeJoin = 8

// Node is a node of a process.
type Node struct {
	Kind  int
	Value int
}

// Flow is a way from a node to another one.
type Flow struct {
	From int
	To   int
	When []Part
}

// Process is nodes with flows.
type Process struct {
	Nodes []Node
	Flows []Flow
}

// flowMaps are the numbers of the flows out of and into each node, ascending.
type flowMaps struct {
	out map[int][]int
	in  map[int][]int
}

// mapFlows returns the flows of each node, by the numbers that the flows give as their ends.
func mapFlows(flows []Flow) flowMaps {
	m := flowMaps{out: map[int][]int{}, in: map[int][]int{}}
	for i, f := range flows {
		m.out[f.From] = append(m.out[f.From], i)
		m.in[f.To] = append(m.in[f.To], i)
	}
	return m
}

// validFlow reports whether a flow has two nodes as its ends, and a condition only where it may have one.
func validFlow(nodes []Node, f Flow) bool {
	if !isNode(nodes, f.From) || !isNode(nodes, f.To) {
		return false
	}
	if len(f.When) == 0 {
		return true
	}
	return nodes[f.From].Kind == NodeChoice && ValidCondition(f.When)
}

// isNode reports whether there is a node with a number.
func isNode(nodes []Node, n int) bool {
	return 0 <= n && n < len(nodes)
}

// fitsValue reports whether a node has a Value that goes with its Kind.
func fitsValue(n Node) bool {
	switch n.Kind {
	case NodeTimer:
		return 1 <= n.Value && n.Value <= MaxWait
	case NodeMessage:
		return 0 <= n.Value && n.Value <= MaxName
	}
	return n.Value == 0
}

// fitsKind reports whether there is a kind, and a node of it may have so many flows into it and out of it.
func fitsKind(kind int, in int, out int) bool {
	switch kind {
	case NodeStart:
		return in == 0 && out == 1
	case NodeEnd:
		return in == 1 && out == 0
	case NodeTask, NodeTimer, NodeMessage:
		return in == 1 && out == 1
	case NodeChoice, NodeFork:
		return in == 1 && out >= 2
	case NodeMerge, NodeJoin:
		return in >= 2 && out == 1
	}
	return false
}

// ValidProcess reports whether a process is valid.
func ValidProcess(p Process) bool {
	if len(p.Nodes) < 2 || len(p.Nodes) > MaxNodes || len(p.Flows) > MaxFlows {
		return false
	}
	for _, f := range p.Flows {
		if !validFlow(p.Nodes, f) {
			return false
		}
	}
	m := mapFlows(p.Flows)
	starts := 0
	for i, n := range p.Nodes {
		if !fitsValue(n) || !fitsKind(n.Kind, len(m.in[i]), len(m.out[i])) {
			return false
		}
		if n.Kind == NodeStart {
			starts++
		}
	}
	return starts == 1
}

// FlowsOut returns the flows out of a node.
func FlowsOut(p Process, node int) []int {
	if !ValidProcess(p) {
		return nil
	}
	return mapFlows(p.Flows).out[node]
}

// FlowsIn returns the flows into a node.
func FlowsIn(p Process, node int) []int {
	if !ValidProcess(p) {
		return nil
	}
	return mapFlows(p.Flows).in[node]
}

// nodesBehind returns the nodes of a valid process to which one or more flows lead from a node.
func nodesBehind(p Process, node int) map[int]bool {
	out := mapFlows(p.Flows).out
	behind := map[int]bool{}
	queue := []int{node}
	for len(queue) > 0 {
		for _, f := range out[queue[0]] {
			to := p.Flows[f].To
			if !behind[to] {
				behind[to] = true
				queue = append(queue, to)
			}
		}
		queue = queue[1:]
	}
	return behind
}

// startOf returns the start of a valid process.
func startOf(p Process) int {
	for i, n := range p.Nodes {
		if n.Kind == NodeStart {
			return i
		}
	}
	return -1
}

// Reachable returns the nodes that a process reaches.
func Reachable(p Process) []int {
	if !ValidProcess(p) {
		return nil
	}
	start := startOf(p)
	behind := nodesBehind(p, start)
	var list []int
	for i := range p.Nodes {
		if i == start || behind[i] {
			list = append(list, i)
		}
	}
	return list
}

// HasCircle reports whether a process has a circle.
func HasCircle(p Process) bool {
	if !ValidProcess(p) {
		return false
	}
	for i := range p.Nodes {
		if nodesBehind(p, i)[i] {
			return true
		}
	}
	return false
}
