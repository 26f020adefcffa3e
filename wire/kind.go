package wire

import "gemel/api"

const (
	longest  = 2  // numbers of a path
	branches = 16 // a path's numbers are below it
)

// shape is the name of a kind, and how few and how many numbers and how many digests its messages have.
type shape struct {
	name        string
	least, most int // numbers of the path
	sums        int
}

// shapes are those of the kinds, by their numbers; what is no kind's has no name.
var shapes = [...]shape{
	api.MsgData: {name: "data"},
	api.MsgAck:  {name: "ack"},
	api.MsgAsk:  {name: "ask", most: longest, sums: 1},
	api.MsgTell: {name: "tell", most: longest - 1, sums: branches},
	api.MsgLeaf: {name: "leaf", least: longest, most: longest},
}

// shapeOf tells a kind's shape; that of no kind is the zero one.
func shapeOf(kind int) shape {
	if kind < 0 || kind >= len(shapes) {
		return shape{}
	}
	return shapes[kind]
}

// parts says which parts a kind's messages have behind Kind and Site, but for the digests, whose number the shape says.
type parts struct {
	change bool
	counts bool // Ack, Own
	path   bool
	leaf   bool // Know, Back, Rows
}

// partsOf tells which parts a kind's messages have.
func partsOf(kind int) parts {
	var p parts
	switch kind {
	case api.MsgData:
		p.change = true
	case api.MsgAck:
		p.counts = true
	case api.MsgLeaf:
		p.leaf = true
		fallthrough
	case api.MsgAsk, api.MsgTell:
		p.path = true
	}
	return p
}

// Kind tells the name of a message's kind.
func Kind(m api.Msg) string {
	return shapeOf(m.Kind).name
}
