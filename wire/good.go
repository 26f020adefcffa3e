package wire

import (
	"gemel/api"
	"gemel/change"
	"gemel/policy"
	"gemel/row"
	"gemel/vec"
)

// Good tells whether a message may be.
func Good(l []api.Group, m api.Msg) api.Errno {
	if e := policy.Good(l); e != api.OK {
		return e
	}
	has := partsOf(m.Kind)
	if !goodHead(m) || !goodChange(l, m, has.change) || !goodCounts(m, has.counts) || !goodTree(m) || !goodLeaf(l, m, has.leaf) {
		return api.ErrWire
	}
	return api.OK
}

// goodHead tells whether Kind and Site may be.
func goodHead(m api.Msg) bool {
	return Kind(m) != "" && (m.Site == api.SiteA || m.Site == api.SiteB)
}

// goodChange tells whether a message's change may be; without one it has to be zero.
func goodChange(l []api.Group, m api.Msg, has bool) bool {
	c := m.Change
	if has {
		return change.Good(l, c) == api.OK && c.Site == m.Site
	}
	return c.Site == 0 && c.Seq == 0 && c.Stamp == (api.Stamp{}) && c.Vec == (api.Vec{}) && len(c.Writes) == 0
}

// goodCounts tells whether Ack and Own may be; without them they have to be zero.
func goodCounts(m api.Msg, has bool) bool {
	most := 0
	if has {
		most = api.MaxSeq
	}
	return m.Ack >= 0 && m.Ack <= most && m.Own >= 0 && m.Own <= most
}

// goodTree tells whether the path and the digests may be: the shape of a kind without them says that there are none.
func goodTree(m api.Msg) bool {
	s := shapeOf(m.Kind)
	if len(m.Path) < s.least || len(m.Path) > s.most {
		return false
	}
	for _, n := range m.Path {
		if n < 0 || n >= branches {
			return false
		}
	}
	return len(m.Sums) == s.sums
}

// goodLeaf tells whether Rows, Know and Back may be; without them they have to be zero.
func goodLeaf(l []api.Group, m api.Msg, has bool) bool {
	if has {
		return vec.Good(m.Know) && len(m.Rows) <= api.MaxRows && isState(l, m.Rows)
	}
	return len(m.Rows) == 0 && m.Know == (api.Vec{}) && !m.Back
}

// isState tells whether rows are a state. It asks row itself, for model is none of the layers that wire calls.
func isState(l []api.Group, rows []api.Row) bool {
	for i, r := range rows {
		if row.Good(l, r) != api.OK || row.Bare(r) || i > 0 && r.Key <= rows[i-1].Key {
			return false
		}
	}
	return true
}
