package probe

import (
	"slices"

	"gemel/api"
)

// NoSchema is groups that are no schema, with what policy says of them.
type NoSchema struct {
	Groups []api.Group
	Err    api.Errno
}

// Schemas tells some of 1 to MaxGroups groups; the third one is that of the chapters, a=last,b=delete.
func Schemas() [][]api.Group {
	const last, del = api.LastWins, api.DeleteWins
	return [][]api.Group{
		{{Name: "a", Policy: last}},
		{{Name: "b", Policy: del}},
		{{Name: "a", Policy: last}, {Name: "b", Policy: del}},
		{{Name: "b", Policy: del}, {Name: "a", Policy: last}},
		{{Name: "a", Policy: last}, {Name: "b", Policy: del}, {Name: "c", Policy: last}},
		{{Name: "a", Policy: del}, {Name: "b", Policy: last}, {Name: "c", Policy: last}, {Name: "d", Policy: del}},
		{{Name: "name", Policy: last}, {Name: "tags", Policy: last}, {Name: "abcdefghijkl", Policy: last}, {Name: "z", Policy: last}},
	}
}

// NoSchemas tells groups that are none, for each of policy's errors.
func NoSchemas() []NoSchema {
	const last, del = api.LastWins, api.DeleteWins
	return []NoSchema{
		{nil, api.ErrArg},
		{[]api.Group{}, api.ErrArg},
		{[]api.Group{{Name: "a", Policy: last}, {Name: "b", Policy: del}, {Name: "c", Policy: last}, {Name: "d", Policy: del}, {Name: "e", Policy: last}}, api.ErrLong},
		{slices.Repeat([]api.Group{{Name: "a", Policy: last}}, 100), api.ErrLong},
		{[]api.Group{{Name: "a", Policy: 3}}, api.ErrArg},
		{[]api.Group{{Name: "a", Policy: last}, {Name: "b"}}, api.ErrArg},
		{[]api.Group{{Name: "A", Policy: last}, {Name: "b", Policy: del}}, api.ErrArg},
		{[]api.Group{{Name: "a", Policy: last}, {Name: "a", Policy: del}}, api.ErrGroup},
	}
}
