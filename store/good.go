package store

import (
	"gemel/api"
	"gemel/policy"
	"gemel/row"
)

// Good tells whether a transaction may be.
func Good(l []api.Group, t Tx) error {
	if e := policy.Good(l); e != api.OK {
		return e
	}
	if f := fault(l, t); f != nil {
		return f
	}
	if len(t.Rows)+len(t.Notes) == 0 {
		return api.ErrArg
	}
	return nil
}

// fault tells the first of a transaction's rows and notes that may not be there, and why; nil, if there is none.
func fault(l []api.Group, t Tx) error {
	ahead := ""
	for i, r := range t.Rows {
		if e := goodRow(l, ahead, r); e != api.OK {
			return api.Fault{At: i, Err: e}
		}
		ahead = r.Key
	}
	ahead = ""
	for i, n := range t.Notes {
		if e := goodNote(ahead, n); e != api.OK {
			return api.Fault{At: len(t.Rows) + i, Err: e}
		}
		ahead = n.Name
	}
	return nil
}

// goodRow tells whether a row may stand behind the one of a key; behind none, if that is empty.
func goodRow(l []api.Group, ahead string, r api.Row) api.Errno {
	if e := row.Good(l, r); e != api.OK {
		return e
	}
	if r.Key <= ahead {
		return api.ErrArg
	}
	return api.OK
}

// goodNote tells whether a note may stand behind the one of a name; behind none, if that is empty.
func goodNote(ahead string, n api.Note) api.Errno {
	switch {
	case len(n.Name) > api.MaxFileName || n.Name <= ahead: // no empty name is above another one
		return api.ErrArg
	case len(n.Text) > api.MaxNote:
		return api.ErrLong
	}
	return api.OK
}

// number tells the number that an error of Good wraps.
func number(err error) api.Errno {
	switch e := err.(type) {
	case api.Fault:
		return e.Err
	case api.Errno:
		return e
	}
	return api.OK
}
