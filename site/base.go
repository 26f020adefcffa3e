package site

import (
	"math"

	"gemel/api"
	"gemel/apply"
	"gemel/capture"
	"gemel/frontier"
	"gemel/num"
	"gemel/resync"
	"gemel/store"
	"gemel/vec"
)

// The names of notes.
const (
	frontName = "front"
	lowName   = "low"
	ownPrefix = "o" // with which those of own changes begin
)

// base is a site's store, read as a site's. A site embeds it, and not the store as it is: then everybody could call Do past the site.
type base struct {
	store  *store.Store // nil of a Site that no call made
	groups []api.Group
	site   int
}

// isRight tells whether the notes are those that a site may have.
func (b *base) isRight() bool {
	f, frontRight := b.readFront()
	_, lowRight := b.readLow()
	changes, e := b.readOwn()
	mine, _ := b.counts()
	if !frontRight || !lowRight || e != api.OK || len(changes) != mine-f.Acked {
		return false
	}
	return len(changes) == 0 || changes[0].Seq == f.Acked+1 // they follow one another
}

// readFront tells the front of the note front, and whether it is one.
func (b *base) readFront() (frontier.Front, bool) {
	f := frontier.Front{Site: b.site}
	text := b.store.Note(frontName)
	if text == "" {
		return f, true
	}
	l, e := num.All([]byte(text))
	if e != api.OK || len(l) != 4 {
		return frontier.Front{}, false
	}
	f.Acked, f.Stable, f.Wait, f.Until = l[0], l[1], l[2], l[3]
	return f, frontier.Good(f)
}

// frontNote tells the note of a front.
func frontNote(f frontier.Front) api.Note {
	var b []byte
	for _, n := range [...]int{f.Acked, f.Stable, f.Wait, f.Until} {
		b = num.Put(b, n)
	}
	return api.Note{Name: frontName, Text: string(b)}
}

// readLow tells the counts of the note low, and whether it has some.
func (b *base) readLow() (api.Vec, bool) {
	text := b.store.Note(lowName)
	if text == "" {
		return api.Vec{}, true
	}
	low, size, e := vec.Get([]byte(text))
	return low, e == api.OK && size == len(text)
}

// lowNote tells the note of what was let go.
func lowNote(low api.Vec) api.Note {
	return api.Note{Name: lowName, Text: string(vec.Put(nil, low))}
}

// own tells the notes of own changes.
func (b *base) own() []api.Note {
	return b.store.Notes(ownPrefix)
}

// readOwn tells the changes of these notes.
func (b *base) readOwn() ([]api.Change, api.Errno) {
	return capture.Read(b.groups, b.site, b.own())
}

// front tells what both sites hold. Of what front, low and pending read Open has refused all that is not right.
func (b *base) front() frontier.Front {
	f, _ := b.readFront()
	return f
}

// low tells what was let go.
func (b *base) low() api.Vec {
	low, _ := b.readLow()
	return low
}

// pending tells the own changes that were not answered.
func (b *base) pending() []api.Change {
	changes, _ := b.readOwn()
	return changes
}

// rows tells all rows.
func (b *base) rows() []api.Row {
	return b.store.Scan("", "", math.MaxInt)
}

// know tells how many changes are known.
func (b *base) know() api.Vec {
	return apply.Know(b.store)
}

// counts tells how many changes are known of this site, and of the other one.
func (b *base) counts() (mine, theirs int) {
	know := b.know()
	return know[b.site-1], know[2-b.site]
}

// side tells what a resync has to know.
func (b *base) side() resync.Side {
	return resync.Side{Groups: b.groups, Site: b.site, Know: b.know(), Low: b.low(), Rows: b.rows()}
}

// do does one transaction.
func (b *base) do(rows []api.Row, notes ...api.Note) api.Errno {
	return b.store.Do(store.Tx{Rows: rows, Notes: notes})
}
