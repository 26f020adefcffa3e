package capture_test

import (
	"slices"
	"testing"

	"gemel/api"
	"gemel/capture"
	"gemel/probe"
)

// writesOf tells the writes of changes.
func writesOf(cs []api.Change) [][]api.Write {
	var out [][]api.Write
	for _, c := range cs {
		out = append(out, c.Writes)
	}
	return out
}

// deep tells changes with writes of their own.
func deep(cs []api.Change) []api.Change {
	out := slices.Clone(cs)
	for i, c := range out {
		out[i].Writes = slices.Clone(c.Writes)
	}
	return out
}

// roomyChanges tells changes that have spare room behind them, and behind the writes of each, and all memory of both.
func roomyChanges(cs []api.Change, spare api.Change) (part, whole []api.Change, writes [][]api.Write) {
	all := slices.Clone(cs)
	for i, c := range all {
		roomy, memory := probe.Roomy(c.Writes, api.Write{Key: "k", Group: 0, Value: "spare"})
		all[i].Writes = roomy
		writes = append(writes, memory)
	}
	part, whole = probe.Roomy(all, spare)
	return part, whole, writes
}

func TestChangesLeft(t *testing.T) { // rules 4 and 8: what Own and From are given
	for _, l := range probe.Schemas() {
		cs := slices.Concat(probe.Changes(l), []api.Change{{Site: 1, Seq: 2}, {Site: 2, Seq: 3, Writes: []api.Write{}}})
		for _, spare := range []api.Change{{}, {Site: 1, Seq: 3}, {Site: 2, Seq: api.MaxSeq}} {
			part, whole, writes := roomyChanges(cs, spare)
			before, writesBefore := slices.Clone(whole), slices.Clone(writes)
			for i, l := range writes {
				writesBefore[i] = slices.Clone(l)
			}
			calls := []func([]api.Change) []api.Change{
				func(cs []api.Change) []api.Change { return capture.Own(1, cs) },
				func(cs []api.Change) []api.Change { return capture.Own(2, cs) },
				func(cs []api.Change) []api.Change { return capture.From(cs, 0, 100) },
				func(cs []api.Change) []api.Change { return capture.From(cs, 1, 3) },
			}
			var got, want [][]api.Change
			for _, call := range calls {
				want = append(want, deep(call(deep(cs))))
				got = append(got, call(part), call(part))
			}
			if !slices.EqualFunc(whole, before, same) || !slices.EqualFunc(writes, writesBefore, slices.Equal[[]api.Write]) {
				t.Fatalf("the memory of %v was changed", cs)
			}
			lists, allWrites := append(slices.Clone(got), whole), slices.Clone(writes)
			for _, told := range got {
				allWrites = append(allWrites, writesOf(told)...)
			}
			if !probe.Apart(lists...) || !probe.Apart(allWrites...) {
				t.Fatalf("lists handed out or in share memory, of %v", cs)
			}
			clear(whole)
			for _, l := range writes {
				clear(l)
			}
			for i, told := range got {
				if !slices.EqualFunc(told, want[i/2], same) {
					t.Fatalf("changes that were told of %v have become %v", cs, told)
				}
			}
		}
	}
}

func TestNoteLeaves(t *testing.T) { // rules 4 and 8
	for _, l := range probe.Schemas() {
		for _, c := range slices.Concat(probe.Changes(l), probe.NoChanges(l)) {
			for _, spare := range []api.Write{{}, {Key: "\xff\xff\xff", Value: "spare"}} {
				groups, allGroups := probe.Roomy(l, api.Group{Name: "spare", Policy: 1})
				in := c
				writes, allWrites := probe.Roomy(c.Writes, spare)
				in.Writes = writes
				groupsBefore, writesBefore := slices.Clone(allGroups), slices.Clone(allWrites)
				want, wantE := capture.Note(l, c)
				n, e := capture.Note(groups, in)
				if n != want || e != wantE || !slices.Equal(allGroups, groupsBefore) || !slices.Equal(allWrites, writesBefore) {
					t.Fatalf("Note(%v) = %q, %d, its memory %v", c, n, int(e), allWrites)
				}
				clear(allWrites)
				if n != want {
					t.Fatalf("a note that was told has become %q", n)
				}
			}
		}
	}
}

func TestNotesLeft(t *testing.T) { // rules 4 and 8: what Read and Trim are given
	for _, l := range probe.Schemas() {
		cs := following(l, 1, 5, 4)
		next := noteOf(l, following(l, 1, 9, 1)[0])
		for _, in := range [][]api.Note{notesOf(l, cs), {noteOf(l, cs[0]), noteOf(l, cs[2])}, nil} {
			for _, spare := range []api.Note{{}, {Name: "o0000000000001"}, next} {
				groups, allGroups := probe.Roomy(l, api.Group{Name: "spare", Policy: 1})
				notes, allNotes := probe.Roomy(in, spare)
				groupsBefore, notesBefore := slices.Clone(allGroups), slices.Clone(allNotes)
				want, wantE := capture.Read(l, 1, slices.Clip(slices.Clone(in)))
				read, e := capture.Read(groups, 1, notes)
				again, _ := capture.Read(groups, 1, notes)
				trimmed, trimmedAgain := capture.Trim(notes, 7), capture.Trim(notes, 7)
				if e != wantE || !slices.EqualFunc(read, want, same) || !slices.Equal(allGroups, groupsBefore) || !slices.Equal(allNotes, notesBefore) {
					t.Fatalf("Read(%q) = %v, %d, its memory %q", in, read, int(e), allNotes)
				}
				if !probe.Apart(allNotes, trimmed, trimmedAgain) || !probe.Apart(read, again) || !probe.Apart(append(writesOf(read), writesOf(again)...)...) {
					t.Fatalf("lists handed out or in share memory, of %q", in)
				}
				clear(allNotes)
				wantTrimmed := capture.Trim(slices.Clip(slices.Clone(in)), 7)
				if !slices.EqualFunc(read, want, same) || !slices.Equal(trimmed, wantTrimmed) {
					t.Fatalf("what was told of %q has become %v, %q", in, read, trimmed)
				}
			}
		}
	}
}
