package store

import (
	"slices"
	"strings"

	"gemel/api"
	"gemel/wal"
)

// The letters with which names of files begin, ahead of a number's digits.
const (
	checkLetter   = "c"
	segmentLetter = "w" // of wal's segments, which have the same digits
)

// checkName tells the name of the checkpoint of a number; nothing, if none has that number.
func checkName(n int) string {
	digits, ok := strings.CutPrefix(wal.Name(n), segmentLetter)
	if !ok {
		return ""
	}
	return checkLetter + digits
}

// checkNumber tells the number of a checkpoint's name; 0, if it is none's.
func checkNumber(name string) int {
	digits, ok := strings.CutPrefix(name, checkLetter)
	if !ok {
		return 0
	}
	return wal.Number(segmentLetter + digits)
}

// checkpoints tells the numbers of all checkpoints, the least one first.
func (s *Store) checkpoints() []int {
	var out []int
	for _, name := range s.files.Names() { // in order, and so are numbers of as many digits
		if n := checkNumber(name); n > 0 {
			out = append(out, n)
		}
	}
	return out
}

// restore takes what the last right checkpoint holds, and tells its number; 1, if there is none. All others go.
func (s *Store) restore() (int, api.Errno) {
	taken := 0
	for _, n := range slices.Backward(s.checkpoints()) {
		if taken == 0 {
			b, e := s.files.Read(checkName(n))
			if e != api.OK {
				return 0, e
			}
			if t, ok := readCheck(s.groups, b); ok {
				s.take(t)
				taken = n
				continue
			}
		}
		if e := s.files.Drop(checkName(n)); e != api.OK {
			return 0, e
		}
	}
	return max(taken, 1), api.OK
}

// Check makes a checkpoint.
func (s *Store) Check() api.Errno {
	if e := s.Sync(); e != api.OK {
		return e
	}
	n := s.log.Next()
	if slices.Contains(s.checkpoints(), n) {
		return api.OK
	}
	if e := s.save(n); e != api.OK {
		return e
	}
	return s.forget(n)
}

// save writes the checkpoint of a number.
func (s *Store) save(n int) api.Errno {
	b := checkBytes(s.groups, Tx{Rows: s.all(), Notes: s.notes})
	// A log that somebody else laid may make more than a checkpoint may hold: the log must not go for one that is not right.
	if len(b) > api.MaxFile || !mayCount(s.count(), len(s.notes)) {
		return api.ErrRoom
	}
	name := checkName(n)
	if e := s.files.Make(name); e != api.OK {
		return e
	}
	e := s.files.Append(name, b)
	switch e {
	case api.OK:
		return s.files.Sync(name)
	case api.ErrRoom:
		if gone := s.files.Drop(name); gone != api.OK {
			return gone
		}
	}
	return e
}

// forget lets go what a checkpoint stands for: those ahead of it, and the log's first segments.
func (s *Store) forget(n int) api.Errno {
	for _, other := range s.checkpoints() {
		if other == n {
			continue
		}
		if e := s.files.Drop(checkName(other)); e != api.OK {
			return e
		}
	}
	return s.log.Retire(n)
}
