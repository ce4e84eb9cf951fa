package store

import (
	"gimbal/api"
	"gimbal/entry"
	"gimbal/list"
)

// effects returns what the kinds of records do; each reports whether the record may follow those before it.
func effects() [api.LastRec + 1]func(*Store, api.Rec) bool {
	return [...]func(*Store, api.Rec) bool{
		api.RecView: (*Store).applyView,
		api.RecPut:  (*Store).applyPut,
		api.RecBase: (*Store).applyBase,
	}
}

// apply applies a valid record.
func (s *Store) apply(r api.Rec) bool {
	return effects()[r.Kind](s, r)
}

// replay applies the records of a journal; it reports whether all of them are valid.
func (s *Store) replay(records []api.Rec) bool {
	done := 0
journal:
	for _, r := range records {
		switch s.apply(r) {
		case true:
			done++
		case false:
			break journal
		}
	}
	return done == len(records)
}

func (s *Store) applyView(r api.Rec) bool {
	s.kept.View, s.kept.Last = r.View, r.Last
	return true
}

func (s *Store) applyPut(r api.Rec) bool {
	before := r.Op - s.kept.Base - 1
	if before < 0 || before > len(s.kept.Entries) || before >= maxEntries {
		return false
	}
	s.kept.Entries = append(s.kept.Entries[:before], entry.Copy(r.Entry))
	return true
}

func (s *Store) applyBase(r api.Rec) bool {
	s.kept.View, s.kept.Last, s.kept.Base = r.View, r.Last, r.Op
	s.kept.Entries = list.Copy(r.Entries, entry.Copy)
	return true
}
