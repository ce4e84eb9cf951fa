package spec

import (
	"slices"

	"gimbal/api"
	"gimbal/entry"
	"gimbal/fold"
)

func top(m api.Image) int {
	return m.Base + len(m.Entries)
}

// open returns the state of the checkpoint of an image, if that can be adopted.
func open(m api.Image) (*fold.State, bool) {
	state, e := fold.Open(m.Ckpt)
	if e != api.OK || state.Op() != m.Base || len(m.Entries) > maxEntries {
		return nil, false
	}
	for _, x := range m.Entries {
		if entry.Check(x) != api.OK {
			return nil, false
		}
	}
	if m.Commit < max(m.Base, top(m)-api.MaxWindow) || m.Commit > top(m) || top(m) > api.MaxNumber {
		return nil, false
	}
	return state, true
}

// result returns the encoding of the state after the entries up to op, from the checkpoint on.
func (s *Spec) result(op int) []byte {
	state, _ := fold.Open(s.ckpt)
	l, _ := s.log.From(s.log.Base())
	for _, x := range l[:op-s.log.Base()] {
		state.Do(x)
	}
	return state.Bytes()
}

// contradicts reports whether an image lacks something that is committed, or has something else instead.
func (s *Spec) contradicts(m api.Image) bool {
	switch {
	case m.Commit < s.commit:
		return true
	case m.Base > s.commit:
		return false
	case s.log.Agree(m.Base, m.Entries) < s.commit:
		return true
	}
	return m.Base >= s.log.Base() && !slices.Equal(m.Ckpt, s.result(m.Base))
}

// Adopt makes the log that of an image, and returns from where on it is executed.
func (s *Spec) Adopt(m api.Image) (from int, e api.Errno) {
	if s.isNone() {
		return 0, api.ErrNil
	}
	state, is := open(m)
	if !is {
		return 0, api.ErrArg
	}
	if s.contradicts(m) {
		return 0, api.ErrState
	}
	if from = m.Base; from > s.commit {
		s.install(from, state)
		return from, s.follow(m)
	}
	if m.Base > s.log.Base() {
		s.trim(m.Base, m.Ckpt)
	}
	from = s.log.Agree(m.Base, m.Entries)
	if e := s.Rollback(from); e != api.OK {
		return 0, e
	}
	return from, s.follow(m)
}

// follow executes what an image has after the top. It commits as it goes: not all of that may fit into the window.
func (s *Spec) follow(m api.Image) api.Errno {
	for {
		if e := s.Commit(max(s.commit, min(m.Commit, s.log.Top()))); e != api.OK {
			return e
		}
		if s.log.Top() >= top(m) {
			return api.OK
		}
		if _, _, e := s.Exec(m.Entries[s.log.Top()-m.Base]); e != api.OK {
			return e
		}
	}
}
