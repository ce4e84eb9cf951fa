package store

import (
	"gimbal/api"
	"gimbal/bits"
	"gimbal/sum"
)

// noSlot stands for the checkpoint of Base 0, which is in no slot.
const noSlot = -1

// slotBytes returns the contents of a slot; a checkpoint is far smaller than one.
func slotBytes(base int, ckpt []byte) []byte {
	b, _ := sum.Seal(bits.Text(bits.Varint(nil, uint64(base)), ckpt))
	return b
}

// slotFor returns the slot for the checkpoint of base: the current one if it is there already, otherwise the other one.
func (s *Store) slotFor(base int) int {
	switch {
	case base == 0:
		return noSlot
	case base == s.kept.Base:
		return s.slot
	case s.slot == 0:
		return 1
	}
	return 0
}

// readSlot returns the checkpoint of base, if b is that of a good slot for it.
func readSlot(b []byte, base int) (ckpt []byte, is bool) {
	inner, e := sum.Open(b)
	if e != api.OK {
		return nil, false
	}
	r := bits.Read(inner)
	at, ckpt := r.Varint(), r.Text()
	if r.End() != api.OK || at != uint64(base) || !isCheckpoint(base, ckpt) {
		return nil, false
	}
	return ckpt, true
}

// load finds the checkpoint of the Base.
func (s *Store) load() bool {
	if s.kept.Base == 0 {
		return true
	}
	for i, b := range s.disk.Slots() {
		if ckpt, is := readSlot(b, s.kept.Base); is {
			s.kept.Ckpt, s.slot = ckpt, i
			return true
		}
	}
	return false
}
