package disk_test

import (
	"bytes"
	"math"
	"math/rand"
	"testing"

	"gimbal/api"
	"gimbal/disk"
)

func is(t *testing.T, d *disk.Disk, log, first, second string, dead bool) {
	t.Helper()
	s := d.Slots()
	if string(d.Log()) != log || string(s[0]) != first || string(s[1]) != second || d.Dead() != dead {
		t.Errorf("%x, %x, %v", d.Log(), s, d.Dead())
	}
}

func TestExample(t *testing.T) {
	d := disk.New()
	is(t, d, "", "", "", false)
	for i, c := range []struct{ got, want api.Errno }{
		{d.Append([]byte{1, 2}), api.OK}, {d.Slot(1, []byte{3, 4}), api.OK}, {d.Arm(1), api.OK}, {d.Slot(1, []byte{5, 6}), api.ErrDead}, {d.Append([]byte{7}), api.ErrDead},
	} {
		if c.got != c.want {
			t.Error(i, c.got)
		}
	}
	is(t, d, "\x01\x02", "", "\x05", true)
	if d.Revive() != api.OK || d.Trim(1) != api.OK || d.Append([]byte{8}) != api.OK {
		t.Error("after Revive")
	}
	is(t, d, "\x02\x08", "", "\x05", false)
	if d.Cut(1) != api.OK || d.Slot(2, []byte{1}) != api.ErrRange {
		t.Error("Cut, Slot")
	}
	is(t, d, "\x02", "", "\x05", false)
}

func TestTear(t *testing.T) { // P13.1, P13.2, P13.6
	for cut := range 6 {
		d := disk.New()
		d.Append([]byte("ab"))
		d.Slot(0, []byte("cd"))
		d.Arm(cut)
		if d.Append([]byte("xyz")) != api.ErrDead {
			t.Error(cut)
		}
		is(t, d, "ab"+"xyz"[:min(cut, 3)], "cd", "", true)
		d.Revive()
		d.Arm(cut)
		if d.Slot(0, []byte("uvw")) != api.ErrDead {
			t.Error(cut)
		}
		is(t, d, "ab"+"xyz"[:min(cut, 3)], "uvw"[:min(cut, 3)], "", true)
	}
	d := disk.New()
	if d.Arm(math.MaxInt) != api.OK || d.Append([]byte("ab")) != api.ErrDead {
		t.Error("it dies even if all is written")
	}
	is(t, d, "ab", "", "", true)
}

func TestDead(t *testing.T) { // P13.1, P13.2, P13.3
	d := disk.New()
	d.Append([]byte("ab"))
	d.Arm(0)
	d.Append([]byte("c"))
	for i, e := range []api.Errno{d.Append(nil), d.Append(make([]byte, 1<<21)), d.Slot(0, nil), d.Slot(5, nil), d.Trim(0), d.Trim(-1), d.Cut(9), d.Arm(1), d.Arm(-1)} {
		if e != api.ErrDead {
			t.Error(i, e)
		}
	}
	is(t, d, "ab", "", "", true)
	if d.Revive() != api.OK || d.Append([]byte("d")) != api.OK || d.Append([]byte("e")) != api.OK {
		t.Error("it is not armed any more")
	}
	is(t, d, "abde", "", "", false)
}

func TestErrors(t *testing.T) { // P13.1, P13.2, P13.3, P13.5
	d := disk.New()
	d.Append([]byte("abc"))
	d.Slot(1, []byte("d"))
	for i, c := range []struct{ got, want api.Errno }{
		{d.Append(make([]byte, 1<<20-2)), api.ErrLimit},
		{d.Slot(-1, nil), api.ErrRange}, {d.Slot(2, make([]byte, 65537)), api.ErrRange}, {d.Slot(math.MinInt, nil), api.ErrRange}, {d.Slot(1, make([]byte, 65537)), api.ErrLimit},
		{d.Trim(-1), api.ErrRange}, {d.Trim(4), api.ErrRange}, {d.Cut(-1), api.ErrRange}, {d.Cut(4), api.ErrRange}, {d.Cut(math.MaxInt), api.ErrRange},
		{d.Arm(-1), api.ErrArg}, {d.Arm(math.MinInt), api.ErrArg},
	} {
		if c.got != c.want {
			t.Error(i, c.got)
		}
	}
	is(t, d, "abc", "", "d", false)
	if d.Append([]byte("e")) != api.OK {
		t.Error("a refused Arm armed it")
	}
	if d.Append(make([]byte, 1<<20-4)) != api.OK || len(d.Log()) != 1<<20 || d.Append([]byte{1}) != api.ErrLimit || d.Append(nil) != api.OK {
		t.Error("up to the limit")
	}
	if d.Slot(0, make([]byte, 65536)) != api.OK || len(d.Slots()[0]) != 65536 {
		t.Error("up to the limit")
	}
	d.Arm(1)
	if d.Append([]byte{1}) != api.ErrLimit || d.Slot(2, nil) != api.ErrRange || d.Dead() {
		t.Error("what is refused does not tear")
	}
}

func TestTrimAndCutWhileArmed(t *testing.T) { // P13.3
	d := disk.New()
	d.Append([]byte("abcdef"))
	d.Arm(1)
	if d.Trim(2) != api.OK || d.Cut(3) != api.OK {
		t.Error("they do not tear")
	}
	is(t, d, "cde", "", "", false)
	if d.Append([]byte("xy")) != api.ErrDead {
		t.Error("it is still armed")
	}
	is(t, d, "cdex", "", "", true)
	d.Revive()
	if d.Trim(4) != api.OK || d.Cut(0) != api.OK || d.Arm(3) != api.OK || d.Arm(0) != api.OK || d.Append([]byte("z")) != api.ErrDead {
		t.Error("the last Arm counts")
	}
	is(t, d, "", "", "", true)
}

func TestNoDisk(t *testing.T) { // R1
	for _, d := range []*disk.Disk{nil, {}} {
		for i, e := range []api.Errno{d.Append(nil), d.Slot(7, nil), d.Trim(-1), d.Cut(-1), d.Arm(-1), d.Revive()} {
			if e != api.ErrNil {
				t.Error(i, e)
			}
		}
		s := d.Slots()
		if d.Log() != nil || s[0] != nil || s[1] != nil || d.Dead() {
			t.Error("nothing")
		}
	}
}

func TestOwnMemory(t *testing.T) { // P13.5
	d := disk.New()
	b := []byte("abc")
	d.Append(b)
	d.Slot(0, b)
	d.Slot(1, b)
	d.Arm(9)
	d.Append(b)
	clear(b)
	clear(d.Log())
	s := d.Slots()
	clear(s[0])
	clear(s[1])
	is(t, d, "abcabc", "abc", "abc", true)
}

func TestRandom(t *testing.T) { // P13.6
	r := rand.New(rand.NewSource(1))
	for range 300 {
		d := disk.New()
		var log []byte
		var slots [2][]byte
		for range 60 {
			b := make([]byte, r.Intn(9))
			r.Read(b)
			whole := b
			armed := r.Intn(4) == 0
			if armed {
				cut := r.Intn(10)
				d.Arm(cut)
				whole = b[:min(cut, len(b))]
			}
			want := api.OK
			if armed {
				want = api.ErrDead
			}
			n := r.Intn(len(log) + 1)
			switch r.Intn(4) {
			case 0:
				if d.Trim(n) != api.OK {
					t.Fatal(n)
				}
				log = log[n:]
			case 1:
				if d.Cut(n) != api.OK {
					t.Fatal(n)
				}
				log = log[:n]
			case 2:
				i := r.Intn(2)
				if d.Slot(i, b) != want {
					t.Fatal(i)
				}
				slots[i] = whole
			case 3:
				if d.Append(b) != want {
					t.Fatal(b)
				}
				log = append(log[:len(log):len(log)], whole...)
			}
			d.Revive()
			if s := d.Slots(); !bytes.Equal(d.Log(), log) || !bytes.Equal(s[0], slots[0]) || !bytes.Equal(s[1], slots[1]) {
				t.Fatalf("%x %x", d.Log(), log)
			}
		}
	}
}
