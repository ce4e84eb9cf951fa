package sum_test

import (
	"bytes"
	"hash/crc32"
	"hash/fnv"
	"math/rand"
	"sync"
	"testing"

	"gimbal/api"
	"gimbal/sum"
)

func TestChecksums(t *testing.T) { // P2.1
	if sum.Crc([]byte("123456789")) != 0xCBF43926 || sum.Crc(nil) != 0 {
		t.Error("Crc")
	}
	if sum.Fnv(nil) != 0xCBF29CE484222325 || sum.Fnv([]byte("a")) != 0xAF63DC4C8601EC8C {
		t.Error("Fnv")
	}
	r := rand.New(rand.NewSource(1))
	for range 500 {
		b := make([]byte, r.Intn(300))
		r.Read(b)
		h := fnv.New64a()
		h.Write(b)
		if sum.Crc(b) != crc32.ChecksumIEEE(b) || sum.Fnv(b) != h.Sum64() {
			t.Fatalf("%x", b)
		}
	}
}

func TestCrcFromManyAtOnce(t *testing.T) { // the table is filled once
	var all sync.WaitGroup
	for range 8 {
		all.Go(func() {
			if sum.Crc([]byte("123456789")) != 0xCBF43926 {
				t.Error("Crc")
			}
		})
	}
	all.Wait()
}

func TestSeal(t *testing.T) { // P2.1
	b, e := sum.Seal([]byte("123456789"))
	if string(b) != "123456789\x26\x39\xF4\xCB" || e != api.OK {
		t.Errorf("%x, %d", b, e)
	}
	b, e = sum.Seal(nil)
	if string(b) != "\x00\x00\x00\x00" || e != api.OK {
		t.Errorf("%x, %d", b, e)
	}
	b, e = sum.Seal(make([]byte, api.MaxFrame-4))
	if len(b) != api.MaxFrame || e != api.OK {
		t.Error(len(b), e)
	}
	if back, e := sum.Open(b); len(back) != api.MaxFrame-4 || e != api.OK {
		t.Error(len(back), e)
	}
	if b, e := sum.Seal(make([]byte, api.MaxFrame-3)); b != nil || e != api.ErrLimit {
		t.Error(len(b), e)
	}
}

func TestOpen(t *testing.T) { // P2.1
	for _, c := range []struct {
		b string
		e api.Errno
	}{
		{"\x00\x00\x00\x01", api.ErrSum}, {"\x00", api.ErrTrunc}, {"", api.ErrTrunc}, {"\x00\x00\x00", api.ErrTrunc},
		{"123456789\xCB\xF4\x39\x26", api.ErrSum}, {string(make([]byte, api.MaxFrame)), api.ErrSum}, {string(make([]byte, api.MaxFrame+1)), api.ErrLimit},
	} {
		if b, e := sum.Open([]byte(c.b)); b != nil || e != c.e {
			t.Errorf("%d bytes: %x, %d", len(c.b), b, e)
		}
	}
}

func TestFlippedBits(t *testing.T) { // P2.3
	r := rand.New(rand.NewSource(2))
	for range 5000 {
		b := make([]byte, r.Intn(40))
		r.Read(b)
		s, _ := sum.Seal(b)
		if back, e := sum.Open(s); !bytes.Equal(back, b) || e != api.OK {
			t.Fatal(b)
		}
		at, wide := r.Intn(8*len(s)), 1+r.Intn(32)
		flip := func(k int) {
			if k < 8*len(s) {
				s[k/8] ^= 1 << (k % 8)
			}
		}
		flip(at)
		for k := at + 1; k < at+wide; k++ {
			if r.Intn(2) == 0 {
				flip(k)
			}
		}
		if back, e := sum.Open(s); back != nil || e != api.ErrSum {
			t.Fatal("a flip was not seen", at, wide)
		}
	}
}

func TestFnvDiffers(t *testing.T) { // P2.4
	b := []byte("gimbal, a shop")
	seen := map[uint64]bool{sum.Fnv(b): true}
	for i := range b {
		for flip := 1; flip < 256; flip++ {
			b[i] ^= byte(flip)
			h := sum.Fnv(b)
			b[i] ^= byte(flip)
			if h == sum.Fnv(b) {
				t.Fatal(i, flip)
			}
			seen[h] = true
		}
	}
	if len(seen) != 1+255*len(b) {
		t.Error(len(seen))
	}
}

func TestZeroBytes(t *testing.T) { // P2.5
	crcs, fnvs := map[uint32]bool{}, map[uint64]bool{}
	const most = 2000
	for n := range most {
		crcs[sum.Crc(make([]byte, n))] = true
		fnvs[sum.Fnv(make([]byte, n))] = true
	}
	if len(crcs) != most || len(fnvs) != most {
		t.Error(len(crcs), len(fnvs))
	}
}

func TestOwnMemory(t *testing.T) { // P2.2
	room := append(make([]byte, 0, 32), "ab"...)
	s, _ := sum.Seal(room)
	if !bytes.Equal(room[:8], []byte("ab\x00\x00\x00\x00\x00\x00")) {
		t.Error("the room of an argument was written to")
	}
	s[0] = 'x'
	if room[0] != 'a' {
		t.Error("Seal shares memory")
	}
	s[0] = 'a'
	b, _ := sum.Open(s)
	b[0] = 'x'
	_ = append(b, "yyyy"...)
	if back, e := sum.Open(s); string(back) != "ab" || e != api.OK {
		t.Error("Open shares memory")
	}
}
