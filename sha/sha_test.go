package sha_test

import (
	"bytes"
	"crypto/hmac"
	"crypto/sha256"
	"encoding/hex"
	"testing"

	"locket/sha"
)

func row(n int) []byte {
	b := make([]byte, n)
	for i := range b {
		b[i] = byte(i*i + 3*i + n)
	}
	return b
}

func mac(key, b []byte) sha.Sum {
	h := hmac.New(sha256.New, key)
	h.Write(b)
	return sha.Sum(h.Sum(nil))
}

func TestOf(t *testing.T) { // P301
	s := sha.Of()
	if hex.EncodeToString(s[:]) != "e3b0c44298fc1c149afbf4c8996fb92427ae41e4649b934ca495991b7852b855" {
		t.Errorf("of nothing: %x", s)
	}
	for n := range 300 {
		b := row(n)
		if sha.Of(b) != sha.Sum(sha256.Sum256(b)) || sha.Of(b[:n/3], nil, b[n/3:]) != sha.Of(b) {
			t.Errorf("%d bytes", n)
		}
	}
}

func TestMac(t *testing.T) { // P301
	for _, k := range []int{0, 1, 32, 63, 64, 65, 200} {
		for _, n := range []int{0, 1, 55, 64, 92, 130} {
			key, b := row(k), row(n)
			if sha.Mac(key, b) != mac(key, b) || sha.Mac(key, b[:n/2], b[n/2:]) != mac(key, b) {
				t.Errorf("key of %d, %d bytes", k, n)
			}
		}
	}
	if !sha.Equal(sha.Of(row(9)), sha.Of(row(9))) || sha.Equal(sha.Of(row(9)), sha.Of(row(8))) {
		t.Error("Equal")
	}
}

func TestDigest(t *testing.T) { // P302
	key := row(80)
	for _, keyed := range []bool{false, true} {
		want := func(b []byte) sha.Sum { return sha.Sum(sha256.Sum256(b)) }
		d := sha.New()
		if keyed {
			d = sha.Keyed(key)
			want = func(b []byte) sha.Sum { return mac(row(80), b) }
		}
		key[0] ^= 1 // what was handed in is not kept
		if d.Sum() != want(nil) {
			t.Error("of no bytes yet")
		}
		var all []byte
		for n := range 70 {
			if k, err := d.Write(row(n)); k != n || err != nil {
				t.Errorf("write: %d %v", k, err)
			}
			all = append(all, row(n)...)
			if d.Sum() != want(all) || d.Sum() != want(all) {
				t.Errorf("keyed %v: behind %d bytes", keyed, len(all))
			}
		}
		d.Reset()
		if d.Sum() != want(nil) {
			t.Error("reset")
		}
		d.Write([]byte("abc"))
		if d.Sum() != want([]byte("abc")) {
			t.Error("behind a reset")
		}
		key[0] ^= 1
	}
}

func TestKept(t *testing.T) { // P2
	b := row(100)[:64]
	keep := bytes.Clone(b[:100])
	sha.Of(b)
	sha.Mac(b, b)
	if !bytes.Equal(b[:100], keep) {
		t.Error("what was handed in is changed")
	}
}
