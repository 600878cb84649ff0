package preface_test

import (
	"bytes"
	"testing"

	"stickler/preface"
)

var whole = []byte{
	0x50, 0x52, 0x49, 0x20, 0x2a, 0x20, 0x48, 0x54, 0x54, 0x50, 0x2f, 0x32,
	0x2e, 0x30, 0x0d, 0x0a, 0x0d, 0x0a, 0x53, 0x4d, 0x0d, 0x0a, 0x0d, 0x0a,
}

func TestP111Text(t *testing.T) {
	b := preface.Text()
	if !bytes.Equal(b, whole) || preface.Size != 24 {
		t.Errorf("%q", b)
	}
	clear(b)
	if b := preface.Text(); !bytes.Equal(b, whole) {
		t.Errorf("%q", b)
	}
}

func TestP112Like(t *testing.T) {
	for n := range 25 {
		if k := preface.Like(whole[:n]); k != n {
			t.Errorf("Like of the first %d: %d", n, k)
		}
		if preface.Is(whole[:n]) != (n == 24) {
			t.Errorf("Is of the first %d", n)
		}
	}
	for i := range 24 {
		b := bytes.Clone(whole)
		b[i] ^= 1
		if k := preface.Like(b); k != i || preface.Is(b) {
			t.Errorf("with another byte at %d: %d, %v", i, k, preface.Is(b))
		}
		if k := preface.Like(b[:i+1]); k != i {
			t.Errorf("with another byte at the end, at %d: %d", i, k)
		}
	}
	if k := preface.Like([]byte("PRJ")); k != 2 {
		t.Error(k)
	}
	if k := preface.Like(nil); k != 0 || preface.Is(nil) {
		t.Error(k)
	}
}

func TestP112Longer(t *testing.T) {
	long := append(bytes.Clone(whole), whole...)
	for _, b := range [][]byte{long, long[:25], append(bytes.Clone(whole), 0)} {
		if k := preface.Like(b); k != 24 || preface.Is(b) {
			t.Errorf("Like(%q): %d, %v", b, k, preface.Is(b))
		}
	}
	if !bytes.Equal(long[:24], whole) {
		t.Error("what was handed in was changed")
	}
}
