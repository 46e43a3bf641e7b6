package disk_test

import (
	"bytes"
	"testing"

	"hocket/api"
	"hocket/disk"
)

// asked is a disk whose slots lie in one room, with spare room behind each, and what the room was.
type asked struct {
	d         api.Disk
	room, was []byte
}

// ask lays a disk so: each slot into 64 bytes.
func ask(a, b []byte) *asked {
	x := &asked{room: bytes.Repeat([]byte{0x5a}, 128)}
	x.d.A = append(x.room[:0:64], a...)
	x.d.B = append(x.room[64:64:128], b...)
	x.was = bytes.Clone(x.room)
	return x
}

// stays tells if all that was handed in is what it was, with the room behind it.
func (x *asked) stays() bool { return bytes.Equal(x.room, x.was) }

// scribble turns all of l, and of the room behind it.
func scribble(l []byte) {
	room := l[:cap(l)]
	for i := range room {
		room[i] ^= 0x7f
	}
}

// 13.1, rule 3: what is handed in stays, and so does the room behind it, which does not count.
func TestHandedInStays(t *testing.T) {
	for _, a := range slots() {
		for _, b := range slots() {
			x := ask(a, b)
			was := told(x.d)
			got, ok := disk.Read(x.d)
			clean, is := disk.Read(api.Disk{A: a, B: b})
			if got != clean || ok != is {
				t.Errorf("%s is read as %v, %v, not %v, %v", was, got, ok, clean, is)
			}
			for _, cut := range []int{-1, 0, 6, 9, 100} {
				disk.Write(x.d, rec(1, 300, 8), cut)
				if !x.stays() || told(x.d) != was {
					t.Fatalf("cut at %d: %s, not %s", cut, told(x.d), was)
				}
			}
		}
	}
}

// 13.1, rule 3: a disk that is answered is new memory, each slot, and so is the room behind it: what is done to one is not seen in the other, in what was handed in, nor in one that was answered ahead.
func TestWriteIsNew(t *testing.T) {
	for _, a := range slots() {
		for _, b := range slots() {
			for _, cut := range []int{-1, 0, 6} {
				x := ask(a, b)
				one, two := disk.Write(x.d, rec(1, 300, 8), cut), disk.Write(x.d, rec(1, 300, 8), cut)
				was := told(two)
				scribble(one.A)
				if string(one.B) != string(two.B) {
					t.Fatalf("B is in A's memory: %s, not %s", told(one), was)
				}
				scribble(one.B)
				if !x.stays() || told(two) != was {
					t.Fatalf("%s, then %s", was, told(two))
				}
				clear(x.room)
				if told(two) != was {
					t.Fatalf("what was handed in is kept: %s, then %s", was, told(two))
				}
			}
		}
	}
}

// 13.1, rule 3: both slots may lie in the same memory; they do not in the answer.
func TestSlotsOfTheSameMemory(t *testing.T) {
	s := disk.Slot(7, rec(1, 2, 3))
	for _, d := range []api.Disk{{A: s, B: s}, {A: s, B: s[:5]}, {A: s[:5], B: s}, {A: s[:5], B: s[2:]}} {
		got, want := disk.Write(d, rec(4, 5, 6), -1), writeBySentence(d, rec(4, 5, 6), -1)
		if told(got) != told(want) {
			t.Errorf("%s, not %s", told(got), told(want))
		}
		scribble(got.A)
		scribble(got.B)
		if !bytes.Equal(s, slotBySentence(7, rec(1, 2, 3))) {
			t.Fatalf("changed to %x", s)
		}
	}
}

// 13.1, rule 3: a slot is new memory, and so is the room behind it.
func TestSlotIsNew(t *testing.T) {
	for _, n := range []int{-1, 0, 300, high} {
		one, two := disk.Slot(n, rec(n, 1, 2)), disk.Slot(n, rec(n, 1, 2))
		scribble(one)
		if !bytes.Equal(two, slotBySentence(n, rec(n, 1, 2))) {
			t.Errorf("%x", two)
		}
	}
}

// 13.1: what was not written of a slot is nowhere: not in the room behind it, either.
func TestCutIsNotBehind(t *testing.T) {
	r := rec(1<<20, 1<<30, high)
	whole := disk.Slot(1, r)
	for cut := range whole {
		got := disk.Write(api.Disk{A: bytes.Repeat([]byte{9}, 40)}, r, cut).A
		room := got[:cap(got)]
		if !bytes.Equal(got, whole[:cut]) || whole[cut] != 0 && bytes.HasPrefix(room, whole[:cut+1]) {
			t.Errorf("cut at %d: %x, and behind it %x", cut, got, room[cut:])
		}
	}
}

// 13.1, rule 6: the same is answered, whatever was asked ahead of it.
func TestNothingIsKept(t *testing.T) {
	for _, a := range slots() {
		for _, b := range slots() {
			d := api.Disk{A: a, B: b}
			r, ok := disk.Read(d)
			was := told(disk.Write(d, rec(1, 2, 3), 9))
			disk.Write(api.Disk{A: b, B: a}, rec(9, 9, 9), 2)
			disk.Read(api.Disk{A: b, B: a})
			disk.Slot(5, rec(6, 7, 8))
			if again, is := disk.Read(d); again != r || is != ok || told(disk.Write(d, rec(1, 2, 3), 9)) != was {
				t.Errorf("another answer of %s", told(d))
			}
		}
	}
}
