package fram_test

import (
	"bytes"
	"slices"
	"testing"

	"hocket/api"
	"hocket/fram"
)

// asked is a message whose lists lie in two rooms, with spare room behind each, and what these rooms were.
type asked struct {
	m             api.Msg
	room, roomWas []byte
	row, rowWas   []int
}

// ask lays m so: each list of bytes into 128 bytes, each of numbers into 32.
func ask(m api.Msg) *asked {
	a := &asked{m: m, room: bytes.Repeat([]byte{0x5a}, 4*128), row: slices.Repeat([]int{77}, 2*32)}
	c := &a.m.Entry.Cmd
	for i, x := range []*[]byte{&a.m.Data, &c.Key, &c.Val, &c.Old} {
		*x = append(a.room[128*i:128*i:128*(i+1)], *x...)
	}
	for i, l := range []*[]int{&a.m.Have, &a.m.Need} {
		*l = append(a.row[32*i:32*i:32*(i+1)], *l...)
	}
	a.roomWas, a.rowWas = bytes.Clone(a.room), slices.Clone(a.row)
	return a
}

// stays tells if all that was handed in is what it was, with the room behind it.
func (a *asked) stays() bool {
	return bytes.Equal(a.room, a.roomWas) && slices.Equal(a.row, a.rowWas)
}

// handed are messages of each kind, and such as are none, with all lists in them.
func handed() []*asked {
	var l []*asked
	for kind := range 11 {
		far := full(kind)
		far.View = -1
		l = append(l, ask(full(kind)), ask(far), ask(api.Msg{Kind: kind}))
	}
	return l
}

// scribble turns all of l, and of the room behind it.
func scribble[T byte | int](l []T) {
	room := l[:cap(l)]
	for i := range room {
		room[i] ^= 0x7f
	}
}

// 12.1, rule 3: a message that is handed in stays, and so does the room behind its lists.
func TestHandedInStays(t *testing.T) {
	for i, a := range handed() {
		was := told(a.m)
		fram.Wrap(a.m)
		if !a.stays() || told(a.m) != was {
			t.Errorf("%d: %s, not %s", i, told(a.m), was)
		}
	}
}

// 12.1, rule 3: a frame is new memory, and so is the room behind it; what is done later to the message is not seen in it.
func TestFrameIsNew(t *testing.T) {
	for i, a := range handed() {
		one, two := fram.Wrap(a.m), fram.Wrap(a.m)
		was := bytes.Clone(two)
		scribble(one)
		if !a.stays() || !bytes.Equal(two, was) || !bytes.Equal(fram.Wrap(a.m), was) {
			t.Errorf("%d: the frame is what was handed in, or answered ahead", i)
		}
		clear(a.room)
		clear(a.row)
		if !bytes.Equal(two, was) {
			t.Errorf("%d: %x, then %x", i, was, two)
		}
	}
}

// 12.1, rule 3: bytes that are handed in stay, be they a frame's or none's, and so does the room behind them, which does not count.
func TestBytesStay(t *testing.T) {
	for _, m := range well() {
		frame := fram.Wrap(m)
		for cut := range len(frame) + 1 {
			x := append(bytes.Clone(frame), 0x5a, 0x5a)
			was := bytes.Clone(x)
			if got, ok := fram.Open(x[:cut]); ok != (cut == len(frame)) || ok && told(got) != told(m) {
				t.Errorf("%d bytes of %x are opened as %s, %v", cut, x, told(got), ok)
			}
			if !bytes.Equal(x, was) {
				t.Errorf("%x was %x", x, was)
			}
		}
	}
}

// 12.1, rule 3: a message that is opened is in memory of its own, apart from the bytes and from one that was opened ahead.
func TestOpenIsNew(t *testing.T) {
	for _, m := range well() {
		x := fram.Wrap(m)
		was := bytes.Clone(x)
		first, _ := fram.Open(x)
		second, _ := fram.Open(x)
		for _, l := range [][]byte{second.Data, second.Entry.Cmd.Key, second.Entry.Cmd.Val, second.Entry.Cmd.Old} {
			scribble(l)
		}
		scribble(second.Have)
		scribble(second.Need)
		if !bytes.Equal(x, was) {
			t.Errorf("%x was %x", x, was)
		}
		clear(x)
		if told(first) != told(m) {
			t.Errorf("%s, not %s", told(first), told(m))
		}
	}
}
