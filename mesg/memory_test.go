package mesg_test

import (
	"bytes"
	"slices"
	"testing"

	"hocket/api"
	"hocket/mesg"
)

// asked is a message whose lists lie in two rooms, with spare room behind each, and what these rooms were.
type asked struct {
	m             api.Msg
	room, roomWas []byte
	row, rowWas   []int
	at, rowAt     int
}

// place and placeRow lay a list into its room, with spare room behind it.
func (a *asked) place(x []byte) []byte {
	a.at += 128
	return append(a.room[a.at-128:a.at-128:a.at], x...)
}

func (a *asked) placeRow(l []int) []int {
	a.rowAt += 32
	return append(a.row[a.rowAt-32:a.rowAt-32:a.rowAt], l...)
}

// ask lays m so.
func ask(m api.Msg) *asked {
	a := &asked{room: bytes.Repeat([]byte{0x5a}, 4*128), row: slices.Repeat([]int{77}, 2*32), m: m}
	a.m.Data, a.m.Have, a.m.Need = a.place(m.Data), a.placeRow(m.Have), a.placeRow(m.Need)
	c := &a.m.Entry.Cmd
	c.Key, c.Val, c.Old = a.place(c.Key), a.place(c.Val), a.place(c.Old)
	a.roomWas, a.rowWas = bytes.Clone(a.room), slices.Clone(a.row)
	return a
}

// stays tells if all that was handed in is what it was, with the room behind it.
func (a *asked) stays() bool {
	return bytes.Equal(a.room, a.roomWas) && slices.Equal(a.row, a.rowWas)
}

// handed are messages of each kind, and such as are none, with all lists in them.
func handed() []*asked {
	var l []*asked
	for kind := range 11 {
		far := full(kind)
		far.View = -1
		most := big(kind)
		most.Data, most.Have, most.Need, most.Entry = big(api.MChunk).Data, big(api.MToken).Have, big(api.MToken).Need, big(api.MData).Entry
		long := full(kind)
		long.Data, long.Have, long.Need = make([]byte, 65), make([]int, 8), make([]int, 9)
		l = append(l, ask(full(kind)), ask(far), ask(most), ask(long), ask(api.Msg{Kind: kind}))
	}
	return l
}

// scribble turns all of l, and of the room behind it.
func scribble[T byte | int](l []T) {
	room := l[:cap(l)]
	for i := range room {
		room[i] ^= 0x7f
	}
}

// 11.1, rule 3: what is handed in stays, and so does the room behind it; of that room nothing is told.
func TestHandedInStays(t *testing.T) {
	for i, a := range handed() {
		was := told(a.m)
		form := mesg.Encode(a.m)
		mesg.Same(a.m, api.Msg{})
		mesg.Same(api.Msg{}, a.m)
		mesg.Same(a.m, a.m)
		if !a.stays() || told(a.m) != was {
			t.Errorf("%d: %s, not %s", i, told(a.m), was)
		}
		if want := laid(a.m); isMessage(a.m) && !bytes.Equal(form, want) || !isMessage(a.m) && len(form) > 0 {
			t.Errorf("%d: %x, not %x", i, form, want)
		}
	}
}

// 11.1, rule 3: bytes that are answered are new memory, and so is the room behind them.
func TestBytesAreNew(t *testing.T) {
	for i, a := range handed() {
		one, two := mesg.Encode(a.m), mesg.Encode(a.m)
		was := bytes.Clone(two)
		scribble(one)
		if !a.stays() || !bytes.Equal(two, was) || !bytes.Equal(mesg.Encode(a.m), was) {
			t.Errorf("%d: the bytes are what was handed in, or answered ahead", i)
		}
		clear(a.room)
		clear(a.row)
		if !bytes.Equal(two, was) {
			t.Errorf("%d: %x, then %x", i, was, two)
		}
	}
}

// lists turns, by number, one list of a message, with the room behind it.
func lists() []func(m api.Msg) {
	return []func(m api.Msg){
		func(m api.Msg) { scribble(m.Data) }, func(m api.Msg) { scribble(m.Have) }, func(m api.Msg) { scribble(m.Need) },
		func(m api.Msg) { scribble(m.Entry.Cmd.Key) }, func(m api.Msg) { scribble(m.Entry.Cmd.Val) }, func(m api.Msg) { scribble(m.Entry.Cmd.Old) },
	}
}

// texts are m's lists, one by one.
func texts(m api.Msg) []string {
	c := m.Entry.Cmd
	return []string{string(m.Data), told(api.Msg{Have: m.Have}), told(api.Msg{Need: m.Need}), string(c.Key), string(c.Val), string(c.Old)}
}

// 11.1, rule 3: a message that is read is in memory of its own, each list apart from the others and from the bytes.
func TestReadIsNew(t *testing.T) {
	for n, m := range well() {
		form := laid(m)
		x := append(bytes.Clone(form), 0x5a, 0x5a)[:len(form)]
		first, _ := mesg.Decode(x)
		for i, turn := range lists() {
			got, _ := mesg.Decode(x)
			was := texts(got)
			turn(got)
			for k, text := range texts(got) {
				if k != i && text != was[k] {
					t.Errorf("%d: list %d is list %d", n, i, k)
				}
			}
		}
		if !bytes.Equal(x[:len(x)+2], append(bytes.Clone(form), 0x5a, 0x5a)) {
			t.Errorf("%d: the bytes were changed", n)
		}
		clear(x)
		if told(first) != told(m) {
			t.Errorf("%d: %s, not %s", n, told(first), told(m))
		}
	}
}

// 11.1, rule 3: bytes that are none's stay, too.
func TestNoneStays(t *testing.T) {
	for _, m := range ill() {
		form := laid(m)
		x := append(bytes.Clone(form), 0x5a, 0x5a)
		mesg.Decode(x[:len(form)])
		if !bytes.Equal(x, append(bytes.Clone(form), 0x5a, 0x5a)) {
			t.Errorf("%x was %x", x, form)
		}
	}
}

// 11.1, rule 3: one list may stand in each place that is handed in.
func TestOneListInEachPlace(t *testing.T) {
	x, row := b("one list"), []int{1, 2, 3}
	for _, kind := range kinds() {
		m := api.Msg{Kind: kind, Data: x, Have: row, Need: row, Entry: api.Entry{Cmd: api.Cmd{Key: x, Val: x, Old: x}}}
		got, ok := mesg.Decode(mesg.Encode(m))
		if !ok || told(got) != told(bare(m)) {
			t.Errorf("%s is read as %s, %v", told(m), told(got), ok)
		}
		for i, turn := range lists() {
			again, _ := mesg.Decode(mesg.Encode(m))
			turn(again)
			for k, text := range texts(again) {
				if k != i && text != texts(got)[k] {
					t.Errorf("kind %d: list %d is list %d", kind, i, k)
				}
			}
		}
		if string(x) != "one list" || !slices.Equal(row, []int{1, 2, 3}) {
			t.Fatalf("kind %d: what is handed in was changed", kind)
		}
	}
}
