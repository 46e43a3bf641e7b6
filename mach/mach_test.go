package mach_test

import (
	"bytes"
	"encoding/binary"
	"fmt"
	"math"
	"slices"
	"strings"
	"testing"

	"hocket/api"
	"hocket/mach"
	"hocket/objs"
	"hocket/sess"
)

// The bounds, as the document lays them: top is the greatest number of an entry or a table, highest the greatest that is written, longest how many bytes each list of an entry has at most.
const (
	top       = 1 << 30
	highest   = 1 << 62
	longest   = 32
	mostVal   = 16
	mostKey   = 8
	mostQueue = 8
	mostLock  = 5
	mostMap   = 8
	mostTable = 8
	mostWho   = 999
	mostErr   = 10
)

// pair is a key with its value, as texts.
type pair struct{ key, val string }

// last is a session's last call, with its result's value as a text.
type last struct {
	sess, seq int
	err       api.Errno
	n         int
	val       string
}

// b is a text as bytes.
func b(s string) []byte { return []byte(s) }

// of is a machine of these, each list of bytes in memory of its own.
func of(reg string, queue []string, row []int, pairs []pair, table ...last) api.Machine {
	m := api.Machine{Objects: api.Objects{Reg: b(reg), Lock: slices.Clone(row)}}
	for _, v := range queue {
		m.Objects.Queue = append(m.Objects.Queue, b(v))
	}
	for _, p := range pairs {
		m.Objects.Map = append(m.Objects.Map, api.Pair{Key: b(p.key), Val: b(p.val)})
	}
	for _, l := range table {
		m.Table = append(m.Table, api.Last{Sess: l.sess, Seq: l.seq, Result: api.Result{Err: l.err, Val: b(l.val), N: l.n}})
	}
	return m
}

// told is a machine as a text, in which nil is an empty list.
func told(m api.Machine) string {
	s := fmt.Sprintf("register %q, queue %q, lock %v, map %q, table", m.Objects.Reg, m.Objects.Queue, m.Objects.Lock, m.Objects.Map)
	for _, l := range m.Table {
		s += fmt.Sprintf(" (%d, %d: %s)", l.Sess, l.Seq, toldResult(l.Result))
	}
	return s
}

// toldResult is a result as a text, in which nil is an empty list.
func toldResult(r api.Result) string {
	return fmt.Sprintf("error %d, Val %q, N %d", r.Err, r.Val, r.N)
}

// toldEntry is an entry as a text, in which nil is an empty list.
func toldEntry(e api.Entry) string {
	return fmt.Sprintf("Sess %d, Seq %d, Kind %d, Who %d, Key %q, Val %q, Old %q", e.Sess, e.Seq, e.Cmd.Kind, e.Cmd.Who, e.Cmd.Key, e.Cmd.Val, e.Cmd.Old)
}

// gone is what Step answered, as a text.
func gone(m api.Machine, r api.Result) string {
	return told(m) + ": " + toldResult(r)
}

// ent is an entry.
func ent(sess, seq int, c api.Cmd) api.Entry {
	return api.Entry{Sess: sess, Seq: seq, Cmd: c}
}

// letters, people, pairs and lasts are n of each, each another, those that rise rising.
func letters(n int) []string {
	var l []string
	for i := range n {
		l = append(l, fmt.Sprintf("b%02d", i))
	}
	return l
}

func people(n int) []int {
	var l []int
	for i := range n {
		l = append(l, 900-3*i)
	}
	return l
}

func pairs(n int) []pair {
	var l []pair
	for i, k := range letters(n) {
		l = append(l, pair{k, fmt.Sprint("v", i)})
	}
	return l
}

func lasts(n int) []last {
	var l []last
	for i := range n {
		l = append(l, last{10 + 10*i, 5 + i, api.Errno(i % 4), i - 1, fmt.Sprint("r", i)})
	}
	return l
}

// big is a machine that has n of each, and each list as long as it may be.
func big(n int) api.Machine {
	v := strings.Repeat("v", mostVal)
	m := of(v, slices.Repeat([]string{v}, n), people(n), nil)
	for i := range n {
		m.Objects.Map = append(m.Objects.Map, api.Pair{Key: append(bytes.Repeat([]byte{0xff}, mostKey-1), byte(i)), Val: b(v)})
		m.Table = append(m.Table, api.Last{Sess: top - n + i + 1, Seq: top, Result: api.Result{Err: mostErr, Val: b(v), N: top}})
	}
	return m
}

// well are machines that keep their bounds.
func well() []api.Machine {
	l := []api.Machine{
		{}, of("a", nil, nil, nil), of("", letters(1), nil, nil), of("", []string{""}, nil, nil), of("", nil, people(1), nil), of("", nil, []int{0}, nil),
		of("", nil, nil, pairs(1)), of("", nil, nil, []pair{{}}), of("", nil, nil, nil, lasts(1)...), of("", nil, nil, nil, last{1, 1, 0, -1, ""}),
		of("", nil, nil, nil, last{top, top, mostErr, top, "x"}), of("", nil, nil, nil, last{1, top, 0, 0, ""}, last{top, 1, 0, 0, ""}),
		of("", nil, []int{999, 0, 998, 1, 500}, nil), of("", nil, nil, []pair{{"", "v"}, {"\x00", ""}, {"\x00\x00", "w"}, {"\xff", ""}, {"\xff\x00", "z"}}),
	}
	for n := range mostLock + 1 {
		l = append(l, of("reg", letters(n), people(n), pairs(n), lasts(n)...), big(n))
	}
	for n := mostLock + 1; n <= mostTable; n++ {
		l = append(l, of("reg", letters(n), people(mostLock), pairs(n), lasts(n)...))
	}
	return append(l, of(strings.Repeat("\x80", mostVal), []string{"", "\x00", ""}, people(2), nil, lasts(8)...))
}

// ill are machines of which each breaks one of its bounds.
func ill() []api.Machine {
	far, farKey := strings.Repeat("f", mostVal+1), strings.Repeat("f", mostKey+1)
	l := []api.Machine{
		of(far, nil, nil, nil), of(strings.Repeat("f", 128+mostVal), nil, nil, nil),
		of("", []string{far}, nil, nil), of("", []string{"a", "b", far}, nil, nil), of("", letters(mostQueue+1), nil, nil), of("", letters(200), nil, nil),
		of("", nil, people(mostLock+1), nil), of("", nil, []int{mostWho + 1}, nil), of("", nil, []int{1, 2, 3, 4, 1 << 40}, nil), of("", nil, []int{3, 3}, nil), of("", nil, []int{0, 1, 2, 3, 0}, nil), of("", nil, []int{0, 1, 7, 7, 4}, nil),
		of("", nil, nil, pairs(mostMap+1)), of("", nil, nil, []pair{{farKey, ""}}), of("", nil, nil, []pair{{"k", far}}), of("", nil, nil, []pair{{"a", ""}, {"a", ""}}), of("", nil, nil, []pair{{"b", ""}, {"a", ""}}), of("", nil, nil, []pair{{"a", ""}, {"", ""}}), of("", nil, nil, []pair{{"", ""}, {"", "x"}}), of("", nil, nil, []pair{{"a\x00", ""}, {"a", ""}}), of("", nil, nil, []pair{{"\x80", ""}, {"\x7f", ""}}), of("", nil, nil, []pair{{"a", ""}, {"c", ""}, {"b", ""}}),
		of("", nil, nil, nil, lasts(mostTable+1)...), of("", nil, nil, nil, last{0, 1, 0, 0, ""}), of("", nil, nil, nil, last{1, 0, 0, 0, ""}), of("", nil, nil, nil, last{top + 1, 1, 0, 0, ""}), of("", nil, nil, nil, last{1, top + 1, 0, 0, ""}), of("", nil, nil, nil, last{highest, 1, 0, 0, ""}), of("", nil, nil, nil, last{1, 5, 0, 0, ""}, last{2, 0, 0, 0, ""}),
		of("", nil, nil, nil, last{1, 1, mostErr + 1, 0, ""}), of("", nil, nil, nil, last{1, 1, 1 << 40, 0, ""}), of("", nil, nil, nil, last{1, 1, 0, top + 1, ""}), of("", nil, nil, nil, last{1, 1, 0, math.MaxInt, ""}), of("", nil, nil, nil, last{1, 1, 0, 0, far}),
		of("", nil, nil, nil, last{2, 1, 0, 0, ""}, last{2, 2, 0, 0, ""}), of("", nil, nil, nil, last{2, 1, 0, 0, ""}, last{1, 2, 0, 0, ""}), of("", nil, nil, nil, last{1, 1, 0, 0, ""}, last{3, 1, 0, 0, ""}, last{2, 1, 0, 0, ""}), of("", nil, nil, nil, last{1, 1, 0, 0, ""}, last{0, 1, 0, 0, ""}),
	}
	return l
}

// below are machines with numbers below all that are written: their bytes are those of another one.
func below() []api.Machine {
	return []api.Machine{
		of("", nil, []int{-1}, nil), of("", nil, []int{math.MinInt, 5}, nil), of("", nil, []int{-1, -2}, nil),
		of("", nil, nil, nil, last{-1, 1, 0, 0, ""}), of("", nil, nil, nil, last{1, -1, 0, 0, ""}), of("", nil, nil, nil, last{1, 1, -1, 0, ""}), of("", nil, nil, nil, last{1, 1, 0, -2, ""}), of("", nil, nil, nil, last{1, 1, math.MinInt, math.MinInt, "x"}),
	}
}

// keeps tells if m keeps its bounds, word by word of promise 10.2.
func keeps(m api.Machine) bool {
	s := m.Objects
	ok := len(s.Reg) <= mostVal && len(s.Queue) <= mostQueue && len(s.Lock) <= mostLock && len(s.Map) <= mostMap && len(m.Table) <= mostTable
	for _, v := range s.Queue {
		ok = ok && len(v) <= mostVal
	}
	seen := map[int]int{}
	for _, who := range s.Lock {
		seen[who]++
		ok = ok && who >= 0 && who <= mostWho && seen[who] == 1
	}
	for i, p := range s.Map {
		ok = ok && len(p.Key) <= mostKey && len(p.Val) <= mostVal && (i == 0 || string(s.Map[i-1].Key) < string(p.Key))
	}
	for i, l := range m.Table {
		ok = ok && l.Sess >= 1 && l.Sess <= top && l.Seq >= 1 && l.Seq <= top && (i == 0 || m.Table[i-1].Sess < l.Sess)
		ok = ok && l.Result.Err >= 0 && l.Result.Err <= mostErr && l.Result.N >= -1 && l.Result.N <= top && len(l.Result.Val) <= mostVal
	}
	return ok
}

// num is n as bytes, and text a list of bytes, word by word of promise 2.1.
func num(n int) []byte {
	return binary.AppendUvarint(nil, uint64(min(max(n, 0), highest)))
}

func text(x []byte) []byte {
	return append(num(len(x)), x...)
}

// entryBySentence and encodeBySentence are the bytes that PutEntry lays, and those of Encode, word by word of promise 10.2.
func entryBySentence(e api.Entry) []byte {
	c := e.Cmd
	return slices.Concat(num(e.Sess), num(e.Seq), num(c.Kind), num(c.Who), text(c.Key), text(c.Val), text(c.Old))
}

func encodeBySentence(m api.Machine) []byte {
	s := m.Objects
	out := append(text(s.Reg), num(len(s.Queue))...)
	for _, v := range s.Queue {
		out = append(out, text(v)...)
	}
	out = append(out, num(len(s.Lock))...)
	for _, who := range s.Lock {
		out = append(out, num(who)...)
	}
	out = append(out, num(len(s.Map))...)
	for _, p := range s.Map {
		out = slices.Concat(out, text(p.Key), text(p.Val))
	}
	out = append(out, num(len(m.Table))...)
	for _, l := range m.Table {
		n := highest
		if l.Result.N < highest {
			n = l.Result.N + 1
		}
		out = slices.Concat(out, num(l.Sess), num(l.Seq), num(int(l.Result.Err)), num(n), text(l.Result.Val))
	}
	return out
}

// loose reads a machine of whatever is like one: numbers in any form, and no bounds.
type loose struct {
	b  []byte
	ok bool
}

func (r *loose) num() int {
	n, size := binary.Uvarint(r.b)
	if size <= 0 || n > highest {
		r.b, r.ok = nil, false
		return 0
	}
	r.b = r.b[size:]
	return int(n)
}

func (r *loose) text() []byte {
	n := r.num()
	if n > len(r.b) {
		r.b, r.ok = nil, false
		return nil
	}
	x := bytes.Clone(r.b[:n])
	r.b = r.b[n:]
	return x
}

// each does f as often as the next number says; each takes a byte at least, so there are no more of them than bytes.
func (r *loose) each(f func()) {
	n := r.num()
	if n > len(r.b) {
		r.b, r.ok = nil, false
		return
	}
	for range n {
		f()
	}
}

// decodeBySentence is Decode, word by word of promise 10.2: the bytes are those of a machine that keeps its bounds.
func decodeBySentence(x []byte) (api.Machine, bool) {
	r := &loose{x, true}
	var m api.Machine
	s := &m.Objects
	s.Reg = r.text()
	r.each(func() { s.Queue = append(s.Queue, r.text()) })
	r.each(func() { s.Lock = append(s.Lock, r.num()) })
	r.each(func() { s.Map = append(s.Map, api.Pair{Key: r.text(), Val: r.text()}) })
	r.each(func() {
		l := api.Last{Sess: r.num(), Seq: r.num()}
		l.Result.Err, l.Result.N = api.Errno(r.num()), r.num()-1
		l.Result.Val = r.text()
		m.Table = append(m.Table, l)
	})
	if !r.ok || !keeps(m) || !bytes.Equal(encodeBySentence(m), x) {
		return api.Machine{}, false
	}
	return m, true
}

// stepBySentence is Step, word by word of promise 10.1, by the layers ahead.
func stepBySentence(m api.Machine, e api.Entry) (api.Machine, api.Result) {
	r, what := sess.Look(m.Table, e.Sess, e.Seq)
	if what == 1 || what == 2 {
		return m, r
	}
	s, r := objs.Apply(m.Objects, e.Cmd)
	return api.Machine{Objects: s, Table: sess.Put(m.Table, e.Sess, e.Seq, r)}, r
}

// commands are one of each way that a command goes, and of none.
func commands() []api.Cmd {
	far, farKey := strings.Repeat("f", mostVal+1), strings.Repeat("f", mostKey+1)
	return []api.Cmd{
		{}, {Kind: -1}, {Kind: 12, Who: 3, Key: b("k")}, {Kind: api.CRead}, {Kind: api.CWrite, Val: b("new")}, {Kind: api.CWrite, Val: b(far)}, {Kind: api.CCas, Old: b("reg"), Val: b("c")}, {Kind: api.CCas, Val: b("c")},
		{Kind: api.CPush, Val: b("p")}, {Kind: api.CPush, Val: b(far)}, {Kind: api.CPop}, {Kind: api.CTake, Who: 7}, {Kind: api.CTake, Who: 900}, {Kind: api.CTake, Who: 1000}, {Kind: api.CFree, Who: 900}, {Kind: api.CFree, Who: 7}, {Kind: api.COwner},
		{Kind: api.CPut, Key: b("b00"), Val: b("over")}, {Kind: api.CPut, Key: b("a"), Val: b("first")}, {Kind: api.CPut, Key: b(farKey)}, {Kind: api.CGet, Key: b("b00")}, {Kind: api.CGet, Key: b("none")}, {Kind: api.CDel, Key: b("b00")}, {Kind: api.CDel, Key: b(far)},
	}
}

// calls are sessions with what they ask as their what, about the bounds, and about those of lasts.
func calls() [][2]int {
	var l [][2]int
	for _, s := range []int{math.MinInt, -1, 0, 1, 10, 15, 80, 90, top - 1, top, top + 1, 1<<32 + 10, math.MaxInt} {
		for _, seq := range []int{math.MinInt, -1, 0, 1, 4, 5, 6, 12, top - 1, top, top + 1, 1<<32 + 5, math.MaxInt} {
			l = append(l, [2]int{s, seq})
		}
	}
	return l
}

// 10.1, 10.2: the numbers that the promises name.
func TestNumbers(t *testing.T) {
	if api.LNew != 0 || api.LSame != 1 || api.LBad != 2 {
		t.Error(api.LNew, api.LSame, api.LBad)
	}
	limits := []int{api.MaxVal, api.MaxKey, api.MaxQueue, api.MaxLock, api.MaxMap, api.MaxSessions, int(api.ErrSeq)}
	if !slices.Equal(limits, []int{mostVal, mostKey, mostQueue, mostLock, mostMap, mostTable, mostErr}) {
		t.Error(limits)
	}
	for _, m := range well() {
		if !keeps(m) {
			t.Errorf("%s does not keep its bounds", told(m))
		}
	}
	for _, m := range append(ill(), below()...) {
		if keeps(m) {
			t.Errorf("%s keeps its bounds", told(m))
		}
	}
}

// 10.1: answers that are known, of entries one behind the other, from the zero machine on.
func TestKnownStep(t *testing.T) {
	one, two := last{4, 7, 0, 1, ""}, last{2, 1, 0, 2, ""}
	push := func(s string) api.Cmd { return api.Cmd{Kind: api.CPush, Val: b(s)} }
	pop := api.Cmd{Kind: api.CPop}
	var m api.Machine
	for i, x := range []struct {
		e    api.Entry
		want api.Result
		next api.Machine
	}{
		{ent(0, 1, push("a")), api.Result{Err: 10}, api.Machine{}},
		{ent(1, 0, push("a")), api.Result{Err: 10}, api.Machine{}},
		{ent(top+1, 1, push("a")), api.Result{Err: 10}, api.Machine{}},
		{ent(4, 7, push("a")), api.Result{N: 1}, of("", []string{"a"}, nil, nil, one)},
		{ent(4, 7, push("a")), api.Result{N: 1}, of("", []string{"a"}, nil, nil, one)},
		{ent(4, 7, pop), api.Result{N: 1}, of("", []string{"a"}, nil, nil, one)},
		{ent(4, 6, pop), api.Result{Err: 8}, of("", []string{"a"}, nil, nil, one)},
		{ent(4, 0, pop), api.Result{Err: 10}, of("", []string{"a"}, nil, nil, one)},
		{ent(2, 1, push("b")), api.Result{N: 2}, of("", []string{"a", "b"}, nil, nil, two, one)},
		{ent(4, 7, push("a")), api.Result{N: 1}, of("", []string{"a", "b"}, nil, nil, two, one)},
		{ent(4, 9, pop), api.Result{Val: b("a")}, of("", []string{"b"}, nil, nil, two, last{4, 9, 0, 0, "a"})},
		{ent(4, 8, pop), api.Result{Err: 8}, of("", []string{"b"}, nil, nil, two, last{4, 9, 0, 0, "a"})},
		{ent(4, 9, pop), api.Result{Val: b("a")}, of("", []string{"b"}, nil, nil, two, last{4, 9, 0, 0, "a"})},
		{ent(2, top, api.Cmd{Kind: 12}), api.Result{Err: 7}, of("", []string{"b"}, nil, nil, last{2, top, 7, 0, ""}, last{4, 9, 0, 0, "a"})},
		{ent(2, top, pop), api.Result{Err: 7}, of("", []string{"b"}, nil, nil, last{2, top, 7, 0, ""}, last{4, 9, 0, 0, "a"})},
		{ent(2, top+1, pop), api.Result{Err: 10}, of("", []string{"b"}, nil, nil, last{2, top, 7, 0, ""}, last{4, 9, 0, 0, "a"})},
		{ent(4, 10, api.Cmd{Kind: api.CFree, Who: 3}), api.Result{Err: 5}, of("", []string{"b"}, nil, nil, last{2, top, 7, 0, ""}, last{4, 10, 5, 0, ""})},
		{ent(4, 11, api.Cmd{Kind: api.CCas, Old: b("x")}), api.Result{Err: 2}, of("", []string{"b"}, nil, nil, last{2, top, 7, 0, ""}, last{4, 11, 2, 0, ""})},
		{ent(4, 12, api.Cmd{Kind: api.CTake, Who: 3}), api.Result{}, of("", []string{"b"}, []int{3}, nil, last{2, top, 7, 0, ""}, last{4, 12, 0, 0, ""})},
		{ent(4, 13, api.Cmd{Kind: api.CFree, Who: 3}), api.Result{N: -1}, of("", []string{"b"}, nil, nil, last{2, top, 7, 0, ""}, last{4, 13, 0, -1, ""})},
	} {
		next, r := mach.Step(m, x.e)
		if got, want := gone(next, r), gone(x.next, x.want); got != want {
			t.Fatalf("%d: %s: %s, not %s", i, toldEntry(x.e), got, want)
		}
		m = next
	}
}

// 10.1: the eighth session is let in, the ninth is not, and leaves the machine as it is; those that are in it go on.
func TestKnownFull(t *testing.T) {
	var m api.Machine
	write := func(i int) api.Cmd { return api.Cmd{Kind: api.CWrite, Val: fmt.Append(nil, i)} }
	for i := range 20 {
		next, r := mach.Step(m, ent(100-i, 1, write(i)))
		want := gone(m, api.Result{Err: 9})
		if i < mostTable {
			want = gone(api.Machine{Objects: api.Objects{Reg: fmt.Append(nil, i)}, Table: sess.Put(m.Table, 100-i, 1, api.Result{})}, api.Result{})
		}
		if got := gone(next, r); got != want {
			t.Errorf("%d: %s, not %s", i, got, want)
		}
		m = next
	}
	next, r := mach.Step(m, ent(95, 2, write(77)))
	if r.Err != api.OK || string(next.Objects.Reg) != "77" || len(next.Table) != mostTable {
		t.Error(gone(next, r))
	}
}

// 10.1: whatever the machine and the entry are, Step answers what its sentence says.
func TestStepBySentence(t *testing.T) {
	for i, m := range slices.Concat(well(), ill(), below()) {
		for n, call := range calls() {
			for k, c := range commands() {
				// Each command is asked of each machine as a new one; as others each third.
				if (i+n+k)%3 != 0 && call != [2]int{15, 1} {
					continue
				}
				e := ent(call[0], call[1], c)
				got, want := gone(mach.Step(m, e)), gone(stepBySentence(m, e))
				if got != want {
					t.Errorf("%s, of %s: %s, not %s", toldEntry(e), told(m), got, want)
				}
			}
		}
	}
}

// 10.1: what is refused by an object is put as well: asked again it is answered so, though it would be let in then.
func TestErrorsArePut(t *testing.T) {
	v, far := b("v"), b(strings.Repeat("f", mostVal+1))
	full := of("reg", letters(mostQueue), people(mostLock), pairs(mostMap))
	for i, x := range []struct {
		m       api.Machine
		c, then api.Cmd
		want    api.Result
	}{
		{full, api.Cmd{Kind: api.CPush, Val: v}, api.Cmd{Kind: api.CPop}, api.Result{Err: 3}},
		{full, api.Cmd{Kind: api.CTake, Who: 1}, api.Cmd{Kind: api.CFree, Who: 900}, api.Result{Err: 3}},
		{full, api.Cmd{Kind: api.CPut, Key: v}, api.Cmd{Kind: api.CDel, Key: b("b00")}, api.Result{Err: 3}},
		{full, api.Cmd{Kind: api.CTake, Who: 900}, api.Cmd{Kind: api.CFree, Who: 900}, api.Result{Err: 6}},
		{full, api.Cmd{Kind: api.CWrite, Val: far}, api.Cmd{Kind: api.CRead}, api.Result{Err: 1}},
		{full, api.Cmd{Kind: api.CCas, Old: v, Val: v}, api.Cmd{Kind: api.CWrite, Val: v}, api.Result{Err: 2, Val: b("reg")}},
		{api.Machine{}, api.Cmd{Kind: api.CPop}, api.Cmd{Kind: api.CPush, Val: v}, api.Result{Err: 4}},
		{api.Machine{}, api.Cmd{Kind: api.COwner}, api.Cmd{Kind: api.CTake, Who: 1}, api.Result{Err: 5}},
		{api.Machine{}, api.Cmd{Kind: api.CGet, Key: v}, api.Cmd{Kind: api.CPut, Key: v, Val: v}, api.Result{Err: 5}},
		{api.Machine{}, api.Cmd{Kind: 77}, api.Cmd{Kind: api.CPush, Val: v}, api.Result{Err: 7}},
	} {
		m, r := mach.Step(x.m, ent(5, 3, x.c))
		if !objs.SameResult(r, x.want) || !objs.Same(m.Objects, x.m.Objects) {
			t.Errorf("%d: %s, not %s", i, gone(m, r), toldResult(x.want))
		}
		m, _ = mach.Step(m, ent(6, 1, x.then))
		for _, c := range []api.Cmd{x.c, x.then, {}} {
			again, r := mach.Step(m, ent(5, 3, c))
			if gone(again, r) != gone(m, x.want) {
				t.Errorf("%d, again: %s, not %s", i, gone(again, r), gone(m, x.want))
			}
		}
	}
}

// turned are m with one thing turned, each another.
func turned(m api.Machine) []api.Machine {
	var l []api.Machine
	turn := func(f func(x *api.Machine)) {
		x := again(m)
		f(&x)
		l = append(l, x)
	}
	turn(func(x *api.Machine) { x.Objects.Reg = append(x.Objects.Reg, 0) })
	turn(func(x *api.Machine) { x.Objects.Queue = append(x.Objects.Queue, nil) })
	turn(func(x *api.Machine) { x.Objects.Lock = append(x.Objects.Lock, 0) })
	turn(func(x *api.Machine) { x.Objects.Map = append(x.Objects.Map, api.Pair{}) })
	turn(func(x *api.Machine) { x.Table = append(x.Table, api.Last{}) })
	for i := range m.Objects.Queue {
		turn(func(x *api.Machine) { x.Objects.Queue[i] = append(x.Objects.Queue[i], 'x') })
	}
	for i := range m.Objects.Lock {
		turn(func(x *api.Machine) { x.Objects.Lock[i] ^= 1 << 40 })
	}
	for i := range m.Objects.Map {
		turn(func(x *api.Machine) { x.Objects.Map[i].Key = append(x.Objects.Map[i].Key, 'x') })
		turn(func(x *api.Machine) { x.Objects.Map[i].Val = append(x.Objects.Map[i].Val, 'x') })
	}
	for i := range m.Table {
		turn(func(x *api.Machine) { x.Table[i].Sess ^= 1 << 40 })
		turn(func(x *api.Machine) { x.Table[i].Seq ^= 1 << 40 })
		turn(func(x *api.Machine) { x.Table[i].Result.Err ^= 1 << 40 })
		turn(func(x *api.Machine) { x.Table[i].Result.N ^= 1 << 40 })
		turn(func(x *api.Machine) { x.Table[i].Result.Val = append(x.Table[i].Result.Val, 'x') })
		turn(func(x *api.Machine) { x.Table = slices.Delete(x.Table, i, i+1) })
	}
	return l
}

// again is m in memory of its own.
func again(m api.Machine) api.Machine {
	x := api.Machine{Objects: api.Objects{Reg: bytes.Clone(m.Objects.Reg), Lock: slices.Clone(m.Objects.Lock)}}
	for _, v := range m.Objects.Queue {
		x.Objects.Queue = append(x.Objects.Queue, bytes.Clone(v))
	}
	for _, p := range m.Objects.Map {
		x.Objects.Map = append(x.Objects.Map, api.Pair{Key: bytes.Clone(p.Key), Val: bytes.Clone(p.Val)})
	}
	for _, l := range m.Table {
		l.Result.Val = bytes.Clone(l.Result.Val)
		x.Table = append(x.Table, l)
	}
	return x
}

// 10.1: Same tells if all objects and the table are the same, wherever their memory is, and one turned thing is told.
func TestSame(t *testing.T) {
	all := slices.Concat(well(), ill(), below())
	for _, m := range all {
		if !mach.Same(m, m) || !mach.Same(m, again(m)) || !mach.Same(again(m), m) {
			t.Errorf("%s is not the same", told(m))
		}
		for _, x := range turned(m) {
			if mach.Same(m, x) || mach.Same(x, m) {
				t.Errorf("%s, and %s, are the same", told(m), told(x))
			}
		}
		for _, x := range all {
			if mach.Same(m, x) != (told(m) == told(x)) {
				t.Errorf("%s, and %s: %v", told(m), told(x), mach.Same(m, x))
			}
		}
	}
	ab := of("", nil, nil, nil, last{1, 2, 3, 4, "a"}, last{2, 1, 3, 4, "a"})
	ba := of("", nil, nil, nil, last{2, 1, 3, 4, "a"}, last{1, 2, 3, 4, "a"})
	if mach.Same(ab, ba) || mach.Same(ba, ab) {
		t.Error("a table of another order is the same")
	}
}

// entries are those of each field about its bounds, and within them.
func entries() []api.Entry {
	l := []api.Entry{{}, ent(1, 1, api.Cmd{Kind: 1}), ent(300, 127, api.Cmd{Kind: 11, Who: 999, Key: b("key"), Val: b("value"), Old: b("old")}), ent(top, top, api.Cmd{Kind: top, Who: top, Key: bytes.Repeat(b("k"), longest), Val: bytes.Repeat([]byte{0xff}, longest), Old: make([]byte, longest)})}
	for _, n := range []int{math.MinInt, -1, 0, 1, 127, 128, 999, 16383, 16384, top - 1, top, top + 1, 1 << 31, 1 << 32, 1<<32 + 1, highest - 1, highest, highest + 1, math.MaxInt} {
		l = append(l, ent(n, 2, api.Cmd{Kind: 3, Who: 4}), ent(1, n, api.Cmd{Kind: 3, Who: 4}), ent(1, 2, api.Cmd{Kind: n, Who: 4}), ent(1, 2, api.Cmd{Kind: 3, Who: n}))
	}
	for _, n := range []int{0, 1, 2, 8, 9, 16, 17, 31, 32, 33, 34, 127, 128, 160, 300} {
		x := bytes.Repeat([]byte{byte(n)}, n)
		l = append(l, ent(1, 2, api.Cmd{Kind: 3, Who: 4, Key: x}), ent(1, 2, api.Cmd{Kind: 3, Who: 4, Val: x}), ent(1, 2, api.Cmd{Kind: 3, Who: 4, Old: x}), ent(1, 2, api.Cmd{Kind: 3, Who: 4, Key: x, Val: x, Old: x}))
	}
	return l
}

// 10.1: SameEntry tells if all fields are the same, wherever their memory is, and one turned thing is told.
func TestSameEntry(t *testing.T) {
	for _, e := range entries() {
		for _, x := range entries() {
			if mach.SameEntry(e, x) != (toldEntry(e) == toldEntry(x)) {
				t.Errorf("%s, and %s: %v", toldEntry(e), toldEntry(x), mach.SameEntry(e, x))
			}
		}
		for i, turn := range []func(x *api.Entry){
			func(x *api.Entry) { x.Sess ^= 1 << 40 }, func(x *api.Entry) { x.Seq ^= 1 << 40 }, func(x *api.Entry) { x.Cmd.Kind ^= 1 << 40 }, func(x *api.Entry) { x.Cmd.Who ^= 1 << 40 },
			func(x *api.Entry) { x.Cmd.Key = append(bytes.Clone(x.Cmd.Key), 0) }, func(x *api.Entry) { x.Cmd.Val = append(bytes.Clone(x.Cmd.Val), 0) }, func(x *api.Entry) { x.Cmd.Old = append(bytes.Clone(x.Cmd.Old), 0) },
		} {
			x := e
			turn(&x)
			if mach.SameEntry(e, x) || mach.SameEntry(x, e) {
				t.Errorf("%s, turned %d, is the same", toldEntry(e), i)
			}
		}
	}
	// What stands in another place is another thing.
	a := b("a")
	alike := []api.Entry{ent(1, 2, api.Cmd{}), ent(2, 1, api.Cmd{}), ent(0, 0, api.Cmd{Kind: 1, Who: 2}), ent(0, 0, api.Cmd{Kind: 2, Who: 1}), ent(1, 0, api.Cmd{Kind: 2}), ent(0, 0, api.Cmd{Key: a}), ent(0, 0, api.Cmd{Val: a}), ent(0, 0, api.Cmd{Old: a})}
	for i, x := range alike {
		for k, y := range alike {
			if mach.SameEntry(x, y) != (i == k) {
				t.Errorf("%s, and %s: %v", toldEntry(x), toldEntry(y), i != k)
			}
		}
	}
}

// 10.1, 10.2, rule 1: nil is an empty list wherever one is handed in; an empty value in a row is one still.
func TestNilIsEmpty(t *testing.T) {
	none := []api.Machine{
		{},
		{Objects: api.Objects{Reg: []byte{}, Queue: [][]byte{}, Lock: []int{}, Map: []api.Pair{}}, Table: []api.Last{}},
		{Objects: api.Objects{Reg: b("a")[:0], Queue: make([][]byte, 3)[:0], Lock: []int{1}[:0], Map: make([]api.Pair, 3)[:0]}, Table: make([]api.Last, 3)[:0]},
	}
	var within []api.Machine
	for _, x := range [][]byte{nil, {}, b("a")[:0]} {
		within = append(within, api.Machine{Objects: api.Objects{Queue: [][]byte{x}, Map: []api.Pair{{Key: x, Val: x}}}, Table: []api.Last{{Sess: 1, Seq: 1, Result: api.Result{Val: x}}}})
	}
	for _, l := range [][]api.Machine{none, within} {
		for i, m := range l {
			if got := mach.Encode(m); !bytes.Equal(got, encodeBySentence(l[0])) {
				t.Errorf("%d: %x", i, got)
			}
			if got, ok := mach.Decode(mach.Encode(m)); !ok || !mach.Same(got, m) {
				t.Errorf("%d: %s, %v", i, told(got), ok)
			}
			for k, x := range l {
				if !mach.Same(m, x) {
					t.Errorf("%d, %d are not the same", i, k)
				}
			}
			for _, c := range commands() {
				e := ent(2, 1, c)
				if got, want := gone(mach.Step(m, e)), gone(stepBySentence(l[0], e)); got != want {
					t.Errorf("%d: %s: %s, not %s", i, toldEntry(e), got, want)
				}
			}
		}
	}
	for i, m := range none {
		for k, x := range within {
			if mach.Same(m, x) || mach.Same(x, m) || mach.Same(m, api.Machine{Table: x.Table}) {
				t.Errorf("%d is %d", i, k)
			}
		}
	}
	for i, x := range [][]byte{nil, {}, b("a")[:0]} {
		e := ent(1, 2, api.Cmd{Kind: 3, Key: x, Val: x, Old: x})
		if got, want := mach.PutEntry(x, e), []byte{1, 2, 3, 0, 0, 0, 0}; !bytes.Equal(got, want) {
			t.Errorf("%d: %x, not %x", i, got, want)
		}
		if !mach.SameEntry(e, ent(1, 2, api.Cmd{Kind: 3})) {
			t.Errorf("%d is another", i)
		}
		if m, ok := mach.Decode(x); ok || !mach.Same(m, api.Machine{}) {
			t.Errorf("%d: of no bytes %s", i, told(m))
		}
	}
}
