package mesg_test

import (
	"bytes"
	"encoding/binary"
	"fmt"
	"math"
	"reflect"
	"slices"
	"testing"

	"hocket/api"
	"hocket/mesg"
)

// The bounds, as the document lays them: top is the greatest number of an entry, high the greatest of a message, highest the greatest that is written, longest how many bytes each list of an entry has at most.
const (
	top     = 1 << 30
	high    = 1 << 40
	highest = 1 << 62
	longest = 32
	nodes   = 7
)

// field is a field of a message, and the most that it may be: a number's greatest, or how many are in a list.
type field struct {
	name string
	most int
}

// head are the fields that each message has behind its kind.
func head() []field {
	return []field{{"From", 6}, {"To", 6}, {"View", high}}
}

// named are the fields that a kind names, in the order of promise 11.1.
func named(kind int) []field {
	switch kind {
	case api.MState:
		return []field{{"Inst", high}, {"Len", high}, {"Has", 1}}
	case api.MCommit:
		return []field{{"Members", 127}, {"Source", 6}, {"Len", high}}
	case api.MFetch:
		return []field{{"At", high}}
	case api.MChunk:
		return []field{{"At", high}, {"Total", high}, {"Data", 64}}
	case api.MToken:
		return []field{{"Hop", high}, {"Seq", high}, {"Have", 7}, {"Need", 8}}
	case api.MData:
		return []field{{"Index", high}, {"Entry", 0}}
	}
	return nil
}

// kinds are all kinds of messages.
func kinds() []int {
	return []int{api.MJoin, api.MState, api.MCommit, api.MFetch, api.MChunk, api.MReady, api.MToken, api.MData}
}

// b is a text as bytes.
func b(s string) []byte { return []byte(s) }

// told is a message as a text, in which nil is an empty list.
func told(m api.Msg) string {
	e := m.Entry
	return fmt.Sprintf("Kind %d, From %d, To %d, View %d, Inst %d, Len %d, Has %v, Members %d, Source %d, At %d, Total %d, Data %x, Hop %d, Seq %d, Have %v, Need %v, Index %d, Entry %d %d %d %d %x %x %x",
		m.Kind, m.From, m.To, m.View, m.Inst, m.Len, m.Has, m.Members, m.Source, m.At, m.Total, m.Data, m.Hop, m.Seq, m.Have, m.Need, m.Index, e.Sess, e.Seq, e.Cmd.Kind, e.Cmd.Who, e.Cmd.Key, e.Cmd.Val, e.Cmd.Old)
}

// none is the message beside a false.
var none = told(api.Msg{})

// at is m's field of that name.
func at(m *api.Msg, name string) reflect.Value {
	return reflect.ValueOf(m).Elem().FieldByName(name)
}

// set is m whose field of that name is n: a number, or a list of n.
func set(m api.Msg, name string, n int) api.Msg {
	v := at(&m, name)
	switch v.Interface().(type) {
	case int:
		v.SetInt(int64(n))
	case bool:
		v.SetBool(n != 0)
	default:
		v.Set(reflect.MakeSlice(v.Type(), n, n))
	}
	return m
}

// bare is m without the fields that its kind does not name.
func bare(m api.Msg) api.Msg {
	out := api.Msg{Kind: m.Kind}
	for _, f := range append(head(), named(m.Kind)...) {
		at(&out, f.name).Set(at(&m, f.name))
	}
	return out
}

// within tells if n is 0 to most.
func within(n, most int) bool {
	return n >= 0 && n <= most
}

// isEntry tells if e keeps its bounds, as promise 10.2 lays them.
func isEntry(e api.Entry) bool {
	c := e.Cmd
	return within(e.Sess, top) && within(e.Seq, top) && within(c.Kind, top) && within(c.Who, top) && len(c.Key) <= longest && len(c.Val) <= longest && len(c.Old) <= longest
}

// isMessage tells if m is none or not, word by word of promise 11.1.
func isMessage(m api.Msg) bool {
	ok := slices.Contains(kinds(), m.Kind)
	for _, f := range append(head(), named(m.Kind)...) {
		switch x := at(&m, f.name).Interface().(type) {
		case int:
			ok = ok && within(x, f.most)
		case []byte:
			ok = ok && len(x) <= f.most
		case []int:
			ok = ok && len(x) <= f.most
			for _, n := range x {
				ok = ok && within(n, high)
			}
		case api.Entry:
			ok = ok && isEntry(x)
		}
	}
	return ok
}

// num is n as bytes, and text a list of bytes, word by word of promise 2.1.
func num(n int) []byte {
	return binary.AppendUvarint(nil, uint64(min(max(n, 0), highest)))
}

func text(x []byte) []byte {
	return append(num(len(x)), x...)
}

// lay is one field's value as bytes, whatever its bounds.
func lay(value any) []byte {
	var out []byte
	switch x := value.(type) {
	case int:
		out = num(x)
	case bool:
		out = num(0)
		if x {
			out = num(1)
		}
	case []byte:
		out = text(x)
	case []int:
		out = num(len(x))
		for _, n := range x {
			out = append(out, num(n)...)
		}
	case api.Entry:
		out = slices.Concat(num(x.Sess), num(x.Seq), num(x.Cmd.Kind), num(x.Cmd.Who), text(x.Cmd.Key), text(x.Cmd.Val), text(x.Cmd.Old))
	}
	return out
}

// parts are the bytes of each of m's fields, whatever their bounds.
func parts(m api.Msg) [][]byte {
	l := [][]byte{num(m.Kind)}
	for _, f := range append(head(), named(m.Kind)...) {
		l = append(l, lay(at(&m, f.name).Interface()))
	}
	return l
}

// laid are m's bytes, whatever its bounds.
func laid(m api.Msg) []byte {
	return slices.Concat(parts(m)...)
}

// scan reads what num and text lay, word by word of promise 2.1.
type scan struct {
	rest []byte
	bad  bool
}

func (s *scan) num(most int) int {
	n, size := binary.Uvarint(s.rest)
	if s.bad || size <= 0 || n > uint64(most) || !bytes.Equal(s.rest[:size], num(int(n))) {
		s.bad = true
		return 0
	}
	s.rest = s.rest[size:]
	return int(n)
}

func (s *scan) text(most int) []byte {
	n := s.num(most)
	if s.bad || n > len(s.rest) {
		s.bad = true
		return nil
	}
	x := s.rest[:n]
	s.rest = s.rest[n:]
	return x
}

func (s *scan) entry() api.Entry {
	e := api.Entry{Sess: s.num(top), Seq: s.num(top)}
	e.Cmd = api.Cmd{Kind: s.num(top), Who: s.num(top)}
	e.Cmd.Key, e.Cmd.Val, e.Cmd.Old = s.text(longest), s.text(longest), s.text(longest)
	return e
}

// value reads a value of the same type as value.
func (s *scan) value(value any, most int) any {
	switch value.(type) {
	case int:
		return s.num(most)
	case bool:
		return s.num(most) == 1
	case []byte:
		return s.text(most)
	case []int:
		var l []int
		for range s.num(most) {
			l = append(l, s.num(high))
		}
		return l
	}
	return s.entry()
}

// decodeBySentence is what Decode answers, word by word of promise 11.1.
func decodeBySentence(x []byte) (api.Msg, bool) {
	s := &scan{rest: x}
	m := api.Msg{Kind: s.num(highest)}
	if !slices.Contains(kinds(), m.Kind) {
		return api.Msg{}, false
	}
	for _, f := range append(head(), named(m.Kind)...) {
		v := at(&m, f.name)
		v.Set(reflect.ValueOf(s.value(v.Interface(), f.most)))
	}
	if s.bad || len(s.rest) > 0 {
		return api.Msg{}, false
	}
	return m, true
}

// reads ends the test at bytes that Decode answers otherwise than its sentence: of many bytes the first tells enough.
func reads(t *testing.T, x []byte) {
	t.Helper()
	got, ok := mesg.Decode(x)
	want, is := decodeBySentence(x)
	if ok != is || told(got) != told(want) {
		t.Fatalf("%x is read as %s, %v, not %s, %v", x, told(got), ok, told(want), is)
	}
	if ok && !bytes.Equal(mesg.Encode(got), x) {
		t.Fatalf("%x is read as %s, which is %x", x, told(got), mesg.Encode(got))
	}
}

// entry is an entry of no small part.
func entry() api.Entry {
	return api.Entry{Sess: 300, Seq: 2, Cmd: api.Cmd{Kind: 3, Who: 999, Key: b("k"), Val: b("va"), Old: b("old")}}
}

// small and big are messages of that kind, each field that it names another one, within its bounds, or at them.
func small(kind int) api.Msg {
	m := api.Msg{Kind: kind, From: 1, To: 2, View: 300, Inst: 4, Len: 500, Has: true, Members: 7, Source: 3, At: 8, Total: 900, Data: b("data"), Hop: 10, Seq: 1100, Have: []int{12, 1300, 14}, Need: []int{15, 1600}, Index: 17, Entry: entry()}
	return bare(m)
}

func big(kind int) api.Msg {
	full := bytes.Repeat([]byte{0xff}, longest)
	e := api.Entry{Sess: top, Seq: top, Cmd: api.Cmd{Kind: top, Who: top, Key: full, Val: full, Old: full}}
	m := api.Msg{Kind: kind, From: 6, To: 6, View: high, Inst: high, Len: high, Has: true, Members: 127, Source: 6, At: high, Total: high, Data: bytes.Repeat([]byte{0x80}, 64), Hop: high, Seq: high, Have: slices.Repeat([]int{high}, 7), Need: slices.Repeat([]int{high}, 8), Index: high, Entry: e}
	return bare(m)
}

// well are messages: of each kind such as are small, big and bare, and of each field all that it may be about its bounds.
func well() []api.Msg {
	var l []api.Msg
	for _, kind := range kinds() {
		l = append(l, api.Msg{Kind: kind}, small(kind), big(kind))
		for _, m := range slices.Clone(l[len(l)-3:]) {
			for _, f := range append(head(), named(kind)...) {
				if f.name == "Entry" {
					continue
				}
				for _, n := range []int{0, 1, 2, f.most / 2, f.most - 1, f.most} {
					if n <= f.most {
						l = append(l, set(m, f.name, n))
					}
				}
			}
		}
	}
	for n := range nodes + 1 {
		l = append(l, api.Msg{Kind: api.MToken, Have: make([]int, n), Need: []int{n}}, api.Msg{Kind: api.MToken, Have: slices.Repeat([]int{127 + n}, n), Need: slices.Repeat([]int{high - n}, 8-n)})
	}
	for n := range 65 {
		l = append(l, api.Msg{Kind: api.MChunk, At: 64 * n, Total: 1 << (n % 41), Data: bytes.Repeat([]byte{byte(n)}, n)})
	}
	for n := range 7 {
		e := entry()
		l = append(l, api.Msg{Kind: api.MData, Entry: turnEntry(e, n, 0)}, api.Msg{Kind: api.MData, Index: n, Entry: turnEntry(e, n, 31)}, api.Msg{Kind: api.MData, Entry: turnEntry(e, n, 32)})
	}
	return l
}

// turnEntry is e whose i-th part is n: a number, or a list of n bytes.
func turnEntry(e api.Entry, i, n int) api.Entry {
	switch i {
	case 0:
		e.Sess = n
	case 1:
		e.Seq = n
	case 2:
		e.Cmd.Kind = n
	case 3:
		e.Cmd.Who = n
	case 4:
		e.Cmd.Key = make([]byte, n)
	case 5:
		e.Cmd.Val = make([]byte, n)
	case 6:
		e.Cmd.Old = make([]byte, n)
	}
	return e
}

// ill are messages of which each is beyond one of its bounds.
func ill() []api.Msg {
	var l []api.Msg
	for _, kind := range kinds() {
		for _, m := range []api.Msg{{Kind: kind}, small(kind), big(kind)} {
			for _, f := range append(head(), named(kind)...) {
				switch at(&m, f.name).Interface().(type) {
				case int:
					for _, n := range []int{-1, math.MinInt, f.most + 1, f.most + 128, highest, math.MaxInt} {
						l = append(l, set(m, f.name, n))
					}
				case []byte, []int:
					for _, n := range []int{f.most + 1, f.most + 2, 128, 300} {
						l = append(l, set(m, f.name, n))
					}
				}
			}
		}
	}
	for _, n := range []int{-1, math.MinInt, high + 1, highest, math.MaxInt} {
		for place := range nodes {
			have, need := make([]int, nodes), make([]int, 8)
			have[place], need[place+1] = n, n
			l = append(l, api.Msg{Kind: api.MToken, Have: have}, api.Msg{Kind: api.MToken, Need: need}, api.Msg{Kind: api.MToken, Have: []int{1}, Need: need[place+1:]})
		}
	}
	for i := range 7 {
		for _, n := range []int{top + 1, top + 128, highest, math.MaxInt, -1, math.MinInt} {
			if i > 3 {
				n = longest + 1 + n&127
			}
			l = append(l, api.Msg{Kind: api.MData, Entry: turnEntry(entry(), i, n)}, api.Msg{Kind: api.MData, Entry: turnEntry(api.Entry{}, i, n)})
		}
	}
	return l
}

// What the tests take for messages are such, and what they take for none is none.
func TestSamples(t *testing.T) {
	for _, m := range well() {
		if !isMessage(m) {
			t.Error(told(m))
		}
	}
	for _, m := range ill() {
		if isMessage(m) {
			t.Error(told(m))
		}
	}
}

// leaf is a way to turn one part of a message.
type leaf struct {
	name string
	turn func(m *api.Msg)
}

// leaves turn each part of a message, one by one.
func leaves() []leaf {
	return []leaf{
		{"Kind", func(m *api.Msg) { m.Kind++ }}, {"From", func(m *api.Msg) { m.From++ }}, {"To", func(m *api.Msg) { m.To++ }}, {"View", func(m *api.Msg) { m.View-- }},
		{"Inst", func(m *api.Msg) { m.Inst++ }}, {"Len", func(m *api.Msg) { m.Len-- }}, {"Has", func(m *api.Msg) { m.Has = !m.Has }},
		{"Members", func(m *api.Msg) { m.Members ^= 64 }}, {"Source", func(m *api.Msg) { m.Source-- }}, {"At", func(m *api.Msg) { m.At++ }}, {"Total", func(m *api.Msg) { m.Total += 1 << 41 }},
		{"Data, longer", func(m *api.Msg) { m.Data = append(slices.Clone(m.Data), 0) }},
		{"Hop", func(m *api.Msg) { m.Hop++ }}, {"Seq", func(m *api.Msg) { m.Seq-- }},
		{"Have, longer", func(m *api.Msg) { m.Have = append(slices.Clone(m.Have), 0) }}, {"Need, longer", func(m *api.Msg) { m.Need = append(slices.Clone(m.Need), 0) }},
		{"Index", func(m *api.Msg) { m.Index++ }},
		{"Sess", func(m *api.Msg) { m.Entry.Sess++ }}, {"Entry's Seq", func(m *api.Msg) { m.Entry.Seq-- }}, {"Entry's Kind", func(m *api.Msg) { m.Entry.Cmd.Kind++ }}, {"Who", func(m *api.Msg) { m.Entry.Cmd.Who-- }},
		{"Key", func(m *api.Msg) { m.Entry.Cmd.Key = append(slices.Clone(m.Entry.Cmd.Key), 0) }}, {"Val", func(m *api.Msg) { m.Entry.Cmd.Val = append(slices.Clone(m.Entry.Cmd.Val), 0) }}, {"Old", func(m *api.Msg) { m.Entry.Cmd.Old = append(slices.Clone(m.Entry.Cmd.Old), 0) }},
	}
}

// full is a message in which each field is another one, also those that its kind does not name.
func full(kind int) api.Msg {
	return api.Msg{Kind: kind, From: 1, To: 2, View: 3, Inst: 4, Len: 5, Has: true, Members: 6, Source: 7, At: 8, Total: 9, Data: b("data"), Hop: 10, Seq: 11, Have: []int{12, 13, 14}, Need: []int{15, 16}, Index: 17, Entry: entry()}
}

// 11.1: two messages are the same, if all fields are, also those that their kind does not name, and whatever the bounds.
func TestSameField(t *testing.T) {
	for kind := -1; kind <= 10; kind++ {
		for _, m := range []api.Msg{{Kind: kind}, full(kind)} {
			if !mesg.Same(m, m) {
				t.Errorf("%s is not itself", told(m))
			}
			for i, x := range leaves() {
				y := m
				x.turn(&y)
				if mesg.Same(m, y) || mesg.Same(y, m) {
					t.Errorf("%s is %s, but for %s", told(y), told(m), x.name)
				}
				for k, z := range leaves() {
					other := m
					z.turn(&other)
					if mesg.Same(y, other) != (i == k) {
						t.Errorf("%s, %s: %v", x.name, z.name, i != k)
					}
				}
			}
		}
	}
}

// 11.1: two lists are the same, if they have the same in each place; nil is an empty one (rule 1).
func TestSameLists(t *testing.T) {
	m := full(api.MToken)
	for i, turn := range []func(m *api.Msg){
		func(m *api.Msg) { m.Data = b("dat") }, func(m *api.Msg) { m.Data = b("Data") }, func(m *api.Msg) { m.Data = b("datA") }, func(m *api.Msg) { m.Data = b("adta") }, func(m *api.Msg) { m.Data = nil },
		func(m *api.Msg) { m.Have = []int{12, 13} }, func(m *api.Msg) { m.Have = []int{0, 13, 14} }, func(m *api.Msg) { m.Have = []int{12, 0, 14} }, func(m *api.Msg) { m.Have = []int{12, 13, 0} }, func(m *api.Msg) { m.Have = []int{14, 13, 12} }, func(m *api.Msg) { m.Have = nil },
		func(m *api.Msg) { m.Need = []int{15} }, func(m *api.Msg) { m.Need = []int{16, 15} }, func(m *api.Msg) { m.Need = []int{15, 17} }, func(m *api.Msg) { m.Need = nil }, func(m *api.Msg) { m.Have, m.Need = m.Need, m.Have },
		func(m *api.Msg) { m.Entry.Cmd.Key = b("l") }, func(m *api.Msg) { m.Entry.Cmd.Val = b("av") }, func(m *api.Msg) { m.Entry.Cmd.Old = nil }, func(m *api.Msg) { m.Entry = api.Entry{} },
	} {
		y := m
		turn(&y)
		if mesg.Same(m, y) || mesg.Same(y, m) || !mesg.Same(y, y) {
			t.Errorf("%d: %s is %s", i, told(y), told(m))
		}
	}
	empty := api.Msg{Data: []byte{}, Have: []int{}, Need: []int{}, Entry: api.Entry{Cmd: api.Cmd{Key: []byte{}, Val: []byte{}, Old: []byte{}}}}
	if !mesg.Same(empty, api.Msg{}) || !mesg.Same(api.Msg{}, empty) {
		t.Error("an empty list is another than none")
	}
	apart := full(api.MToken)
	apart.Have = append(make([]int, 0, 9), 12, 13, 14)
	if !mesg.Same(m, apart) {
		t.Error("the same in another place is another")
	}
}

// 11.1: of all these messages each is itself alone.
func TestSameByText(t *testing.T) {
	l := slices.Concat(well()[:150], ill()[:150])
	for _, x := range l {
		for _, y := range l {
			if mesg.Same(x, y) != (told(x) == told(y)) {
				t.Errorf("%s, and %s: %v", told(x), told(y), mesg.Same(x, y))
			}
		}
	}
}
