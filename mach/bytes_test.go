package mach_test

import (
	"bytes"
	"math"
	"slices"
	"testing"

	"hocket/api"
	"hocket/mach"
	"hocket/pack"
)

// 10.2: an entry's bytes that are known, behind others, and behind none.
func TestKnownEntry(t *testing.T) {
	for i, x := range []struct {
		ahead []byte
		e     api.Entry
		want  []byte
	}{
		{nil, api.Entry{}, []byte{0, 0, 0, 0, 0, 0, 0}},
		{[]byte{9}, api.Entry{}, []byte{9, 0, 0, 0, 0, 0, 0, 0}},
		{[]byte{0x80, 0xff}, ent(1, 2, api.Cmd{Kind: 3, Who: 4, Key: b("k"), Val: b("va"), Old: b("old")}), []byte{0x80, 0xff, 1, 2, 3, 4, 1, 'k', 2, 'v', 'a', 3, 'o', 'l', 'd'}},
		{nil, ent(300, 128, api.Cmd{Kind: 127, Who: 999}), []byte{0xac, 2, 0x80, 1, 127, 0xe7, 7, 0, 0, 0}},
		{nil, ent(top, -1, api.Cmd{Kind: -5, Who: math.MinInt, Old: []byte{0}}), []byte{0x80, 0x80, 0x80, 0x80, 4, 0, 0, 0, 0, 0, 1, 0}},
	} {
		if got := mach.PutEntry(x.ahead, x.e); !bytes.Equal(got, x.want) {
			t.Errorf("%d: %x, not %x", i, got, x.want)
		}
	}
}

// isEntry tells if e is within the bounds of what GetEntry reads.
func isEntry(e api.Entry) bool {
	for _, n := range []int{e.Sess, e.Seq, e.Cmd.Kind, e.Cmd.Who} {
		if n > top {
			return false
		}
	}
	return len(e.Cmd.Key) <= longest && len(e.Cmd.Val) <= longest && len(e.Cmd.Old) <= longest
}

// heldEntry is e with numbers that can be written.
func heldEntry(e api.Entry) api.Entry {
	return ent(max(e.Sess, 0), max(e.Seq, 0), api.Cmd{Kind: max(e.Cmd.Kind, 0), Who: max(e.Cmd.Who, 0), Key: e.Cmd.Key, Val: e.Cmd.Val, Old: e.Cmd.Old})
}

// 10.2: whatever the entry is, it is laid as the sentence says, and read as it was, up to the bounds and no further.
func TestEntryBySentence(t *testing.T) {
	for _, e := range entries() {
		for _, ahead := range [][]byte{nil, {0}, b("some bytes"), bytes.Repeat([]byte{0xff}, 300)} {
			got := mach.PutEntry(ahead, e)
			if want := append(bytes.Clone(ahead), entryBySentence(e)...); !bytes.Equal(got, want) {
				t.Errorf("%s behind %x: %x, not %x", toldEntry(e), ahead, got, want)
			}
		}
		r := pack.Read(mach.PutEntry(nil, e))
		got := mach.GetEntry(r)
		want := heldEntry(e)
		if !isEntry(e) {
			want = api.Entry{}
		}
		if toldEntry(got) != toldEntry(want) || r.Ok() != isEntry(e) || r.End() != isEntry(e) {
			t.Errorf("%s is read as %s, Ok %v", toldEntry(e), toldEntry(got), r.Ok())
		}
	}
}

// 10.2: of an entry that is cut off none is read, and the reader is not Ok.
func TestEntryCutOff(t *testing.T) {
	for _, e := range entries() {
		if !isEntry(e) {
			continue
		}
		x := entryBySentence(e)
		for cut := range len(x) {
			r := pack.Read(x[:cut])
			if got := mach.GetEntry(r); toldEntry(got) != toldEntry(api.Entry{}) || r.Ok() {
				t.Errorf("%d bytes of %x are read as %s, Ok %v", cut, x, toldEntry(got), r.Ok())
			}
			if n := r.Num(highest); n != 0 || r.Ok() {
				t.Errorf("%d bytes of %x: reads on, %d", cut, x, n)
			}
		}
	}
}

// 10.2: a number of an entry that is not in its one form is none, in each place.
func TestEntryOneForm(t *testing.T) {
	for at := range 7 {
		for _, longer := range [][]byte{{0x80, 0}, {0x81, 0}, {0x81, 0x80, 0}} {
			x := slices.Replace(make([]byte, 7), at, at+1, longer...)
			r := pack.Read(append(x, make([]byte, 20)...))
			if got := mach.GetEntry(r); toldEntry(got) != toldEntry(api.Entry{}) || r.Ok() {
				t.Errorf("%x is read as %s", x, toldEntry(got))
			}
		}
	}
}

// 10.2: entries stand one behind the other, and between other things; one that can't be read is the zero one, and so are all behind it.
func TestEntriesInARow(t *testing.T) {
	var x []byte
	for i, e := range entries() {
		if isEntry(e) {
			x = mach.PutEntry(pack.Num(x, i), e)
		}
	}
	r := pack.Read(x)
	for i, e := range entries() {
		if !isEntry(e) {
			continue
		}
		if n := r.Num(highest); n != i {
			t.Fatalf("ahead of %d: %d", i, n)
		}
		if got := mach.GetEntry(r); toldEntry(got) != toldEntry(heldEntry(e)) || !r.Ok() {
			t.Fatalf("%d: %s, not %s", i, toldEntry(got), toldEntry(heldEntry(e)))
		}
	}
	if !r.End() {
		t.Error("not at its end")
	}
	r = pack.Read(mach.PutEntry(mach.PutEntry(nil, ent(top+1, 1, api.Cmd{})), ent(1, 1, api.Cmd{Kind: 1})))
	for range 3 {
		if got := mach.GetEntry(r); toldEntry(got) != toldEntry(api.Entry{}) || r.Ok() || r.End() {
			t.Errorf("behind one that can't be read: %s", toldEntry(got))
		}
	}
}

// 10.2: a reader that is not Ok gives the zero entry, though the bytes behind are one.
func TestEntryOfNoReader(t *testing.T) {
	r := pack.Read(mach.PutEntry([]byte{5}, ent(1, 1, api.Cmd{Kind: 1})))
	r.Num(4)
	if got := mach.GetEntry(r); toldEntry(got) != toldEntry(api.Entry{}) || r.Ok() {
		t.Error(toldEntry(got))
	}
}

// 10.2: a machine's bytes that are known.
func TestKnownBytes(t *testing.T) {
	for i, x := range []struct {
		m    api.Machine
		want []byte
	}{
		{api.Machine{}, []byte{0, 0, 0, 0, 0}},
		{of("ab", nil, nil, nil), []byte{2, 'a', 'b', 0, 0, 0, 0}},
		{of("", []string{"c", "", "de"}, nil, nil), []byte{0, 3, 1, 'c', 0, 2, 'd', 'e', 0, 0, 0}},
		{of("", nil, []int{7, 999, 0}, nil), []byte{0, 0, 3, 7, 0xe7, 7, 0, 0, 0}},
		{of("", nil, nil, []pair{{"", "v"}, {"k", ""}, {"l", "w"}}), []byte{0, 0, 0, 3, 0, 1, 'v', 1, 'k', 0, 1, 'l', 1, 'w', 0}},
		{of("", nil, nil, nil, last{1, 2, 3, 4, "r"}), []byte{0, 0, 0, 0, 1, 1, 2, 3, 5, 1, 'r'}},
		{of("", nil, nil, nil, last{1, 300, 0, -1, ""}, last{top, top, 10, top, "rr"}), []byte{0, 0, 0, 0, 2, 1, 0xac, 2, 0, 0, 0, 0x80, 0x80, 0x80, 0x80, 4, 0x80, 0x80, 0x80, 0x80, 4, 10, 0x81, 0x80, 0x80, 0x80, 4, 2, 'r', 'r'}},
		{of("a", []string{"b"}, []int{3}, []pair{{"k", "v"}}, last{5, 6, 7, 8, "r"}), []byte{1, 'a', 1, 1, 'b', 1, 3, 1, 1, 'k', 1, 'v', 1, 5, 6, 7, 9, 1, 'r'}},
	} {
		if got := mach.Encode(x.m); !bytes.Equal(got, x.want) {
			t.Errorf("%d: %x, not %x", i, got, x.want)
		}
		if got, ok := mach.Decode(x.want); !ok || told(got) != told(x.m) {
			t.Errorf("%d: %s, %v, not %s", i, told(got), ok, told(x.m))
		}
	}
}

// 10.2: whatever the machine is, its bytes are what the sentence says; of one that keeps its bounds they are read as it, of another as none.
func TestBytesBySentence(t *testing.T) {
	for _, m := range slices.Concat(well(), ill(), below()) {
		if got, want := mach.Encode(m), encodeBySentence(m); !bytes.Equal(got, want) {
			t.Errorf("%s: %x, not %x", told(m), got, want)
		}
	}
	for _, m := range well() {
		if got, ok := mach.Decode(encodeBySentence(m)); !ok || told(got) != told(m) || !mach.Same(got, m) {
			t.Errorf("%s is read as %s, %v", told(m), told(got), ok)
		}
	}
	for _, m := range ill() {
		if got, ok := mach.Decode(encodeBySentence(m)); ok || told(got) != told(api.Machine{}) {
			t.Errorf("%s is read as %s, %v", told(m), told(got), ok)
		}
	}
}

// 10.2: each part is held to its bound on its own, whatever the others are.
func TestEachBound(t *testing.T) {
	for i, x := range []struct {
		at    string
		least int
		most  int
		turn  func(m *api.Machine, n int)
	}{
		{"bytes of the register", 0, 16, func(m *api.Machine, n int) { m.Objects.Reg = make([]byte, n) }},
		{"values in the queue", 0, 8, func(m *api.Machine, n int) { m.Objects.Queue = make([][]byte, n) }},
		{"bytes of a value in the queue", 0, 16, func(m *api.Machine, n int) { m.Objects.Queue[1] = make([]byte, n) }},
		{"numbers in the lock", 0, 5, func(m *api.Machine, n int) { m.Objects.Lock = people(n) }},
		{"number in the lock", 0, 999, func(m *api.Machine, n int) { m.Objects.Lock = []int{n} }},
		{"keys", 0, 8, func(m *api.Machine, n int) { m.Objects.Map = of("", nil, nil, pairs(n)).Objects.Map }},
		{"bytes of a key", 0, 8, func(m *api.Machine, n int) { m.Objects.Map[2].Key = bytes.Repeat(b("z"), n) }},
		{"bytes of a key's value", 0, 16, func(m *api.Machine, n int) { m.Objects.Map[1].Val = make([]byte, n) }},
		{"sessions", 0, 8, func(m *api.Machine, n int) { m.Table = of("", nil, nil, nil, lasts(n)...).Table }},
		{"session", 1, top, func(m *api.Machine, n int) { m.Table = []api.Last{{Sess: n, Seq: 1}} }},
		{"what a session asked", 1, top, func(m *api.Machine, n int) { m.Table[1].Seq = n }},
		{"error", 0, 10, func(m *api.Machine, n int) { m.Table[1].Result.Err = api.Errno(n) }},
		{"result's number", -1, top, func(m *api.Machine, n int) { m.Table[1].Result.N = n }},
		{"bytes of a result's value", 0, 16, func(m *api.Machine, n int) { m.Table[1].Result.Val = make([]byte, n) }},
	} {
		for _, n := range []int{x.least - 1, x.least, x.least + 1, x.most - 1, x.most, x.most + 1, x.most + 2, x.most + 128} {
			// A list has no fewer than none; a number below all that are written is written as another; no key is empty that stands behind others.
			if n < 0 && x.least == 0 || n < -1 || x.at == "bytes of a key" && n == 0 {
				continue
			}
			m := of("reg", letters(3), people(3), pairs(3), lasts(3)...)
			x.turn(&m, n)
			got, ok := mach.Decode(mach.Encode(m))
			if want := n >= x.least && n <= x.most; ok != want || want && told(got) != told(m) || !want && told(got) != told(api.Machine{}) {
				t.Errorf("%d: %s: %d: %s, %v", i, x.at, n, told(got), ok)
			}
		}
	}
}

// 10.2: a lock of which one is in it twice is none, and so are a map and a table that do not rise, wherever that is.
func TestRows(t *testing.T) {
	for i := range mostLock {
		for k := range mostLock {
			m := of("", nil, people(mostLock), nil)
			m.Objects.Lock[i] = m.Objects.Lock[k]
			if _, ok := mach.Decode(mach.Encode(m)); ok != (i == k) {
				t.Errorf("lock %v: %v", m.Objects.Lock, ok)
			}
		}
	}
	for i := range mostMap {
		for k := range mostMap {
			swapped, alike := of("", nil, nil, pairs(mostMap), lasts(mostTable)...), of("", nil, nil, pairs(mostMap), lasts(mostTable)...)
			s, a := swapped.Objects.Map, alike.Objects.Map
			s[i], s[k] = s[k], s[i]
			a[i].Key = bytes.Clone(a[k].Key)
			for _, m := range []api.Machine{swapped, alike} {
				if _, ok := mach.Decode(mach.Encode(m)); ok != (i == k) {
					t.Errorf("map %q: %v", m.Objects.Map, ok)
				}
			}
			swapped, alike = of("", nil, nil, pairs(mostMap), lasts(mostTable)...), of("", nil, nil, pairs(mostMap), lasts(mostTable)...)
			l := swapped.Table
			l[i], l[k] = l[k], l[i]
			alike.Table[i].Sess = alike.Table[k].Sess
			for _, m := range []api.Machine{swapped, alike} {
				if _, ok := mach.Decode(mach.Encode(m)); ok != (i == k) {
					t.Errorf("%s: %v", told(m), ok)
				}
			}
		}
	}
	// What a session asked, and what it was answered, need not rise; a lock does not.
	m := of("", nil, []int{5, 1, 9}, nil, last{1, 9, 3, 9, "z"}, last{2, 9, 3, 9, "z"}, last{3, 1, 0, -1, ""})
	if got, ok := mach.Decode(mach.Encode(m)); !ok || told(got) != told(m) {
		t.Error(told(got), ok)
	}
}

// reads tells of bytes that Decode answers otherwise than its sentence.
func reads(t *testing.T, x []byte) {
	t.Helper()
	got, ok := mach.Decode(x)
	want, is := decodeBySentence(x)
	if ok != is || told(got) != told(want) {
		t.Errorf("%x is read as %s, %v, not %s, %v", x, told(got), ok, told(want), is)
	}
	if ok && !bytes.Equal(mach.Encode(got), x) {
		t.Errorf("%x is read as %s, which is %x", x, told(got), mach.Encode(got))
	}
}

// 10.2, W6: of bytes that are cut off, or have more behind them, there is no machine.
func TestCutOff(t *testing.T) {
	for _, m := range well() {
		x := encodeBySentence(m)
		for cut := range len(x) {
			if got, ok := mach.Decode(x[:cut]); ok || told(got) != told(api.Machine{}) {
				t.Errorf("%d bytes of %x are read as %s, %v", cut, x, told(got), ok)
			}
		}
		for _, more := range [][]byte{{0}, {1}, {0x80}, {0, 0, 0, 0, 0}, x} {
			if got, ok := mach.Decode(append(bytes.Clone(x), more...)); ok || told(got) != told(api.Machine{}) {
				t.Errorf("%x and %x are read as %s, %v", x, more, told(got), ok)
			}
		}
	}
}

// 10.2, W6: whatever stands in the place of a byte, or between two, or is left out, the bytes are those of a machine, or of none.
func TestTurnedBytes(t *testing.T) {
	for i, m := range slices.Concat(well(), ill(), below()) {
		x := encodeBySentence(m)
		if len(x) > 250 && i%4 != 0 {
			continue
		}
		for at := range x {
			for _, c := range []byte{0, 1, 2, 3, 5, 6, 8, 9, 10, 11, 16, 17, 127, 128, 129, 255, x[at] + 1, x[at] - 1, x[at] ^ 128} {
				y := bytes.Clone(x)
				y[at] = c
				reads(t, y)
				reads(t, slices.Insert(bytes.Clone(x), at, c))
			}
			reads(t, slices.Delete(bytes.Clone(x), at, at+1))
			// A number in a longer form says the same, and is none.
			reads(t, slices.Replace(bytes.Clone(x), at, at+1, x[at]|128, 0))
		}
	}
}

// 10.2, W6: of all short bytes those of a machine are read, each as its own, and no others.
func TestShortBytes(t *testing.T) {
	few := []byte{0, 1, 2, 3, 'a', 0x80}
	all := [][]byte{nil}
	for size := 0; size <= 7; size++ {
		var longer [][]byte
		for _, x := range all {
			reads(t, x)
			for _, c := range few {
				longer = append(longer, append(bytes.Clone(x), c))
			}
		}
		all = longer
	}
}

// 10.2: each machine has bytes of its own.
func TestBytesDiffer(t *testing.T) {
	seen := map[string]string{}
	for _, m := range well() {
		for _, x := range append(turned(m), m) {
			if !keeps(x) {
				continue
			}
			form := string(mach.Encode(x))
			if was, there := seen[form]; there && was != told(x) {
				t.Errorf("%s, and %s, are %x", was, told(x), form)
			}
			seen[form] = told(x)
		}
	}
	if len(seen) < len(well()) {
		t.Error(len(seen))
	}
}

// 10.2, 10.4: what is long is written in time, and read as none.
func TestLong(t *testing.T) {
	var m api.Machine
	for i := range 1 << 17 {
		m.Objects.Queue = append(m.Objects.Queue, []byte{1, 2, 3})
		m.Objects.Lock = append(m.Objects.Lock, i)
		m.Objects.Map = append(m.Objects.Map, api.Pair{Val: []byte{byte(i)}})
		m.Table = append(m.Table, api.Last{Sess: i, Result: api.Result{N: i}})
	}
	m.Objects.Reg = make([]byte, 1<<20)
	x := mach.Encode(m)
	if !bytes.Equal(x, mach.Encode(again(m))) || !bytes.HasPrefix(x, text(m.Objects.Reg)) {
		t.Errorf("%d bytes", len(x))
	}
	if got, ok := mach.Decode(x); ok || told(got) != told(api.Machine{}) {
		t.Error("a machine that is too long is read")
	}
	e := ent(1, 1, api.Cmd{Kind: 1, Val: x})
	if got := mach.PutEntry(x, e); len(got) <= 2*len(x) || !bytes.HasPrefix(got, x) {
		t.Errorf("%d bytes behind %d", len(got), len(x))
	}
}
