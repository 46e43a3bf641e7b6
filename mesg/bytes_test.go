package mesg_test

import (
	"bytes"
	"math"
	"slices"
	"testing"

	"hocket/api"
	"hocket/mesg"
)

// 11.1: bytes that are known, of each kind.
func TestKnownBytes(t *testing.T) {
	for i, x := range []struct {
		m    api.Msg
		want []byte
	}{
		{api.Msg{Kind: api.MJoin}, []byte{1, 0, 0, 0}},
		{api.Msg{Kind: api.MJoin, From: 6, To: 5, View: 300}, []byte{1, 6, 5, 0xac, 2}},
		{api.Msg{Kind: api.MJoin, From: 1, To: 2, View: high}, []byte{1, 1, 2, 0x80, 0x80, 0x80, 0x80, 0x80, 0x20}},
		{api.Msg{Kind: api.MState}, []byte{2, 0, 0, 0, 0, 0, 0}},
		{api.Msg{Kind: api.MState, From: 1, To: 2, View: 3, Inst: 4, Len: 128, Has: true}, []byte{2, 1, 2, 3, 4, 0x80, 1, 1}},
		{api.Msg{Kind: api.MCommit, From: 1, To: 2, View: 3, Members: 127, Source: 6, Len: 4}, []byte{3, 1, 2, 3, 127, 6, 4}},
		{api.Msg{Kind: api.MFetch, From: 1, To: 2, View: 3, At: 64}, []byte{4, 1, 2, 3, 64}},
		{api.Msg{Kind: api.MChunk, From: 1, To: 2, View: 3, At: 4, Total: 500, Data: b("data")}, []byte{5, 1, 2, 3, 4, 0xf4, 3, 4, 'd', 'a', 't', 'a'}},
		{api.Msg{Kind: api.MReady, From: 1, To: 2, View: 3}, []byte{6, 1, 2, 3}},
		{api.Msg{Kind: api.MToken, From: 1, To: 2, View: 3, Hop: 4, Seq: 5}, []byte{7, 1, 2, 3, 4, 5, 0, 0}},
		{api.Msg{Kind: api.MToken, From: 1, To: 2, View: 3, Hop: 4, Seq: 5, Have: []int{6, 300}, Need: []int{7, 0, 7}}, []byte{7, 1, 2, 3, 4, 5, 2, 6, 0xac, 2, 3, 7, 0, 7}},
		{api.Msg{Kind: api.MData, From: 1, To: 2, View: 3, Index: 4}, []byte{8, 1, 2, 3, 4, 0, 0, 0, 0, 0, 0, 0}},
		{api.Msg{Kind: api.MData, From: 1, To: 2, View: 3, Index: 4, Entry: entry()}, []byte{8, 1, 2, 3, 4, 0xac, 2, 2, 3, 0xe7, 7, 1, 'k', 2, 'v', 'a', 3, 'o', 'l', 'd'}},
	} {
		if got := mesg.Encode(x.m); !bytes.Equal(got, x.want) {
			t.Errorf("%d: %x, not %x", i, got, x.want)
		}
		if got, ok := mesg.Decode(x.want); !ok || told(got) != told(x.m) {
			t.Errorf("%d: %s, %v, not %s", i, told(got), ok, told(x.m))
		}
	}
	if got := mesg.Encode(api.Msg{}); len(got) != 0 {
		t.Errorf("the zero message is %x", got)
	}
}

// 11.1, W6: bytes that are known to be none's.
func TestKnownNone(t *testing.T) {
	for i, x := range [][]byte{
		nil, {}, {0}, {1}, {1, 0, 0}, {0, 0, 0, 0}, {9, 0, 0, 0}, {0x80, 1, 0, 0, 0}, {0x81, 0, 0, 0, 0}, {1, 0x81, 0, 0, 0}, {1, 7, 0, 0}, {1, 0, 7, 0}, {1, 0, 0, 0, 0}, {1, 0, 0, 0x81, 0x80, 0x80, 0x80, 0x80, 0x20},
		{2, 0, 0, 0, 0, 0, 2}, {2, 0, 0, 0, 0, 0, 0x81, 0}, {3, 0, 0, 0, 0x80, 1, 0, 0}, {3, 0, 0, 0, 0, 7, 0}, {5, 0, 0, 0, 0, 0, 1}, append([]byte{5, 0, 0, 0, 0, 0, 65}, make([]byte, 65)...),
		append([]byte{7, 0, 0, 0, 0, 0, 8, 1, 1, 1, 1, 1, 1, 1, 1}, 0), append([]byte{7, 0, 0, 0, 0, 0, 0, 9}, make([]byte, 9)...), {7, 0, 0, 0, 0, 0, 1, 0x81, 0x80, 0x80, 0x80, 0x80, 0x20, 0}, {8, 0, 0, 0, 0, 0x81, 0x80, 0x80, 0x80, 4, 0, 0, 0, 0, 0, 0}, append([]byte{8, 0, 0, 0, 0, 0, 0, 0, 0, 0, 0, 33}, make([]byte, 33)...),
	} {
		if got, ok := mesg.Decode(x); ok || told(got) != none {
			t.Errorf("%d: %x is read as %s, %v", i, x, told(got), ok)
		}
	}
}

// 11.1: whatever the message is, its bytes are what the sentence says, and are read as it; of one that is none there are none, and what would be its bytes is none's.
func TestBytesBySentence(t *testing.T) {
	for _, m := range well() {
		x := laid(m)
		if got := mesg.Encode(m); !bytes.Equal(got, x) {
			t.Errorf("%s: %x, not %x", told(m), got, x)
		}
		if got, ok := mesg.Decode(x); !ok || told(got) != told(m) || !mesg.Same(got, m) {
			t.Errorf("%s is read as %s, %v", told(m), told(got), ok)
		}
	}
	for _, m := range ill() {
		if got := mesg.Encode(m); len(got) != 0 {
			t.Errorf("%s: %x", told(m), got)
		}
		reads(t, laid(m))
	}
}

// heads are messages that are none whatever their kind names.
func heads(kind int) []api.Msg {
	var l []api.Msg
	for _, f := range head() {
		for _, n := range []int{-1, math.MinInt, f.most + 1, math.MaxInt} {
			l = append(l, set(small(kind), f.name, n))
		}
	}
	return l
}

// 11.1: each field is held to its bound on its own, of each kind, when it is written and when it is read.
func TestEachBound(t *testing.T) {
	for _, kind := range kinds() {
		for _, m := range heads(kind) {
			if got := mesg.Encode(m); len(got) != 0 {
				t.Errorf("%s: %x", told(m), got)
			}
		}
		for i, f := range append(head(), named(kind)...) {
			for _, n := range []int{math.MinInt, -128, -1, 0, 1, 2, 5, f.most - 1, f.most, f.most + 1, f.most + 2, f.most + 127, 2*f.most + 1, 1<<40 + 1, highest - 1, highest, math.MaxInt} {
				m := small(kind)
				if f.name == "Entry" || f.name == "Has" {
					continue
				}
				if _, is := at(&m, f.name).Interface().(int); !is && !within(n, 1<<10) {
					continue
				}
				m = set(m, f.name, n)
				fits := within(n, f.most)
				if got := mesg.Encode(m); len(got) > 0 != fits || fits && !bytes.Equal(got, laid(m)) {
					t.Errorf("kind %d, %s %d: %x", kind, f.name, n, got)
				}
				if n < 0 || n > highest {
					continue
				}
				got, ok := mesg.Decode(laid(m))
				if ok != fits || fits && told(got) != told(m) || !fits && told(got) != none {
					t.Errorf("kind %d, %s %d is read as %s, %v", kind, f.name, n, told(got), ok)
				}
			}
			// A number in place of the field, as none of them can be.
			l := parts(small(kind))
			l[i+1] = num(highest)
			if got, ok := mesg.Decode(slices.Concat(l...)); ok || told(got) != none {
				t.Errorf("kind %d, %s 2^62 is read as %s, %v", kind, f.name, told(got), ok)
			}
		}
	}
}

// 11.1: a Has is 0 or 1.
func TestHas(t *testing.T) {
	for _, m := range []api.Msg{{Kind: api.MState}, small(api.MState), big(api.MState)} {
		for n := range 300 {
			l := parts(m)
			l[len(l)-1] = num(n)
			got, ok := mesg.Decode(slices.Concat(l...))
			if ok != (n < 2) || ok && got.Has != (n == 1) || !ok && told(got) != none {
				t.Errorf("%d is read as %s, %v", n, told(got), ok)
			}
		}
	}
}

// 11.1: lists have each length up to their most, and each number in them up to 2^40, in each place.
func TestLists(t *testing.T) {
	for have := range 11 {
		for need := range 11 {
			for _, n := range []int{0, 1, 127, 128, high - 1, high, high + 1, highest} {
				m := api.Msg{Kind: api.MToken, Have: make([]int, have), Need: make([]int, need)}
				for place := range have + need {
					l, i := m.Have, place
					if place >= have {
						l, i = m.Need, place-have
					}
					l[i] = n
					fits := have <= 7 && need <= 8 && n <= high
					if got := mesg.Encode(m); len(got) > 0 != fits || fits && !bytes.Equal(got, laid(m)) {
						t.Errorf("%s: %x", told(m), got)
					}
					if got, ok := mesg.Decode(laid(m)); ok != fits || fits && told(got) != told(m) || !fits && told(got) != none {
						t.Errorf("%s is read as %s, %v", told(m), told(got), ok)
					}
					l[i] = 0
				}
			}
		}
	}
}

// 11.1: an entry is held to its bounds, as they are in mach, part by part.
func TestEntryBounds(t *testing.T) {
	for i := range 7 {
		for _, e := range []api.Entry{{}, entry(), big(api.MData).Entry} {
			for _, n := range []int{math.MinInt, -1, 0, 1, 31, 32, 33, 34, 127, 128, 300, top - 1, top, top + 1, high, highest, math.MaxInt} {
				if i > 3 && !within(n, 300) {
					continue
				}
				m := api.Msg{Kind: api.MData, From: 1, To: 2, View: 3, Index: 4, Entry: turnEntry(e, i, n)}
				fits := isEntry(m.Entry)
				if got := mesg.Encode(m); len(got) > 0 != fits || fits && !bytes.Equal(got, laid(m)) {
					t.Errorf("%s: %x", told(m), got)
				}
				if n < 0 || n > highest {
					continue
				}
				if got, ok := mesg.Decode(laid(m)); ok != fits || fits && told(got) != told(m) || !fits && told(got) != none {
					t.Errorf("%s is read as %s, %v", told(m), told(got), ok)
				}
			}
		}
	}
}

// 11.1: a message of another kind is none, whatever else it is.
func TestKinds(t *testing.T) {
	for _, kind := range []int{math.MinInt, -high, -9, -8, -1, 0, 9, 10, 127, 128, 129, 130, 256, 257, 258, 264, 1 << 32, 1<<32 + 1, high, highest, math.MaxInt} {
		for _, m := range []api.Msg{{}, full(0), big(api.MToken), big(api.MData), small(api.MChunk)} {
			m.Kind = kind
			if got := mesg.Encode(m); len(got) != 0 {
				t.Errorf("%s: %x", told(m), got)
			}
			for _, behind := range kinds() {
				l := parts(small(behind))
				l[0] = num(kind)
				if got, ok := mesg.Decode(slices.Concat(l...)); ok || told(got) != none {
					t.Errorf("kind %d is read as %s, %v", kind, told(got), ok)
				}
			}
		}
	}
}

// wild are ways to lay a field beyond its bounds, or within them.
func wild() []func(m *api.Msg) {
	return []func(m *api.Msg){
		func(m *api.Msg) { m.Inst = -1 }, func(m *api.Msg) { m.Inst = high + 1 }, func(m *api.Msg) { m.Len = math.MinInt }, func(m *api.Msg) { m.Len = 5 }, func(m *api.Msg) { m.Has = true },
		func(m *api.Msg) { m.Members = -1 }, func(m *api.Msg) { m.Members = 128 }, func(m *api.Msg) { m.Source = 7 }, func(m *api.Msg) { m.Source = -1 }, func(m *api.Msg) { m.At = math.MaxInt }, func(m *api.Msg) { m.At = 1 }, func(m *api.Msg) { m.Total = -1 },
		func(m *api.Msg) { m.Data = make([]byte, 65) }, func(m *api.Msg) { m.Data = b("d") }, func(m *api.Msg) { m.Hop = high + 1 }, func(m *api.Msg) { m.Seq = -1 }, func(m *api.Msg) { m.Have = make([]int, 8) }, func(m *api.Msg) { m.Have = []int{-1} }, func(m *api.Msg) { m.Need = make([]int, 9) }, func(m *api.Msg) { m.Need = []int{3} },
		func(m *api.Msg) { m.Index = -1 }, func(m *api.Msg) { m.Index = high + 1 }, func(m *api.Msg) { m.Entry.Sess = top + 1 }, func(m *api.Msg) { m.Entry.Cmd.Who = -1 }, func(m *api.Msg) { m.Entry.Cmd.Val = make([]byte, 33) }, func(m *api.Msg) { m.Entry = entry() },
	}
}

// 11.1: fields that a kind does not name do not count, one by one and all at once: they are not written, do not make it none, and are read as zero.
func TestOtherFields(t *testing.T) {
	for _, kind := range kinds() {
		for _, m := range []api.Msg{{Kind: kind}, small(kind), big(kind)} {
			x := laid(m)
			all := m
			for i, turn := range wild() {
				y := m
				turn(&y)
				if told(bare(y)) != told(m) || told(y) == told(m) {
					continue
				}
				turn(&all)
				for _, z := range []api.Msg{y, all} {
					if got := mesg.Encode(z); !bytes.Equal(got, x) {
						t.Errorf("%d: %s: %x, not %x", i, told(z), got, x)
					}
					if got, ok := mesg.Decode(mesg.Encode(z)); !ok || told(got) != told(m) || mesg.Same(got, z) {
						t.Errorf("%d: %s is read as %s, %v", i, told(z), told(got), ok)
					}
				}
			}
		}
	}
}

// 11.1, W6: bytes that are cut off, or have more behind them, are none's.
func TestCutOff(t *testing.T) {
	for _, m := range well() {
		x := laid(m)
		for cut := range len(x) {
			if got, ok := mesg.Decode(x[:cut]); ok || told(got) != none {
				t.Errorf("%d bytes of %x are read as %s, %v", cut, x, told(got), ok)
			}
		}
		for _, more := range [][]byte{{0}, {1}, {0x80}, {0xff}, {0, 0, 0, 0}, x} {
			if got, ok := mesg.Decode(append(bytes.Clone(x), more...)); ok || told(got) != none {
				t.Errorf("%x and %x are read as %s, %v", x, more, told(got), ok)
			}
		}
	}
}

// 11.1, W6: whatever stands in the place of a byte, or between two, or is left out, the bytes are those of a message, or of none.
func TestTurnedBytes(t *testing.T) {
	for i, m := range slices.Concat(well(), ill()) {
		x := laid(m)
		if i%5 != 0 || len(x) > 200 && i%20 != 0 {
			continue
		}
		for at := range x {
			for _, c := range []byte{0, 1, 2, 3, 4, 5, 6, 7, 8, 9, 32, 33, 64, 65, 127, 128, 129, 255, x[at] + 1, x[at] - 1, x[at] ^ 128} {
				y := bytes.Clone(x)
				y[at] = c
				reads(t, y)
				reads(t, slices.Insert(bytes.Clone(x), at, c))
			}
			reads(t, slices.Delete(bytes.Clone(x), at, at+1))
			// A number in a longer form says the same, and is none.
			reads(t, slices.Replace(bytes.Clone(x), at, at+1, x[at]|128, 0))
		}
	}
}

// 11.1, W6: each number of a message in a longer form makes it none.
func TestOneForm(t *testing.T) {
	for _, kind := range kinds() {
		for _, m := range []api.Msg{{Kind: kind}, small(kind)} {
			l := parts(m)
			for i, part := range l {
				// Of a list the number is how many are in it.
				end := slices.IndexFunc(part, func(c byte) bool { return c < 128 })
				longer := slices.Replace(bytes.Clone(part), end, end+1, part[end]|128, 0)
				x := slices.Concat(slices.Concat(l[:i]...), longer, slices.Concat(l[i+1:]...))
				if got, ok := mesg.Decode(x); ok || told(got) != none {
					t.Errorf("%x is read as %s", x, told(got))
				}
			}
		}
	}
}

// 11.2, W6: of a message one bit that is turned gives another message, or none.
func TestOneBit(t *testing.T) {
	for _, m := range well() {
		x := laid(m)
		for bit := range 8 * len(x) {
			y := bytes.Clone(x)
			y[bit/8] ^= 1 << (bit % 8)
			if got, ok := mesg.Decode(y); ok && (mesg.Same(got, m) || !isMessage(got)) {
				t.Errorf("bit %d of %x: %s", bit, x, told(got))
			}
			reads(t, y)
		}
	}
}

// 11.2, W6: of all short bytes those of a message are read, each as its own, and no others.
func TestShortBytes(t *testing.T) {
	few := []byte{0, 1, 2, 6, 7, 8, 0x80}
	all := [][]byte{nil}
	for size := 0; size <= 5; size++ {
		var longer [][]byte
		for _, x := range all {
			reads(t, x)
			for kind := range 11 {
				reads(t, append([]byte{byte(kind), 1, 2, 3}, x...))
			}
			for _, c := range few {
				longer = append(longer, append(bytes.Clone(x), c))
			}
		}
		all = longer
	}
	for i := range 256 {
		for k := range 256 {
			reads(t, []byte{byte(i), byte(k), 0, 0})
			reads(t, []byte{1, 0, byte(i), byte(k)})
			reads(t, []byte{byte(i), 0, 0, 0, byte(k), 0, 0})
			reads(t, []byte{7, 0, 0, 0, 0, 0, byte(i), byte(k), 0})
			reads(t, []byte{8, 0, 0, 0, 0, 0, 0, 0, 0, byte(i), byte(k), 0})
		}
	}
}

// 11.2, W6: each message has bytes of its own.
func TestBytesDiffer(t *testing.T) {
	seen := map[string]string{}
	for _, m := range well() {
		all := []api.Msg{m}
		for _, x := range leaves() {
			y := m
			x.turn(&y)
			all = append(all, y)
		}
		for _, x := range all {
			if !isMessage(x) {
				continue
			}
			form, text := string(mesg.Encode(x)), told(bare(x))
			if was, there := seen[form]; form == "" || there && was != text {
				t.Errorf("%s, and %s, are %x", was, text, form)
			}
			seen[form] = text
		}
	}
	if len(seen) < 200 {
		t.Error(len(seen))
	}
}

// 11.1, 11.3: what is long is none, in time, and so are bytes that say that much is behind them.
func TestLong(t *testing.T) {
	huge, row := make([]byte, 1<<22), make([]int, 1<<20)
	e := api.Entry{Sess: 1, Seq: 1, Cmd: api.Cmd{Kind: 1, Key: huge, Val: huge, Old: huge}}
	for _, m := range []api.Msg{{Kind: api.MChunk, Data: huge}, {Kind: api.MToken, Have: row}, {Kind: api.MToken, Need: row}, {Kind: api.MData, Entry: e}} {
		if got := mesg.Encode(m); len(got) != 0 {
			t.Errorf("kind %d: %d bytes", m.Kind, len(got))
		}
		if got, ok := mesg.Decode(laid(m)); ok || told(got) != none {
			t.Errorf("kind %d is read", m.Kind)
		}
		if y := m; !mesg.Same(m, y) || mesg.Same(m, api.Msg{Kind: m.Kind}) {
			t.Errorf("kind %d", m.Kind)
		}
		// Where its kind does not name them, the same lists do not count.
		m.Kind = api.MJoin
		if got := mesg.Encode(m); !bytes.Equal(got, []byte{1, 0, 0, 0}) {
			t.Errorf("%d bytes", len(got))
		}
	}
	for kind := range 10 {
		for _, n := range []int{1 << 10, 1 << 31, high, highest} {
			for size := range 8 {
				x := slices.Concat([]byte{byte(kind), 0, 0, 0}, make([]byte, size), num(n))
				reads(t, x)
				reads(t, append(x, huge[:1000]...))
			}
		}
	}
	for _, c := range []byte{0, 1, 2, 0x7f, 0x80, 0xff} {
		reads(t, bytes.Repeat([]byte{c}, 1<<20))
		for _, kind := range kinds() {
			reads(t, append([]byte{byte(kind)}, bytes.Repeat([]byte{c}, 100)...))
		}
	}
}

// 11.3: whatever the numbers and lists are, no call panics, and each answers by the sentence.
func TestAnyNumbers(t *testing.T) {
	for _, n := range []int{math.MinInt, math.MinInt + 1, -high, -1, 0, 1, 6, 7, 8, 9, 64, 65, 127, 128, top, top + 1, high, high + 1, highest, math.MaxInt} {
		for kind := -2; kind <= 12; kind++ {
			list, row := make([]byte, n&127), slices.Repeat([]int{n}, n&15)
			m := api.Msg{Kind: kind, From: n, To: n, View: n, Inst: n, Len: n, Has: n > 0, Members: n, Source: n, At: n, Total: n, Data: list, Hop: n, Seq: n, Have: row, Need: row, Index: n, Entry: api.Entry{Sess: n, Seq: n, Cmd: api.Cmd{Kind: n, Who: n, Key: list, Val: list, Old: list}}}
			for _, f := range head() {
				m = set(m, f.name, 0)
				if got := mesg.Encode(m); len(got) > 0 != isMessage(m) || isMessage(m) && !bytes.Equal(got, laid(m)) {
					t.Errorf("%s: %x", told(m), got)
				}
				if x, ok := mesg.Decode(mesg.Encode(m)); ok != isMessage(m) || ok && told(x) != told(bare(m)) {
					t.Errorf("%s is read as %s, %v", told(m), told(x), ok)
				}
			}
			m.Kind = n
			if got := mesg.Encode(m); len(got) > 0 != isMessage(m) {
				t.Errorf("%s: %x", told(m), got)
			}
			mesg.Same(m, api.Msg{})
			mesg.Same(api.Msg{}, m)
		}
	}
}

// 11.1 to 11.3: whatever the bytes are, they are a message's, or none's, and no call panics.
func FuzzDecode(f *testing.F) {
	for _, kind := range kinds() {
		for _, m := range []api.Msg{{Kind: kind}, small(kind), big(kind)} {
			f.Add(laid(m))
		}
	}
	for _, m := range ill() {
		f.Add(laid(m))
	}
	f.Fuzz(func(t *testing.T, x []byte) {
		reads(t, x)
		if m, ok := mesg.Decode(x); ok && (!isMessage(m) || told(m) != told(bare(m)) || !mesg.Same(m, m)) {
			t.Errorf("%x is read as %s", x, told(m))
		}
	})
}
