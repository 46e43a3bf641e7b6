package mach_test

import (
	"bytes"
	"fmt"
	"math"
	"slices"
	"testing"

	"hocket/api"
	"hocket/mach"
	"hocket/objs"
	"hocket/pack"
)

// some gives numbers one after the other, the same of the same seed.
type some uint32

// next answers a number below most.
func (x *some) next(most int) int {
	*x = *x*1664525 + 1013904223
	return int(*x>>8) % most
}

// word answers up to most bytes.
func (x *some) word(most int) []byte {
	return bytes.Repeat([]byte{byte('a' + x.next(5))}, x.next(most+1))
}

// entry answers an entry of one of so many sessions, which goes on, or asks again, or is behind.
func (x *some) entry(sessions int, at map[int]int) api.Entry {
	s := 1 + x.next(sessions)
	seq := max(0, at[s]+x.next(6)-2)
	c := api.Cmd{Kind: x.next(13), Who: x.next(8)*143 - 1, Key: x.word(9), Val: x.word(17), Old: x.word(2)}
	if x.next(2) == 0 {
		// Few pops, frees and deletes: what has a bound comes to it.
		c.Kind = []int{api.CPush, api.CTake, api.CPut, api.CWrite, api.CPut, api.CGet, api.CTake}[x.next(7)]
	}
	at[s] = max(at[s], seq)
	return ent(s, seq, c)
}

// log answers so many entries.
func log(seed, many int) []api.Entry {
	x := some(uint32(seed)*2654435761 + 1)
	var l []api.Entry
	at := map[int]int{}
	for range many {
		l = append(l, x.entry(3+seed%9, at))
	}
	return l
}

// model is all objects, with what each session asked last, and was answered, by Go's own means.
type model struct {
	s   api.Objects
	seq map[int]int
	was map[int]api.Result
}

// step does e, and answers its result.
func (m *model) step(e api.Entry) api.Result {
	at, there := m.seq[e.Sess]
	switch {
	case e.Sess < 1 || e.Sess > top || e.Seq < 1 || e.Seq > top:
		return api.Result{Err: 10}
	case there && e.Seq < at:
		return api.Result{Err: 8}
	case there && e.Seq == at:
		return m.was[e.Sess]
	case !there && len(m.seq) >= mostTable:
		return api.Result{Err: 9}
	}
	next, r := objs.Apply(m.s, e.Cmd)
	m.s, m.seq[e.Sess], m.was[e.Sess] = next, e.Seq, r
	return r
}

// machine is what the model holds.
func (m *model) machine() api.Machine {
	out := api.Machine{Objects: m.s}
	for s, seq := range m.seq {
		out.Table = append(out.Table, api.Last{Sess: s, Seq: seq, Result: m.was[s]})
	}
	slices.SortFunc(out.Table, func(a, b api.Last) int { return a.Sess - b.Sess })
	return out
}

// 10.1, W1: however many entries there are, each is answered by what those ahead of it left, and by nothing else.
func TestOneLog(t *testing.T) {
	for seed := range 40 {
		var m api.Machine
		all := &model{seq: map[int]int{}, was: map[int]api.Result{}}
		for i, e := range log(seed, 600) {
			was := told(m)
			next, r := mach.Step(m, e)
			want := all.step(e)
			if gone(next, r) != gone(all.machine(), want) {
				t.Fatalf("%d, %d: %s, of %s: %s, not %s", seed, i, toldEntry(e), was, gone(next, r), gone(all.machine(), want))
			}
			if told(m) != was {
				t.Fatalf("%d, %d: %s: %s, then %s", seed, i, toldEntry(e), was, told(m))
			}
			m = next
		}
	}
}

// 10.3: what entries make of the zero machine keeps its bounds, is read from its bytes as what it was, and has been to each bound.
func TestFromBytes(t *testing.T) {
	var queue, lock, pairs, table int
	for seed := range 40 {
		var m api.Machine
		for i, e := range log(seed, 400) {
			next, r := mach.Step(m, e)
			read, ok := mach.Decode(mach.Encode(m))
			if !ok || !mach.Same(read, m) || !keeps(m) {
				t.Fatalf("%d, %d: %s is read as %s, %v", seed, i, told(m), told(read), ok)
			}
			if got := gone(mach.Step(read, e)); got != gone(next, r) {
				t.Fatalf("%d, %d: %s, of %s: %s, not %s", seed, i, toldEntry(e), told(m), got, gone(next, r))
			}
			m = next
			queue, lock, pairs, table = max(queue, len(m.Objects.Queue)), max(lock, len(m.Objects.Lock)), max(pairs, len(m.Objects.Map)), max(table, len(m.Table))
		}
	}
	if queue != mostQueue || lock != mostLock || pairs != mostMap || table != mostTable {
		t.Error(queue, lock, pairs, table)
	}
}

// 10.3, W1, W4: whoever has the bytes of a machine at some place of a log, and does the rest of it, comes to the same, and is answered the same.
func TestFromAnyPlace(t *testing.T) {
	for seed := range 8 {
		l := log(seed, 90)
		// At each place the bytes of the machine, and what the entry there is answered.
		var at [][]byte
		var answers []string
		var m api.Machine
		for _, e := range l {
			at = append(at, mach.Encode(m))
			next, r := mach.Step(m, e)
			answers = append(answers, toldResult(r))
			m = next
		}
		for from := range l {
			x, ok := mach.Decode(at[from])
			if !ok {
				t.Fatalf("%d, %d: %x is none", seed, from, at[from])
			}
			for i := from; i < len(l); i++ {
				next, r := mach.Step(x, l[i])
				if toldResult(r) != answers[i] {
					t.Fatalf("%d, from %d, %d: %s, not %s", seed, from, i, toldResult(r), answers[i])
				}
				x = next
			}
			if !mach.Same(x, m) || !bytes.Equal(mach.Encode(x), mach.Encode(m)) {
				t.Fatalf("%d, from %d: %s, not %s", seed, from, told(x), told(m))
			}
		}
	}
}

// 10.3, W1: a log that is read from its bytes comes to what the log comes to.
func TestLogFromBytes(t *testing.T) {
	for seed := range 20 {
		l := log(seed, 100)
		var x []byte
		for _, e := range l {
			e.Cmd.Who = max(e.Cmd.Who, 0)
			x = mach.PutEntry(x, e)
		}
		r := pack.Read(x)
		var m, read api.Machine
		for i, e := range l {
			e.Cmd.Who = max(e.Cmd.Who, 0)
			got := mach.GetEntry(r)
			if !mach.SameEntry(got, e) || toldEntry(got) != toldEntry(e) {
				t.Fatalf("%d, %d: %s, not %s", seed, i, toldEntry(got), toldEntry(e))
			}
			next, a := mach.Step(m, e)
			nextRead, b := mach.Step(read, got)
			if gone(next, a) != gone(nextRead, b) {
				t.Fatalf("%d, %d: %s, not %s", seed, i, gone(nextRead, b), gone(next, a))
			}
			m, read = next, nextRead
		}
		if !r.End() {
			t.Errorf("%d: not at its end", seed)
		}
	}
}

// asks are commands whose answer, or what they leave, is another when they are done again.
func asks() []api.Cmd {
	x := b("x")
	return []api.Cmd{
		{Kind: api.CPush, Val: x}, {Kind: api.CPop}, {Kind: api.CTake, Who: 3}, {Kind: api.CFree, Who: 3},
		{Kind: api.CPut, Key: x, Val: x}, {Kind: api.CDel, Key: x}, {Kind: api.CCas, Val: x}, {Kind: api.CCas, Old: x}, {Kind: api.CWrite, Val: bytes.Repeat(x, 17)}, {Kind: 77},
	}
}

// 10.3, W3: what is asked again is done once and answered alike: at once, behind others, of the machine or of one that was read from its bytes.
func TestOnce(t *testing.T) {
	l := asks()
	for n := range len(l) * len(l) * len(l) {
		one, other, third := ent(1, 5, l[n%len(l)]), ent(2, 9, l[n/len(l)%len(l)]), ent(3, 1, l[n/len(l)/len(l)])
		var m api.Machine
		answers := map[int]string{}
		for _, e := range []api.Entry{one, other, third} {
			next, r := mach.Step(m, e)
			answers[e.Sess] = toldResult(r)
			for range 2 {
				if again, r := mach.Step(next, e); gone(again, r) != told(next)+": "+answers[e.Sess] {
					t.Fatalf("%d, at once: %s: %s, not %s", n, toldEntry(e), gone(again, r), answers[e.Sess])
				}
			}
			m = next
		}
		read, _ := mach.Decode(mach.Encode(m))
		for _, x := range []api.Machine{m, read} {
			for _, e := range []api.Entry{one, third, other, one, ent(1, 5, third.Cmd)} {
				if again, r := mach.Step(x, e); gone(again, r) != told(m)+": "+answers[e.Sess] {
					t.Fatalf("%d, again: %s: %s, not %s", n, toldEntry(e), gone(again, r), answers[e.Sess])
				}
			}
		}
	}
}

// 10.3, W3: a log in which entries stand twice, the later ones ahead of what their session asks next, comes to what it comes to without them.
func TestTwiceInALog(t *testing.T) {
	for seed := range 30 {
		x := some(seed*7919 + 3)
		var plain, twice api.Machine
		at := map[int]int{}
		lastOf := map[int]api.Entry{}
		for i := range 300 {
			s := 1 + x.next(5)
			at[s]++
			e := ent(s, at[s], asks()[x.next(10)])
			next, r := mach.Step(plain, e)
			nextTwice, got := mach.Step(twice, e)
			plain, twice, lastOf[s] = next, nextTwice, e
			if !objs.SameResult(got, r) {
				t.Fatalf("%d, %d: %s, not %s", seed, i, toldResult(got), toldResult(r))
			}
			for range x.next(3) {
				twice, _ = mach.Step(twice, lastOf[1+x.next(5)])
			}
			if !mach.Same(plain, twice) {
				t.Fatalf("%d, %d: %s, not %s", seed, i, told(twice), told(plain))
			}
		}
	}
}

// 10.1, rule 6: the same calls answer the same, whatever was asked ahead of them.
func TestSameAgain(t *testing.T) {
	m, e := of("reg", letters(3), people(2), pairs(3), lasts(3)...), ent(20, 9, api.Cmd{Kind: api.CPop})
	want := gone(stepBySentence(m, e))
	for _, x := range slices.Concat(well(), ill(), below()) {
		for _, y := range entries()[:20] {
			mach.Step(x, y)
		}
		mach.Decode(mach.Encode(x)[1:])
		if got := gone(mach.Step(m, e)); got != want {
			t.Fatalf("after %s: %s, not %s", told(x), got, want)
		}
		if got := mach.Encode(m); !bytes.Equal(got, encodeBySentence(m)) {
			t.Fatalf("after %s: %x", told(x), got)
		}
	}
}

// 10.3: a machine as it was may be gone on from anew: two that go on from one do not meet.
func TestTwoFromOne(t *testing.T) {
	one, _ := mach.Step(of("", []string{"a"}, []int{3}, []pair{{"k", "v"}}, last{1, 1, 0, 1, "r"}), ent(2, 1, api.Cmd{Kind: api.CPush, Val: b("b")}))
	was := told(one)
	left, _ := mach.Step(one, ent(3, 1, api.Cmd{Kind: api.CPush, Val: b("left")}))
	right, _ := mach.Step(one, ent(3, 2, api.Cmd{Kind: api.CPush, Val: b("right")}))
	same, _ := mach.Step(one, ent(2, 1, api.Cmd{}))
	over, _ := mach.Step(same, ent(2, 2, api.Cmd{Kind: api.CPut, Key: b("k"), Val: b("over")}))
	taken, _ := mach.Step(same, ent(2, 2, api.Cmd{Kind: api.CTake, Who: 4}))
	for i, x := range []struct {
		got  api.Machine
		want string
	}{
		{one, was}, {same, was},
		{left, told(of("", []string{"a", "b", "left"}, []int{3}, []pair{{"k", "v"}}, last{1, 1, 0, 1, "r"}, last{2, 1, 0, 2, ""}, last{3, 1, 0, 3, ""}))},
		{right, told(of("", []string{"a", "b", "right"}, []int{3}, []pair{{"k", "v"}}, last{1, 1, 0, 1, "r"}, last{2, 1, 0, 2, ""}, last{3, 2, 0, 3, ""}))},
		{over, told(of("", []string{"a", "b"}, []int{3}, []pair{{"k", "over"}}, last{1, 1, 0, 1, "r"}, last{2, 2, 0, 1, "v"}))},
		{taken, told(of("", []string{"a", "b"}, []int{3, 4}, []pair{{"k", "v"}}, last{1, 1, 0, 1, "r"}, last{2, 2, 0, 1, ""}))},
	} {
		if told(x.got) != x.want {
			t.Errorf("%d: %s, not %s", i, told(x.got), x.want)
		}
	}
}

// 10.4: no call panics of lists that are nil, or of any length, nor of any number.
func TestNoPanic(t *testing.T) {
	huge := bytes.Repeat([]byte("z"), 1<<16)
	many := api.Machine{Objects: api.Objects{Reg: huge, Queue: make([][]byte, 1000), Lock: make([]int, 1000), Map: make([]api.Pair, 1000)}, Table: make([]api.Last, 1000)}
	far := api.Machine{Objects: api.Objects{Queue: [][]byte{huge, nil, {}}, Lock: []int{math.MinInt, math.MaxInt, -1}, Map: []api.Pair{{Key: huge, Val: huge}, {}}}, Table: []api.Last{{Sess: math.MaxInt, Seq: math.MinInt, Result: api.Result{Err: math.MaxInt, Val: huge, N: math.MaxInt}}, {Sess: math.MinInt, Seq: math.MaxInt, Result: api.Result{Err: math.MinInt, N: math.MinInt}}}}
	for _, m := range []api.Machine{{}, many, far} {
		if got, want := mach.Encode(m), encodeBySentence(m); !bytes.Equal(got, want) {
			t.Errorf("%d bytes, not %d", len(got), len(want))
		}
		for _, n := range []int{math.MinInt, -1, 0, 1, top, top + 1, math.MaxInt} {
			for kind := range 14 {
				e := ent(n, n, api.Cmd{Kind: kind - 1, Who: n, Key: huge, Val: huge, Old: huge})
				next, _ := mach.Step(m, e)
				mach.Same(m, next)
				mach.SameEntry(e, e)
				reads(t, mach.PutEntry(huge[:5], e))
				if got := mach.GetEntry(pack.Read(mach.PutEntry(nil, e))); toldEntry(got) != toldEntry(api.Entry{}) {
					t.Error(toldEntry(got))
				}
			}
		}
	}
	for _, x := range [][]byte{nil, {}, huge, bytes.Repeat([]byte{0xff}, 100), bytes.Repeat([]byte{0x80}, 100), make([]byte, 1<<16)} {
		reads(t, x)
	}
	for i := range 256 {
		for k := range 256 {
			reads(t, []byte{byte(i), byte(k), 0, 0, 0})
			reads(t, []byte{0, 0, 0, 0, byte(i), byte(k)})
		}
	}
}

// 10.2 to 10.4: whatever the bytes are, they are a machine's, or none's, and an entry's, or none's, and no call panics.
func FuzzDecode(f *testing.F) {
	for _, m := range slices.Concat(well(), ill()) {
		f.Add(encodeBySentence(m))
	}
	for _, e := range entries()[:8] {
		f.Add(entryBySentence(e))
	}
	f.Fuzz(func(t *testing.T, x []byte) {
		reads(t, x)
		r := pack.Read(x)
		e := mach.GetEntry(r)
		form := mach.PutEntry(nil, e)
		if r.Ok() && (!bytes.HasPrefix(x, form) || r.End() != (len(form) == len(x)) || !isEntry(e)) {
			t.Errorf("%x is read as %s, which is %x", x, toldEntry(e), form)
		}
		if !r.Ok() && toldEntry(e) != toldEntry(api.Entry{}) {
			t.Errorf("%x is read as %s, and the reader is not Ok", x, toldEntry(e))
		}
		if m, ok := mach.Decode(x); ok {
			next, a := mach.Step(m, e)
			if got, want := gone(next, a), gone(stepBySentence(m, e)); got != want {
				t.Errorf("%s, of %s: %s, not %s", toldEntry(e), told(m), got, want)
			}
		}
	})
}

// 10.1 to 10.4: whatever the entries are, each is answered by one state, which is read from its bytes as what it was: each five bytes are an entry.
func FuzzMachine(f *testing.F) {
	f.Add([]byte(nil), 1)
	f.Add([]byte("\x01\x03\x04\x00\x11\x01\x02\x04\x00\x11\x02\x03\x05\x00\x11"), 1)
	f.Add(fmt.Append(nil, log(3, 9)), top-9)
	f.Fuzz(func(t *testing.T, acts []byte, from int) {
		var m api.Machine
		all := &model{seq: map[int]int{}, was: map[int]api.Result{}}
		// A hundred entries fill all that has a bound many times over.
		for i := 0; i+4 < min(len(acts), 500); i += 5 {
			s := from + int(acts[i])%11
			at, there := all.seq[s]
			if !there {
				at = from
			}
			word := bytes.Repeat([]byte{acts[i+4] & 7}, int(acts[i+4]>>3))
			e := ent(s, at+int(acts[i+1])%5-2, api.Cmd{Kind: int(acts[i+2]) % 13, Who: int(acts[i+3])*4 - 4, Key: word[len(word)/2:], Val: word, Old: word[len(word)/3:]})
			next, r := mach.Step(m, e)
			want := all.step(e)
			if gone(next, r) != gone(all.machine(), want) {
				t.Fatalf("%s, of %s: %s, not %s", toldEntry(e), told(m), gone(next, r), gone(all.machine(), want))
			}
			read, ok := mach.Decode(mach.Encode(next))
			if !ok || told(read) != told(next) || !mach.Same(read, next) {
				t.Fatalf("%s is read as %s, %v", told(next), told(read), ok)
			}
			m = read
		}
	})
}
