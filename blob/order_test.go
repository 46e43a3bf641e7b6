package blob_test

import (
	"bytes"
	"fmt"
	"slices"
	"testing"

	"hocket/api"
	"hocket/blob"
	"hocket/mach"
	"hocket/wind"
)

// log answers so many entries of some sessions, the same of the same seed; some are asked again, or are behind.
func log(seed, many int) []api.Entry {
	x := uint32(seed)*2654435761 + 1
	next := func(most int) int {
		x = x*1664525 + 1013904223
		return int(x>>8) % most
	}
	at := map[int]int{}
	var l []api.Entry
	for range many {
		s := 1 + next(3+seed%7)
		seq := max(1, at[s]+next(5)-1)
		at[s] = max(at[s], seq)
		word := func(most int) []byte { return bytes.Repeat([]byte{byte('a' + next(5))}, next(most+1)) }
		l = append(l, ent(s, seq, api.Cmd{Kind: 1 + next(11), Who: next(8) * 143, Key: word(8), Val: word(16), Old: word(2)}))
	}
	return l
}

// does is what l makes of m, and what each entry is answered, as texts.
func does(m api.Machine, l []api.Entry) (api.Machine, []string) {
	var answers []string
	for _, e := range l {
		var r api.Result
		m, r = mach.Step(m, e)
		answers = append(answers, fmt.Sprint(r))
	}
	return m, answers
}

// comes is s as it comes over: as bytes, in parts, and from them.
func comes(t *testing.T, s api.State) api.State {
	t.Helper()
	x := glued(blob.Encode(s))
	got, ok := blob.Decode(x)
	if !ok || !same(got, s) {
		t.Fatalf("%s comes over as %s, %v", told(s), told(got), ok)
	}
	return got
}

// 15.3, W4: whoever takes over a state, at whatever place of a log, with however many of the entries behind it, and does these and what comes behind them, comes to what the log comes to, and answers the same; also what was asked ahead of it is answered as it was (W3).
func TestTakenOver(t *testing.T) {
	for seed := range 12 {
		l := log(seed, 150)
		whole, answers := does(api.Machine{}, l)
		for at := 0; at <= len(l); at += 1 + seed {
			m, ahead := does(api.Machine{}, l[:at])
			for _, n := range []int{0, 1, 2, 17, 63, 64} {
				if at+n > len(l) {
					continue
				}
				s := comes(t, api.State{At: at, Machine: m, Rest: l[at : at+n]})
				there, rest := does(s.Machine, s.Rest)
				end, behind := does(there, l[at+n:])
				if !mach.Same(end, whole) || !slices.Equal(slices.Concat(ahead, rest, behind), answers) {
					t.Fatalf("%d: from %d on, with %d: %s", seed, at, n, told(api.State{Machine: end}))
				}
				// The last of each session is in the table: asked again it is answered alike, and nothing is done.
				for _, was := range there.Table {
					again, r := mach.Step(there, ent(was.Sess, was.Seq, api.Cmd{Kind: api.CPush, Val: b("again")}))
					if !mach.Same(again, there) || fmt.Sprint(r) != fmt.Sprint(was.Result) {
						t.Fatalf("%d: from %d on, with %d: session %d is answered anew", seed, at, n, was.Sess)
					}
				}
			}
		}
	}
}

// 15.3, W4: a state goes from one to the next, and on, and stays what it was, byte by byte.
func TestTakenOverOften(t *testing.T) {
	m, _ := does(api.Machine{}, log(3, 80))
	first := api.State{At: 80, Machine: m, Rest: log(4, mostRest)}
	x := blob.Encode(first)
	s := first
	for range 50 {
		s = comes(t, s)
		if !bytes.Equal(blob.Encode(s), x) {
			t.Fatalf("%x, not %x", blob.Encode(s), x)
		}
	}
}

// 15.3, W4: what was whole in a window behind At is the Rest of a state, up to as many as a window can hold there, and so it is whole where it comes over.
func TestRestOfAWindow(t *testing.T) {
	for _, from := range []int{0, 1, 300, mostIndex - mostRest} {
		for n := range mostRest + 1 {
			w, l := wind.New[api.Entry](from), row(n)
			for i := n; i > 0; i-- {
				if !w.Put(from+i, l[i-1]) {
					t.Fatalf("%d can't be laid behind %d", i, from)
				}
			}
			s := api.State{At: w.From(), Machine: small()}
			for _, e := range w.All() {
				s.Rest = append(s.Rest, e)
			}
			got := comes(t, s)
			there := wind.New[api.Entry](got.At)
			for i, e := range got.Rest {
				there.Put(got.At+1+i, e)
			}
			if there.Whole() != w.Whole() || there.Whole() != from+n {
				t.Errorf("behind %d %d came over, not %d", from, there.Whole()-from, n)
			}
		}
	}
}

// 15.3, W4, W6: parts that are left out, come twice, or in another order, and such as are another state's, are no state: what isn't whole is not taken for it.
func TestWrongParts(t *testing.T) {
	m, _ := does(api.Machine{}, log(5, 90))
	x := blob.Encode(api.State{At: 90, Machine: m, Rest: row(20)})
	m, _ = does(m, row(1))
	other := blob.Encode(api.State{At: 91, Machine: m, Rest: row(20)[1:]})
	cut := func(x []byte) [][]byte { return slices.Collect(slices.Chunk(x, mostPart)) }
	whole, others := cut(x), cut(other)
	for i := range whole {
		refused(t, slices.Concat(slices.Delete(cut(x), i, i+1)...), "a part is left out")
		refused(t, slices.Concat(slices.Insert(cut(x), i, whole[i])...), "a part comes twice")
		for k := range i {
			l := cut(x)
			l[i], l[k] = l[k], l[i]
			refused(t, slices.Concat(l...), "two parts are in each other's place")
		}
		if i < len(others) && !bytes.Equal(others[i], whole[i]) {
			l := cut(x)
			l[i] = others[i]
			refused(t, slices.Concat(l...), "a part is another state's")
		}
		if i > 0 {
			refused(t, slices.Concat(whole[:i]...), "the last parts have not come")
			refused(t, slices.Concat(slices.Concat(whole[:i]...), slices.Concat(others[min(i, len(others)):]...)), "one state's head and another's tail")
		}
	}
	if len(whole) < 5 {
		t.Error(len(whole))
	}
}
