package tokn_test

import (
	"fmt"
	"slices"
	"testing"

	"hocket/api"
	"hocket/book"
	"hocket/mach"
	"hocket/mesg"
	"hocket/tokn"
)

// entry is what is given the index i: a call of its own.
func entry(i int) api.Entry {
	return api.Entry{Sess: 1 + i%3, Seq: 1 + i, Cmd: api.Cmd{Kind: api.CWrite, Val: []byte(fmt.Sprint(i))}}
}

// ring are members that hand a token on, each with its book, and the entries under way between them. All begin with what all entries up to base come to.
type ring struct {
	t       *testing.T
	token   api.Msg
	books   []*book.Book
	machine api.Machine
	base    int
	flights []api.Msg
	applied []int
}

// begin answers a ring of n members.
func begin(t *testing.T, n, base int) *ring {
	r := &ring{t: t, token: tokn.First(8, n, base), base: base, applied: make([]int, n)}
	for i := range base {
		r.machine, _ = mach.Step(r.machine, entry(i+1))
	}
	for range n {
		k := book.New()
		k.Load(api.State{At: base, Machine: r.machine})
		r.books = append(r.books, k)
	}
	return r
}

// tell sends the entry at i, which the member id has, to all others.
func (r *ring) tell(id, i int) {
	e, ok := r.books[id].Get(i)
	if !ok {
		r.t.Fatalf("%d is to tell %d, which it has not", id, i)
	}
	for to := range r.books {
		if to != id {
			r.flights = append(r.flights, api.Msg{Kind: api.MData, From: id, To: to, Index: i, Entry: e})
		}
	}
}

// hand is what a node does with the token, of so many calls: it gives them indexes, hands the token on, and applies what is safe.
func (r *ring) hand(calls int) {
	id, was := r.token.To, r.token
	k := r.books[id]
	fresh := min(calls, tokn.Room(was))
	for i := was.Seq + 1; i <= was.Seq+fresh; i++ {
		if !k.Add(i, entry(i)) {
			r.t.Fatalf("%d can't lay %d: whole up to %d", id, i, k.Whole())
		}
		r.tell(id, i)
	}
	var has []int
	for _, i := range was.Need {
		if _, ok := k.Get(i); ok {
			has = append(has, i)
		}
	}
	next, again := tokn.Pass(was, id, id, (id+1)%len(r.books), k.Whole(), fresh, has, k.Missing(was.Seq+fresh))
	for _, i := range again {
		r.tell(id, i)
	}
	if next.Seq != was.Seq+fresh || next.View != 8 || next.Hop != was.Hop+1 || next.From != id {
		r.t.Fatalf("%+v is handed on as %+v", was, next)
	}
	// A token goes as a message: it is one, whatever is lost.
	got, ok := mesg.Decode(mesg.Encode(next))
	if !ok || !mesg.Same(got, next) {
		r.t.Fatalf("%+v comes as %+v", next, got)
	}
	r.token = got
	r.apply(id)
	r.holds()
}

// apply lets the member id apply what is safe, and ends the test where that is not the next of the one log.
func (r *ring) apply(id int) {
	for _, d := range r.books[id].Apply(tokn.Safe(r.token)) {
		r.applied[id]++
		if i := r.base + r.applied[id]; d.Index != i || !mach.SameEntry(d.Entry, entry(i)) {
			r.t.Fatalf("%d applies %v as %d", id, d, i)
		}
	}
}

// holds ends the test where not all have what is safe, where more is given out than may be, or where what the token needs can't be what somebody lacks.
func (r *ring) holds() {
	safe, seq, need := tokn.Safe(r.token), r.token.Seq, r.token.Need
	for id, k := range r.books {
		if k.Whole() < safe {
			r.t.Fatalf("%d has all up to %d, but %d is told to be safe", id, k.Whole(), safe)
		}
		if k.At() > safe {
			r.t.Fatalf("%d applied %d, ahead of %d", id, k.At(), safe)
		}
	}
	if seq > safe+mostAhead {
		r.t.Fatalf("%d was given out, but %d is safe", seq, safe)
	}
	if len(need) > mostNeed {
		r.t.Fatalf("%d are needed", need)
	}
	for i, n := range need {
		if n <= safe || n > seq || slices.Contains(need[:i], n) {
			r.t.Fatalf("%d are needed, where %d is safe, of %d", need, safe, seq)
		}
	}
}

// come lets each entry that is under way do what how says: 0 it is lost, 1 it comes, 2 it comes and is there once more, else it stays.
func (r *ring) come(how func() int) {
	l := r.flights
	r.flights = nil
	for _, m := range l {
		what := how()
		if what == 1 || what == 2 {
			r.books[m.To].Add(m.Index, m.Entry)
		}
		if what > 1 {
			r.flights = append(r.flights, m)
		}
	}
}

// allCome is when nothing is lost.
func allCome() int { return 1 }

// ends lets all come from here on, and ends the test where not all members come to the same in some rounds.
func (r *ring) ends() {
	for range 8 * len(r.books) {
		r.come(allCome)
		r.hand(0)
	}
	m := r.machine
	for i := r.base; i < r.token.Seq; i++ {
		m, _ = mach.Step(m, entry(i+1))
	}
	for id, k := range r.books {
		if k.At() != r.token.Seq || !mach.Same(k.Machine(), m) {
			r.t.Fatalf("%d ends at %d of %d: %v, not %v", id, k.At(), r.token.Seq, k.Machine(), m)
		}
	}
	if tokn.Safe(r.token) != r.token.Seq || len(r.token.Need) > 0 {
		r.t.Fatalf("at the end the token is %+v", r.token)
	}
}

// 17.3, W2: whatever is lost, comes late, or comes twice, of rings of any size: what the token tells as safe all have, so what is applied is one log, and what is let go nobody lacks; in the end all have all.
func TestWhatTheLeastHasAllHave(t *testing.T) {
	for seed := range 60 {
		next := dice(seed)
		r := begin(t, 1+seed%all, seed%3*100)
		for round := range 40 {
			// Of some stretches nearly all is lost, so that nothing more may be given out.
			loss := 1 + next(12)
			for range 1 + next(2*len(r.books)) {
				r.hand(next(7))
				r.come(func() int {
					if next(12) < loss && round%3 > 0 {
						return 0
					}
					return 1 + next(3)
				})
				r.holds()
			}
		}
		if r.token.Seq < r.base+30 {
			t.Fatalf("%d members: only %d were given out", len(r.books), r.token.Seq-r.base)
		}
		r.ends()
	}
}

// 17.3, W2: where nothing comes no more than sixteen are given out, of four at once, and nothing is safe that one alone has; then all of it comes.
func TestNothingComes(t *testing.T) {
	for n := 2; n <= all; n++ {
		r := begin(t, n, 5)
		for range 30 {
			r.hand(9)
			r.flights = nil
		}
		if r.token.Seq != 5+mostAhead || tokn.Safe(r.token) != 5 || tokn.Room(r.token) != 0 || len(r.token.Need) != mostNeed {
			t.Fatalf("%d members: %+v", n, r.token)
		}
		r.ends()
	}
}

// 17.3, W2: a member alone has all at once.
func TestAlone(t *testing.T) {
	r := begin(t, 1, 7)
	for range 50 {
		r.hand(9)
		if tokn.Safe(r.token) != r.token.Seq || r.books[0].At() != r.token.Seq || len(r.flights) > 0 {
			t.Fatalf("%+v, at %d", r.token, r.books[0].At())
		}
	}
	if r.token.Seq != 7+50*mostGiven {
		t.Errorf("%+v", r.token)
	}
	r.ends()
}

// 17.3, W2: of three members, whichever of the first entries are lost on their way to whom, and whatever of those that are sent again: all have what is safe at each step, and all have all in the end.
func TestEachLoss(t *testing.T) {
	for lost := range 1 << 12 {
		r := begin(t, 3, 0)
		bits := lost
		how := func() int {
			bit := bits & 1
			bits >>= 1
			return 1 - bit
		}
		for range 4 {
			r.hand(2)
			r.come(how)
			r.holds()
		}
		r.ends()
	}
}

// 17.2, 17.3: what one lacks comes from the first behind it that has it, and the token needs it no more.
func TestLackedIsSentAgain(t *testing.T) {
	r := begin(t, 3, 0)
	r.hand(2)
	// 2 alone hears of the entries.
	r.flights = slices.DeleteFunc(r.flights, func(m api.Msg) bool { return m.To == 1 })
	r.come(allCome)
	r.hand(0)
	if !slices.Equal(r.token.Need, []int{1, 2}) || tokn.Safe(r.token) != 0 {
		t.Fatalf("%+v", r.token)
	}
	r.hand(0)
	if len(r.token.Need) > 0 || !slices.Equal(r.token.Have, []int{2, 0, 2}) || len(r.flights) != 4 {
		t.Fatalf("%+v, %v", r.token, r.flights)
	}
	r.come(allCome)
	r.hand(0)
	r.hand(0)
	if !slices.Equal(r.token.Have, []int{2, 2, 2}) || tokn.Safe(r.token) != 2 || r.books[1].At() != 2 {
		t.Fatalf("%+v", r.token)
	}
	r.ends()
}
