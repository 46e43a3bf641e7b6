/- TwoKit -/
import Derived.Test.YtaknfmionkkdjaaFM50
namespace Go.Proofs.Ytaknfmionkkdjaa
open Go.RowKit
set_option linter.unusedVariables false
/-- two books, made behind w0, apart -/
def Two (w0 w : World) (b1 b2 : Nat) (k1 k2 : Bk) : Prop := ∃ S1 S2, BkAt w S1 b1 k1 ∧ BkAt w S2 b2 k2 ∧ (∀ q, S1 q → ¬ S2 q) ∧ (∀ q, S1 q ∨ S2 q → w0.heap.size ≤ q) ∧ Below w0.heap.size w0 w
/-- from w to w' blocks of books alone were turned -/
def Turn (w w' : World) : Prop := ∃ S, Keeps S w w' ∧ Of S TB w
section
variable {w0 w w' : World} {b1 b2 : Nat} {k1 k2 k' : Bk}
theorem Two.below (h : Two w0 w b1 b2 k1 k2) (hb : Below w.heap.size w w') : Two w0 w' b1 b2 k1 k2 := by
  obtain ⟨S1, S2, h1, h2, h3, h4, h5⟩ := h
  exact ⟨S1, S2, h1.below hb, h2.below hb, h3, h4, h5.trans (hb.mono h5.size)⟩
theorem Two.bel (h : Two w0 w b1 b2 k1 k2) : Below w0.heap.size w0 w := by obtain ⟨S1, S2, h1, h2, h3, h4, h5⟩ := h; exact h5
theorem Two.left {S1 S2 : Nat → Prop} (h1 : BkAt w S1 b1 k1) (h2 : BkAt w S2 b2 k2) (h3 : ∀ q, S1 q → ¬ S2 q) (h4 : ∀ q, S1 q ∨ S2 q → w0.heap.size ≤ q) (h5 : Below w0.heap.size w0 w) (hg : GotBk S1 w b1 k' w') : Two w0 w' b1 b2 k' k2 ∧ Turn w w' := by
  obtain ⟨S', hA, hV⟩ := hg
  refine ⟨⟨S', S2, hA, h2.keeps hV.keeps h1.of (by decide) (by decide) (by decide) (by decide) (by decide) (fun q hq hq1 => h3 q hq1 hq), fun q hq hq2 => ?_, fun q hq => ?_, hV.below h5 (fun q hq => h4 q (.inl hq))⟩, S1, hV.keeps, h1.of⟩
  · rcases hV.grow q hq with h | h
    · exact h3 q h hq2
    · have := h2.lt q hq2; omega
  · rcases hq with hq | hq
    · rcases hV.grow q hq with h | h
      · exact h4 q (.inl h)
      · exact Nat.le_trans h5.size h
    · exact h4 q (.inr hq)
theorem Two.swap (h : Two w0 w b1 b2 k1 k2) : Two w0 w b2 b1 k2 k1 := by
  obtain ⟨S1, S2, h1, h2, h3, h4, h5⟩ := h
  exact ⟨S2, S1, h2, h1, fun q hq hq2 => h3 q hq2 hq, fun q hq => h4 q hq.symm, h5⟩
theorem Two.add (h : Two w0 w b1 b2 k1 k2) (i : Int) {ca : CA} {e : En} {B : Nat} {m : Bool} (hm : k1.may i = m) (hk : k1.add i e = k') (hf : e.c.Fits) (hr : RdC w B ca e.c) (hw : k1.wh ≤ k1.pos + 90000) :
    Calls Try.prog 6 #[.pointer (some ⟨b1, 0, none⟩), .int .i64 i, .agg (entC ca e)] w fun en w' => en = .returned (.bool m) ∧ Two w0 w' b1 b2 k' k2 ∧ Turn w w' := by
  obtain ⟨S1, S2, h1, h2, h3, h4, h5⟩ := h
  refine (bkAdd w h1 i hm hk hf hr hw).mono ?_
  rintro en w' ⟨rfl, hg⟩
  exact ⟨rfl, Two.left h1 h2 h3 h4 h5 hg⟩
theorem Two.apply (h : Two w0 w b1 b2 k1 k2) (t : Int) {ds : List Bk.Dn} (hk : k1.apply t = k') (hd : k1.dones t = ds) (hw : k1.wh ≤ k1.pos + 90000) (h40 : k1.wh ≤ 1099511627776) :
    Calls Try.prog 8 #[.pointer (some ⟨b1, 0, none⟩), .int .i64 t] w fun en w' => ∃ A c, en = .returned (.slice A ds.length c) ∧ OwnDs w w' A ds.length c ds ∧ Two w0 w' b1 b2 k' k2 ∧ Turn w w' := by
  obtain ⟨S1, S2, h1, h2, h3, h4, h5⟩ := h
  refine (bkApply w h1 t hk hd hw h40).mono ?_
  rintro en w' ⟨A, c, rfl, ho, hg⟩
  exact ⟨A, c, rfl, ho, Two.left h1 h2 h3 h4 h5 hg⟩
theorem Two.load (h : Two w0 w b1 b2 k1 k2) {a : SA} {s : Sb} {B : Nat} (hk : Bk.load s = k') (hr : RdS w B a s) (hm : s.m.Ok) (hf : ∀ e ∈ s.rest, e.c.Fits) (hp0 : 0 ≤ s.pos) (hp1 : s.pos ≤ 1099511627776) (hl : s.rest.length ≤ 1000) :
    Calls Try.prog 10 #[.pointer (some ⟨b1, 0, none⟩), stateV a s] w fun en w' => en = .returned (.tuple #[]) ∧ Two w0 w' b1 b2 k' k2 ∧ Turn w w' := by
  obtain ⟨S1, S2, h1, h2, h3, h4, h5⟩ := h
  refine (bkLoad w h1 hk hr hm hf hp0 hp1 hl).mono ?_
  rintro en w' ⟨rfl, hg⟩
  exact ⟨rfl, Two.left h1 h2 h3 h4 h5 hg⟩
theorem Two.at_ (h : Two w0 w b1 b2 k1 k2) {p : Int} (hp : k1.pos = p) : Calls Try.prog 11 #[.pointer (some ⟨b1, 0, none⟩)] w fun e w' => e = .returned (.int .i64 p) ∧ w = w' := by
  obtain ⟨S1, S2, h1, h2, h3, h4, h5⟩ := h
  subst hp; exact bkAt w h1
theorem Two.whole (h : Two w0 w b1 b2 k1 k2) {p : Int} (hp : k1.wh = p) : Calls Try.prog 12 #[.pointer (some ⟨b1, 0, none⟩)] w fun e w' => e = .returned (.int .i64 p) ∧ w = w' := by
  obtain ⟨S1, S2, h1, h2, h3, h4, h5⟩ := h
  subst hp; exact bkWhole w h1
theorem Two.machine (h : Two w0 w b1 b2 k1 k2) {m : Mc} (hm : k1.m = m) : Calls Try.prog 14 #[.pointer (some ⟨b1, 0, none⟩)] w fun e w' => ∃ a', e = .returned (machV a' m) ∧ OwnM w w' a' m ∧ Below w.heap.size w w' := by
  obtain ⟨S1, S2, h1, h2, h3, h4, h5⟩ := h
  exact bkMachine w h1 hm
theorem Two.state (h : Two w0 w b1 b2 k1 k2) {s : Sb} (hs : k1.state = s) (hw : k1.wh ≤ k1.pos + 90000) : Calls Try.prog 9 #[.pointer (some ⟨b1, 0, none⟩)] w fun en w' => ∃ a, en = .returned (stateV a s) ∧ OwnS w w' a s ∧ Below w.heap.size w w' := by
  obtain ⟨S1, S2, h1, h2, h3, h4, h5⟩ := h
  exact bkState w h1 hs hw
theorem Two.ok (h : Two w0 w b1 b2 k1 k2) : k1.Ok := by obtain ⟨S1, S2, h1, h2, h3, h4, h5⟩ := h; exact h1.ok
theorem OwnDs.turn {W : World} {A : Option Addr} {n c : Nat} {ds : List Bk.Dn} (h : OwnDs W w A n c ds) (ht : Turn w w') : OwnDs W w' A n c ds := by
  obtain ⟨S, h1, h2⟩ := ht
  exact h.keeps h1 h2 (by decide) (by decide)
end
namespace Bk
/-- a book told, and loaded, is it, if nothing is there beyond what is whole -/
theorem load_state (k : Bk) (hk : k.Ok) (hno : ∀ i, k.wh < i → k.f i = none) : Bk.load k.state = k := by
  have hle := hk.w.le
  have hl : (Bk.rest k.f (k.wh - k.pos).toNat k.pos).length = (k.wh - k.pos).toNat := Bk.rest_len _ _ _
  have hf : (fun i => if k.pos < i then (Bk.rest k.f (k.wh - k.pos).toNat k.pos)[(i - k.pos - 1).toNat]? else none) = k.f := by
    funext i
    by_cases h1 : k.pos < i
    · rw [if_pos h1]
      by_cases h2 : i ≤ k.wh
      · rw [Bk.rest_at k.f _ _ _ (by omega), show k.pos + 1 + (((i - k.pos - 1).toNat : Nat) : Int) = i by omega]
        have := hk.w.all i h1 h2
        obtain ⟨e, he⟩ := Option.isSome_iff_exists.1 this
        rw [he]; rfl
      · rw [List.getElem?_eq_none (by omega), hno i (by omega)]
    · rw [if_neg h1, hk.lo i (by omega)]
  have hw : k.pos + ((Bk.rest k.f (k.wh - k.pos).toNat k.pos).length : Int) = k.wh := by rw [hl]; omega
  unfold Bk.load Bk.state
  simp only
  rw [hf, hw]
theorem apply_no {k : Bk} (hno : ∀ i, k.wh < i → k.f i = none) (t : Int) : ∀ i, (k.apply t).wh < i → (k.apply t).f i = none := fun i hi => by
  show Bk.cut k.f _ i = none
  unfold Bk.cut
  split
  · rfl
  · exact hno i hi
theorem play_fits (f : Int → Option En) (hf : ∀ i e, f i = some e → e.c.Fits) : ∀ (c : Nat) (n : Int) (m : Mc), m.Ok → ∀ d ∈ (play f c n m).2, d.e.c.Fits ∧ d.r.v.length ≤ 16 ∧ ∀ x ∈ d.r.v, x < 256
  | 0, n, m, h, d, hd => by cases hd
  | c + 1, n, m, h, d, hd => by
    have hfe : ((f (n + 1)).getD En.zero).c.Fits := by
      cases q : f (n + 1) with
      | none => exact En.zero_fits
      | some e => exact hf _ _ q
    simp only [play, List.mem_cons] at hd
    rcases hd with rfl | hd
    · exact ⟨hfe, Mc.step_v h⟩
    · exact play_fits f hf c (n + 1) _ (Mc.Ok.step h hfe) d hd
theorem dones_fits {k : Bk} (hk : k.Ok) (t : Int) : ∀ d ∈ k.dones t, d.e.c.Fits ∧ ∀ x ∈ d.r.v, x < 256 := fun d hd => by
  have := play_fits k.f hk.c _ _ _ hk.m d hd
  exact ⟨this.1, this.2.2⟩
theorem state_fits {k : Bk} (hk : k.Ok) : ∀ e ∈ k.state.rest, e.c.Fits := fun e he => by
  obtain ⟨j, hj⟩ := List.getElem?_of_mem he
  have hlt := (List.getElem?_eq_some_iff.1 hj).1
  have hl : k.state.rest.length = (k.wh - k.pos).toNat := Bk.rest_len _ _ _
  have h2 : k.state.rest[j]? = some ((k.f (k.pos + 1 + j)).getD En.zero) := Bk.rest_at k.f _ _ _ (by omega)
  rw [hj] at h2
  injection h2 with h2
  rw [h2]
  cases q : k.f (k.pos + 1 + j) with
  | none => exact En.zero_fits
  | some e' => exact hk.c _ _ q
theorem loadL_no (m : Mc) (pos : Int) (l : List En) : ∀ i, (Bk.loadL m pos l).wh < i → (Bk.loadL m pos l).f i = none := fun i hi => by
  rw [Bk.loadL_f]
  split
  · exact List.getElem?_eq_none (by have : pos + (l.length : Int) < i := hi; omega)
  · rfl
end Bk
end Go.Proofs.Ytaknfmionkkdjaa

