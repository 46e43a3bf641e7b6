/- GathPair -/
import Derived.Test.YtneehnoolhadbaaGP39
import Derived.Test.YtneehnoolhadbaaGP43
import Derived.Test.YtneehnoolhadbaaGP44
import Derived.Test.YtneehnoolhadbaaGP52
namespace Go.Proofs.Ytneehnoolhadbaa
open Go.RowKit
set_option linter.unusedVariables false
set_option linter.unusedSimpArgs false
/-- the two, made behind w0, at one state; variables that are no block of theirs -/
def GPair (w0 w : World) (b h : Nat) (g1 g2 : Gm) (vs : List (Nat × Array Value)) : Prop := ∃ S1 S2, GthAt w0 w S1 b g1 ∧ RthAt w0 w S2 h g2 ∧ (∀ q, S1 q → ¬ S2 q) ∧ ∀ v ∈ vs, Blk w v.1 31 v.2 ∧ ¬ S1 v.1 ∧ ¬ S2 v.1
section
variable {w0 w w' : World} {b h : Nat} {g g1 g2 g' : Gm} {vs : List (Nat × Array Value)}
theorem GPair.below (p : GPair w0 w b h g1 g2 vs) (hb : Below w.heap.size w w') : GPair w0 w' b h g1 g2 vs := by
  obtain ⟨S1, S2, h1, h2, h3, h4⟩ := p
  exact ⟨S1, S2, h1.below hb, h2.below hb, h3, fun v hv => ⟨(h4 v hv).1.below hb, (h4 v hv).2⟩⟩
theorem GPair.bel (p : GPair w0 w b h g1 g2 vs) : Below w0.heap.size w0 w := by obtain ⟨S1, S2, h1, h2, h3, h4⟩ := p; exact h1.bel
theorem GPair.ok (p : GPair w0 w b h g1 g2 vs) : g1.Ok := by obtain ⟨S1, S2, h1, h2, h3, h4⟩ := p; exact h1.ok
theorem GPair.drop (p : GPair w0 w b h g1 g2 vs) : GPair w0 w b h g1 g2 [] := by obtain ⟨S1, S2, h1, h2, h3, h4⟩ := p; exact ⟨S1, S2, h1, h2, h3, fun v hv => by cases hv⟩
/-- a new variable -/
theorem GPair.push {q : Nat} {cs : Array Value} (p : GPair w0 w b h g1 g2 vs) (hb : Below w.heap.size w w') (hq : w.heap.size ≤ q) (hk : Blk w' q 31 cs) : GPair w0 w' b h g1 g2 ((q, cs) :: vs) := by
  obtain ⟨S1, S2, h1, h2, h3, h4⟩ := p
  refine ⟨S1, S2, h1.below hb, h2.below hb, h3, fun v hv => ?_⟩
  rcases List.mem_cons.1 hv with rfl | hv
  · exact ⟨hk, fun hs => by have := (h1.lt _ hs).2; simp only at this; omega, fun hs => by have := (h2.lt _ hs).2; simp only at this; omega⟩
  · exact ⟨(h4 v hv).1.below hb, (h4 v hv).2⟩
theorem GPair.var {q : Nat} {cs : Array Value} (p : GPair w0 w b h g1 g2 vs) (hm : (q, cs) ∈ vs) : Blk w q 31 cs := by
  obtain ⟨S1, S2, h1, h2, h3, h4⟩ := p
  exact (h4 _ hm).1
/-- a variable is written -/
theorem GPair.set {q : Nat} {cs cs' : Array Value} (p : GPair w0 w b h g1 g2 ((q, cs) :: [])) (hk : Keeps (fun k => k = q) w w') (hb : Blk w' q 31 cs') (hB : Below w0.heap.size w0 w') : GPair w0 w' b h g1 g2 ((q, cs') :: []) := by
  obtain ⟨S1, S2, h1, h2, h3, h4⟩ := p
  have hq := h4 (q, cs) (by simp)
  refine ⟨S1, S2, h1.keeps hk (fun k hs e => hq.2.1 (e ▸ hs)) hB, h2.keeps hk (fun k hs e => hq.2.2 (e ▸ hs)) hB, h3, fun v hv => ?_⟩
  obtain rfl := List.mem_singleton.1 hv
  exact ⟨hb, hq.2⟩
theorem GPair.left {S1 S2 : Nat → Prop} (h1 : GthAt w0 w S1 b g1) (h2 : RthAt w0 w S2 h g2) (h3 : ∀ q, S1 q → ¬ S2 q) (h4 : ∀ v ∈ vs, Blk w v.1 31 v.2 ∧ ¬ S1 v.1 ∧ ¬ S2 v.1) (hg : GotGa w0 w S1 b g' w') : GPair w0 w' b h g' g2 vs := by
  obtain ⟨S', ha, hv⟩ := hg
  have hd : ∀ q, S' q → q < w.heap.size → S1 q := fun q hq hlt => (hv.grow q hq).resolve_right (by omega)
  refine ⟨S', S2, ha, h2.keeps hv.keeps (fun q hq hs => h3 q hs hq) ha.bel, fun q hq hs => h3 q (hd q hq (h2.lt q hs).2) hs, fun v hm => ?_⟩
  obtain ⟨k1, k2, k3⟩ := h4 v hm
  exact ⟨k1.keeps hv.keeps k2, fun hs => k2 (hd _ hs k1.lt), k3⟩
theorem GPair.right {S1 S2 : Nat → Prop} (h1 : GthAt w0 w S1 b g1) (h2 : RthAt w0 w S2 h g2) (h3 : ∀ q, S1 q → ¬ S2 q) (h4 : ∀ v ∈ vs, Blk w v.1 31 v.2 ∧ ¬ S1 v.1 ∧ ¬ S2 v.1) (hg : GotRa w0 w S2 h g' w') : GPair w0 w' b h g1 g' vs := by
  obtain ⟨S', ha, hv⟩ := hg
  have hd : ∀ q, S' q → q < w.heap.size → S2 q := fun q hq hlt => (hv.grow q hq).resolve_right (by omega)
  refine ⟨S1, S', h1.keeps hv.keeps (fun q hq hs => h3 q hq hs) ha.bel, ha, fun q hq hs => h3 q hq (hd q hs (h1.lt q hq).2), fun v hm => ?_⟩
  obtain ⟨k1, k2, k3⟩ := h4 v hm
  exact ⟨k1.keeps hv.keeps k3, k2, fun hs => k3 (hd _ hs k1.lt)⟩
theorem GPair.takeL (p : GPair w0 w b h g1 g2 vs) {a : GA} {m : Mg} (hm : MsgW m) {r : Bool} (hr : g1.may (svM m) m.view = r) (h' : g1.take (svM m) m.view = g') :
    Calls Try.prog 9 #[.pointer (some ⟨b, 0, none⟩), msgV a m] w fun e w' => e = .returned (.bool r) ∧ GPair w0 w' b h g' g2 vs := by
  obtain ⟨S1, S2, h1, h2, h3, h4⟩ := p
  exact (gtake_any h1 hm.lo hm.frm hr h').mono fun e w' ⟨e1, hg⟩ => ⟨e1, GPair.left h1 h2 h3 h4 hg⟩
theorem GPair.takeR (p : GPair w0 w b h g1 g2 vs) {a : GA} {m : Mg} (hm : MsgW m) {r : Bool} (hr : g2.may (svM m) m.view = r) (h' : g2.take (svM m) m.view = g') :
    Calls Try.prog 21 #[.pointer (some ⟨h, 0, none⟩), msgV a m] w fun e w' => e = .returned (.bool r) ∧ GPair w0 w' b h g1 g' vs := by
  obtain ⟨S1, S2, h1, h2, h3, h4⟩ := p
  exact (rtake_any h2 hm.lo hm.frm hr h').mono fun e w' ⟨e1, hg⟩ => ⟨e1, GPair.right h1 h2 h3 h4 hg⟩
theorem GPair.commitL (p : GPair w0 w b h g1 g2 vs) (h' : g1.commit = g') :
    Calls Try.prog 14 #[.pointer (some ⟨b, 0, none⟩)] w fun e w' => e = .returned (.tuple #[msgV GA.zero g'.msg, .bool g'.com.isSome]) ∧ GPair w0 w' b h g' g2 vs := by
  obtain ⟨S1, S2, h1, h2, h3, h4⟩ := p
  exact (gcommit_any h1 h').mono fun e w' ⟨e1, hg⟩ => ⟨e1, GPair.left h1 h2 h3 h4 hg⟩
theorem GPair.commitR (p : GPair w0 w b h g1 g2 vs) (h' : g2.commit = g') :
    Calls Try.prog 22 #[.pointer (some ⟨h, 0, none⟩)] w fun e w' => e = .returned (.tuple #[msgV GA.zero g'.msg, .bool g'.com.isSome]) ∧ GPair w0 w' b h g1 g' vs := by
  obtain ⟨S1, S2, h1, h2, h3, h4⟩ := p
  exact (rcommit_any h2 h').mono fun e w' ⟨e1, hg⟩ => ⟨e1, GPair.right h1 h2 h3 h4 hg⟩
theorem GPair.readyL (p : GPair w0 w b h g1 g2 vs) {z : Int} (hz : In64 z) {r : Bool} (hr : g1.mayR z = r) (h' : g1.doR z = g') :
    Calls Try.prog 16 #[.pointer (some ⟨b, 0, none⟩), .int .i64 z] w fun e w' => e = .returned (.bool r) ∧ GPair w0 w' b h g' g2 vs := by
  obtain ⟨S1, S2, h1, h2, h3, h4⟩ := p
  exact (gready_any h1 hz hr h').mono fun e w' ⟨e1, hg⟩ => ⟨e1, GPair.left h1 h2 h3 h4 hg⟩
theorem GPair.readyR (p : GPair w0 w b h g1 g2 vs) {z : Int} (hz : In64 z) {r : Bool} (hr : g2.mayR z = r) (h' : g2.doR z = g') :
    Calls Try.prog 24 #[.pointer (some ⟨h, 0, none⟩), .int .i64 z] w fun e w' => e = .returned (.bool r) ∧ GPair w0 w' b h g1 g' vs := by
  obtain ⟨S1, S2, h1, h2, h3, h4⟩ := p
  exact (rready_any h2 hz hr h').mono fun e w' ⟨e1, hg⟩ => ⟨e1, GPair.right h1 h2 h3 h4 hg⟩
theorem GPair.absentL (p : GPair w0 w b h g1 g2 vs) {l : List Int} (hl : Vw.mem (g1.lacking : Int) = l) : Calls Try.prog 11 #[.pointer (some ⟨b, 0, none⟩)] w (MadeI w w l) := by
  obtain ⟨S1, S2, h1, h2, h3, h4⟩ := p; exact gabsent_any h1 hl
theorem GPair.absentR (p : GPair w0 w b h g1 g2 vs) {l : List Int} (hl : Vw.mem (g2.lacking : Int) = l) : Calls Try.prog 25 #[.pointer (some ⟨h, 0, none⟩)] w (MadeI w w l) := by
  obtain ⟨S1, S2, h1, h2, h3, h4⟩ := p; exact rabsent_any h2 hl
theorem GPair.unrL (p : GPair w0 w b h g1 g2 vs) {l : List Int} (hl : Vw.mem (g1.unready : Int) = l) : Calls Try.prog 17 #[.pointer (some ⟨b, 0, none⟩)] w (MadeI w w l) := by
  obtain ⟨S1, S2, h1, h2, h3, h4⟩ := p; exact gunr_any h1 hl
theorem GPair.unrR (p : GPair w0 w b h g1 g2 vs) {l : List Int} (hl : Vw.mem (g2.unready : Int) = l) : Calls Try.prog 26 #[.pointer (some ⟨h, 0, none⟩)] w (MadeI w w l) := by
  obtain ⟨S1, S2, h1, h2, h3, h4⟩ := p; exact runr_any h2 hl
theorem GPair.allL (p : GPair w0 w b h g1 g2 vs) {r : Bool} (hr : g1.all = r) : Calls Try.prog 13 #[.pointer (some ⟨b, 0, none⟩)] w fun e w' => e = .returned (.bool r) ∧ Below w.heap.size w w' := by
  obtain ⟨S1, S2, h1, h2, h3, h4⟩ := p; exact gall_any h1 hr
theorem GPair.doneL (p : GPair w0 w b h g1 g2 vs) {r : Bool} (hr : g1.done = r) : Calls Try.prog 15 #[.pointer (some ⟨b, 0, none⟩)] w fun e w' => e = .returned (.bool r) ∧ Below w.heap.size w w' := by
  obtain ⟨S1, S2, h1, h2, h3, h4⟩ := p; exact gdone_any h1 hr
theorem GPair.doneR (p : GPair w0 w b h g1 g2 vs) {r : Bool} (hr : g2.done = r) : Calls Try.prog 27 #[.pointer (some ⟨h, 0, none⟩)] w fun e w' => e = .returned (.bool r) ∧ Below w.heap.size w w' := by
  obtain ⟨S1, S2, h1, h2, h3, h4⟩ := p; exact rdone_any h2 hr
end
/-- all have come, just if nobody is absent -/
theorem Gm.all_len {g : Gm} (h : g.Ok) : g.all = decide (((Vw.mem (g.lacking : Int)).length : Int) = 0) := by
  unfold Gm.all
  have h7 := h.lack_lt
  refine decide_eq_decide.2 ?_
  constructor
  · intro e; rw [e]; rfl
  · intro e
    refine Nat.eq_of_testBit_eq fun i => ?_
    rw [Nat.zero_testBit]
    cases hb : g.lacking.testBit i
    · rfl
    · have hi : i < 7 := by
        rcases Nat.lt_or_ge i 7 with h1 | h1
        · exact h1
        · rw [Nat.testBit_lt_two_pow (Nat.lt_of_lt_of_le h7 (Nat.pow_le_pow_right (n := 2) (i := 7) (by decide) h1))] at hb; cases hb
      have hm := Vw.mem_members hi (by rw [Vw.bit_nat]; exact hb)
      have := List.length_pos_of_mem hm
      rw [Vw.mem_len] at e
      omega
theorem mgOf_w (n m : Int) : MsgW (mgOf n m) := by
  refine ⟨?_, ?_⟩
  · unfold mgOf Vw.lo
    split
    · show _ ≤ m % 256; omega
    · split
      · show (_ : Int) ≤ 0; decide
      · split
        · show (_ : Int) ≤ 0; decide
        · split
          · show (_ : Int) ≤ 0; decide
          · split
            · show (_ : Int) ≤ 0; decide
            · split
              · show (_ : Int) ≤ 0; decide
              · show (_ : Int) ≤ 0; decide
  · have h : (mgOf n m).frm = n / 8 % 8 % 7 := by
      unfold mgOf
      repeat' split
      all_goals rfl
    rw [h]
    unfold In64
    omega
end Go.Proofs.Ytneehnoolhadbaa

