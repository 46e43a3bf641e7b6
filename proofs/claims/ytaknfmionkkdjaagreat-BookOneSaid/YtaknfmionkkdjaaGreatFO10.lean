/- PairKit MapsRef MapsRef2 -/
import Derived.Test.YtaknfmionkkdjaaGreatFO04
import Derived.Test.YtaknfmionkkdjaaGreatFO05
import Derived.Test.YtaknfmionkkdjaaGreatFO07
import Derived.Test.YtaknfmionkkdjaaGreatFO09
import Derived.BigQuiet
import Derived.Deep.DeepCutAuto
import Derived.Deep.DrawnRows
import Derived.Deep.QuietTactic
import Derived.Deep.RegionHeld3
import Derived.Deep.RegionWith
import Derived.Deep.RegionLaw
namespace Go.Proofs.YtaknfmionkkdjaaGreat
open Go.RowKit
set_option linter.unusedVariables false
abbrev Pr := List Nat × List Nat
/-- pairs as rows, one behind the other -/
def flat (ps : List Pr) : List (List Nat) := ps.flatMap fun p => [p.1, p.2]
theorem flat_cons (p : Pr) (ps : List Pr) : flat (p :: ps) = p.1 :: p.2 :: flat ps := rfl
theorem flat_append (ps qs : List Pr) : flat (ps ++ qs) = flat ps ++ flat qs := by simp [flat]
theorem flat_length (ps : List Pr) : (flat ps).length = ps.length * 2 := by
  induction ps with
  | nil => rfl
  | cons p ps ih => rw [flat_cons]; simp [ih]; omega
theorem flat_key (ps : List Pr) (i : Nat) : (flat ps)[i * 2]? = ps[i]?.map (·.1) := by
  induction ps generalizing i with
  | nil => simp [flat]
  | cons p ps ih =>
    cases i with
    | zero => rfl
    | succ i => rw [flat_cons, show (i + 1) * 2 = i * 2 + 1 + 1 by omega]; simp [ih]
theorem flat_val (ps : List Pr) (i : Nat) : (flat ps)[i * 2 + 1]? = ps[i]?.map (·.2) := by
  induction ps generalizing i with
  | nil => simp [flat]
  | cons p ps ih =>
    cases i with
    | zero => rfl
    | succ i => rw [flat_cons, show (i + 1) * 2 + 1 = (i * 2 + 1) + 1 + 1 by omega]; simp [ih]
theorem flat_take (ps : List Pr) (k : Nat) : flat (ps.take k) = (flat ps).take (k * 2) := by
  induction ps generalizing k with
  | nil => simp [flat]
  | cons p ps ih =>
    cases k with
    | zero => simp [flat]
    | succ k => rw [List.take_succ_cons, flat_cons, flat_cons, ih, show (k + 1) * 2 = k * 2 + 1 + 1 by omega]; simp
theorem flat_drop (ps : List Pr) (k : Nat) : flat (ps.drop k) = (flat ps).drop (k * 2) := by
  induction ps generalizing k with
  | nil => simp [flat]
  | cons p ps ih =>
    cases k with
    | zero => simp
    | succ k => rw [List.drop_succ_cons, flat_cons, ih, show (k + 1) * 2 = k * 2 + 1 + 1 by omega]; simp
/-- a row of pairs -/
def RdP (w : World) (B : Nat) (A : Option Addr) (n : Nat) (ps : List Pr) : Prop := ∃ vs, Rd w B A (n * 2) vs ∧ Cells w B vs (flat ps)
section
variable {w w' : World} {B B' n : Nat} {A : Option Addr} {ps : List Pr}
theorem RdP.below (h : RdP w B A n ps) (hb : Below B w w') : RdP w' B A n ps := by obtain ⟨vs, h1, h2⟩ := h; exact ⟨vs, h1.below hb, h2.below hb⟩
theorem RdP.fit (h : RdP w B A n ps) : RdP w w.heap.size A n ps := by obtain ⟨vs, h1, h2⟩ := h; exact ⟨vs, h1.fit, h2.fit⟩
theorem RdP.length (h : RdP w B A n ps) : ps.length = n := by
  obtain ⟨vs, h1, h2⟩ := h
  have := h2.len
  rw [h1.1, flat_length] at this
  omega
theorem RdP.nil (w : World) (B : Nat) (A : Option Addr) : RdP w B A 0 [] := ⟨[], Rd.none_ _ _ _, Cells.nil _ _⟩
/-- one pair of it -/
theorem RdP.at {k : Nat} (h : RdP w B A n ps) (hk : k < n) : ∃ b o p A1 c1 A2 c2, A = some ⟨b, o, none⟩ ∧ ps[k]? = some p ∧ w.cell? ⟨b, o + k * 2, none⟩ = some (.slice A1 p.1.length c1) ∧ w.cell? ⟨b, o + k * 2 + 1, none⟩ = some (.slice A2 p.2.length c2) ∧
    Rd w B A1 p.1.length (bv p.1) ∧ Rd w B A2 p.2.length (bv p.2) := by
  have hlen := h.length
  obtain ⟨vs, h1, h2⟩ := h
  obtain ⟨b, o, e, _, hc⟩ := h1.2 (by omega)
  obtain ⟨p, hp⟩ : ∃ p, ps[k]? = some p := ⟨_, List.getElem?_eq_getElem (by omega)⟩
  obtain ⟨A1, c1, e1, r1⟩ := h2.cell (k * 2) p.1 (by rw [flat_key, hp]; rfl)
  obtain ⟨A2, c2, e2, r2⟩ := h2.cell (k * 2 + 1) p.2 (by rw [flat_val, hp]; rfl)
  exact ⟨b, o, p, A1, c1, A2, c2, e, hp, by rw [hc _ (by omega), e1], by rw [Nat.add_assoc, hc _ (by omega), e2], r1, r2⟩
end
theorem cellP : CellS Tryz.prog 28 55 (.agg #[.slice none 0 0, .slice none 0 0]) 2 48 := ⟨Tryz.underlying28, by kernel_rfl, rfl, by omega⟩
/-- a row of the call's own, whose rows are the call's own, too -/
def OwnP (W w : World) (A : Option Addr) (n c : Nat) (ps : List Pr) : Prop :=
  ∃ vs, w.ownsRow W.heap.size 55 2 (.slice A n c) n vs ∧ Owns W w vs (flat ps)
theorem OwnP.rd {W w : World} {A : Option Addr} {n c : Nat} {ps : List Pr} (h : OwnP W w A n c ps) : RdP w w.heap.size A n ps := by
  obtain ⟨vs, h1, h2⟩ := h
  exact ⟨vs, Rd.ownS h1 (by omega), h2.cells⟩
theorem OwnP.below {W w w' : World} {A : Option Addr} {n c : Nat} {ps : List Pr} (h : OwnP W w A n c ps) (hb : Below w.heap.size w w') : OwnP W w' A n c ps := by
  obtain ⟨vs, h1, h2⟩ := h
  exact ⟨vs, ownsRow_below h1 hb, h2.below hb⟩
theorem OwnP.length {W w : World} {A : Option Addr} {n c : Nat} {ps : List Pr} (h : OwnP W w A n c ps) : ps.length = n := h.rd.length
theorem OwnP.nil (W w : World) : OwnP W w none 0 0 [] := ⟨[], ⟨rfl, .inl ⟨rfl, rfl⟩⟩, Owns.nil _ _⟩
theorem OwnP.cap {W w : World} {A : Option Addr} {n c : Nat} {ps : List Pr} (h : OwnP W w A n c ps) : n ≤ c := by
  obtain ⟨vs, h1, _⟩ := h
  exact (own_cap h1).1
theorem OwnP.set_t {W w : World} {A : Option Addr} {n c b i : Nat} {t : TypeId} {u : Value} {cs : Array Value} {ps : List Pr} (h : OwnP W w A n c ps) (hb : Blk w b t cs) (h1 : 5 ≠ t) (h2 : 55 ≠ t) : OwnP W (w.setCell ⟨b, i, none⟩ u) A n c ps := by
  obtain ⟨vs, g1, g2⟩ := h
  exact ⟨vs, own_set_t g1 hb h2, g2.set_t hb h1⟩
theorem OwnP.put3 {W w : World} {A : Option Addr} {n c b : Nat} {t : TypeId} {x0 y0 z0 : Value} {ps : List Pr} (h : OwnP W w A n c ps) (hb : Blk w b t #[x0, y0, z0]) (h1 : 5 ≠ t) (h2 : 55 ≠ t) (x y z : Value) :
    OwnP W (((w.setCell ⟨b, 0, none⟩ x).setCell ⟨b, 1, none⟩ y).setCell ⟨b, 2, none⟩ z) A n c ps :=
  ((h.set_t hb h1 h2).set_t (hb.set_ 0 x) h1 h2).set_t ((hb.set_ 0 x).set_ 1 y) h1 h2
theorem more_ {W w w' : World} (hs : W.heap.size ≤ w.heap.size) {e : TypeId} {size n : Nat} {v : Value} {xs : List Value} (h : w'.ownsRow w.heap.size e size v n xs) : w'.ownsRow W.heap.size e size v n xs := by
  obtain ⟨h1, h2⟩ := h
  refine ⟨h1, ?_⟩
  rcases h2 with h2 | ⟨g, cap, cur, hv, hg, r⟩
  · exact .inl h2
  · exact .inr ⟨g, cap, cur, hv, Nat.le_trans hs hg, r⟩
theorem Owns.of {W w w' : World} (hs : W.heap.size ≤ w.heap.size) {vs : List Value} {qs : List (List Nat)} (h : Owns w w' vs qs) : Owns W w' vs qs :=
  ⟨h.len, fun i l hl => by obtain ⟨A', c', e, ho⟩ := h.cell i l hl; exact ⟨A', c', e, more_ hs ho⟩⟩
theorem OwnP.of {W w w' : World} {A : Option Addr} {n c : Nat} {ps : List Pr} (hs : W.heap.size ≤ w.heap.size) (h : OwnP w w' A n c ps) : OwnP W w' A n c ps := by
  obtain ⟨vs, h1, h2⟩ := h
  exact ⟨vs, more_ hs h1, h2.of hs⟩
/-- pairs, in memory of W's own -/
def GotP (W w : World) (ps : List Pr) (e : Ending) (w' : World) : Prop := ∃ A c, e = .returned (.slice A ps.length c) ∧ OwnP W w' A ps.length c ps ∧ Below W.heap.size W w' ∧ Below w.heap.size w w'
theorem GotP.of {W w w' : World} {ps : List Pr} {e : Ending} (hB : Below W.heap.size W w) (h : GotP w w ps e w') : GotP W w ps e w' := by
  obtain ⟨A, c, h1, h2, h3, h4⟩ := h
  exact ⟨A, c, h1, h2.of hB.size, hB.trans (h3.mono hB.size), h4⟩
/-- pairs and a result, both W's own -/
def GotPR (W w : World) (ps : List Pr) (e : Int) (l : List Nat) (N : Int) (en : Ending) (w' : World) : Prop :=
  ∃ A c A' c', en = .returned (.tuple #[.slice A ps.length c, resV e A' l.length c' N]) ∧ OwnP W w' A ps.length c ps ∧ OwnB W w' A' l.length c' l ∧ Below W.heap.size W w' ∧ Below w.heap.size w w'
theorem GotPR.of {W w w' : World} {ps : List Pr} {e : Int} {l : List Nat} {N : Int} {en : Ending} (hB : Below W.heap.size W w) (h : GotPR w w ps e l N en w') : GotPR W w ps e l N en w' := by
  obtain ⟨A, c, A', c', h1, h2, h3, h4, h5⟩ := h
  exact ⟨A, c, A', c', h1, h2.of hB.size, more_ hB.size h3, hB.trans (h4.mono hB.size), h5⟩
/-- each row is of a length that may be -/
def LimP (ps : List Pr) : Prop := ∀ p ∈ ps, Lim 0 p.1.length ∧ Lim 0 p.2.length
def BytesP (ps : List Pr) : Prop := ∀ p ∈ ps, (∀ x ∈ p.1, x < 256) ∧ ∀ x ∈ p.2, x < 256
theorem Owns.two {W w : World} {vs : List Value} {qs : List (List Nat)} {A1 A2 : Option Addr} {c1 c2 : Nat} {k v : List Nat} (h : Owns W w vs qs) (h1 : OwnB W w A1 k.length c1 k) (h2 : OwnB W w A2 v.length c2 v) : Owns W w (vs ++ [.slice A1 k.length c1, .slice A2 v.length c2]) (qs ++ [k, v]) := by
  have := (h.snoc (c := c1) h1).snoc (c := c2) h2
  simpa using this
theorem Rd.twoAt (w : World) (u v : Value) (t : TypeId) {g : Nat} (hg : w.heap.size = g) : Rd (w.alloc (.cells #[u, v] t)) (g + 1) (some ⟨g, 0, none⟩) (1 * 2) [u, v] := by
  subst hg; exact Rd.made w #[u, v] t (0, 0) 2 rfl
theorem Owns.grownP {W w w' : World} {base' size' n' c' : Nat} {A' : Option Addr} {vs xs' : List Value} {qs : List (List Nat)} (h : Owns W w vs qs) (ho : w.ownsRow base' 55 size' (.slice A' n' c') n' xs') (hg : w.grownBy w' (Value.slice A' n' c').ownBlock) : Owns W w' vs qs :=
  ⟨h.len, fun i l hl => by obtain ⟨A, c, e, hq⟩ := h.cell i l hl; exact ⟨A, c, e, own_grown_t hq ho (by decide) hg⟩⟩
end Go.Proofs.YtaknfmionkkdjaaGreat

namespace Go.Proofs.YtaknfmionkkdjaaGreat
open Go.RowKit
set_option linter.unusedVariables false
set_option maxHeartbeats 2000000 in
set_option maxRecDepth 100000 in
theorem refPairs_raw (ps : List Pr) (A : Option Addr) (n c B : Nat) (hn : n ≤ 100000) (hL : LimP ps) (w : World) (hr : RdP w B A n ps) :
    Calls Tryz.prog 74 #[.slice A n c] w (GotP w w ps) := by
  have HL := Lib.hid hL
  have HR := Lib.hid hr.fit
  have hlen := hr.length
  clear hr hL
  go_enter Tryz.func74, Tryz.ntmps74
  go_wp2_with fail
  go_loopw [3, 4] (fun s3 s4 wr => ∃ (k c' : Nat) (A' : Option Addr), k ≤ n ∧ s4 = .int .i64 (k : Int) ∧ s3 = .slice A' k c' ∧ Hid (OwnP w wr A' k c' (ps.take k)) ∧ Hid (Below w.heap.size w wr)) (fun _ s4 _ => n - (intOf s4).toNat)
  case atStart => exact ⟨0, 0, none, Nat.zero_le _, rfl, rfl, Lib.hid (by simpa using OwnP.nil w w), Lib.hid (Below.refl _ _)⟩
  case round =>
    obtain ⟨k, c', A', hk, rfl, rfl, HO, HB⟩ := hrel
    by_cases hlt : k < n
    · obtain ⟨b, o, p, A1, c1, A2, c2, rfl, hp, hcell1, hcell2, hrd1, hrd2⟩ := ((HR.out.below HB.out).fit).at hlt
      have hl1 : Lim 0 p.1.length := (HL.out p (List.mem_of_getElem? hp)).1
      have hl2 : Lim 0 p.2.length := (HL.out p (List.mem_of_getElem? hp)).2
      have hblt1 := World.block_lt_of_cell? _ _ hcell1
      have HC : Hid (∀ wx, Below wr.heap.size wr wx → wx.cell? ⟨b, o + k * 2, none⟩ = some (.slice A1 p.1.length c1) ∧ wx.cell? ⟨b, o + k * 2 + 1, none⟩ = some (.slice A2 p.2.length c2)) := Lib.hid (fun wx hb => ⟨(hb.cell (p := ⟨b, o + k * 2, none⟩) hblt1).trans hcell1, (hb.cell (p := ⟨b, o + k * 2 + 1, none⟩) hblt1).trans hcell2⟩)
      have HRD1 := Lib.hid hrd1
      have HRD2 := Lib.hid hrd2
      have HP := Lib.hid hp
      clear hrd1 hrd2 hp
      go_upto_region 5 with fail
      have hc0 := HC.out wr.drew (Below.refl _ _).drew
      obtain ⟨hcA, hcB⟩ := hc0
      go_region_law (first
        | (refine step_append_S (W := w) cellP (.tmp 11) (.tmp 25) rfl rfl (by rfl) (ownsRow_below hv1 ((Below.refl _ _).alloc (Nat.le_refl _) _)) (by rfl) (Rd.twoAt _ _ _ _ rfl) (by intro u hu; simp at hu; rcases hu with rfl | rfl <;> rfl) (by omega) (by omega) (hB2.alloc hB2.size _) ?_
           intro A3 c3 w3 hown3 hB3 hg3)
        | (rw [if_pos (by kernel_rfl)]; go_simp; go_at_call_of 72 A1; refine (ownref_any (W := w) hl1 HRD1.out.drew HB.out.drew).mono ?_; rintro e w1 ⟨A4, c4, rfl, ho1, hB1, hb1⟩; obtain ⟨hcA, hcB⟩ := HC.out w1 ((Below.refl _ _).drew.trans hb1); go_simp)
        | (rw [if_pos (by kernel_rfl)]; go_simp; go_at_call_of 72 A2; refine (ownref_any (W := w) hl2 (HRD2.out.below ((Below.refl _ _).drew.trans hb1)) hB1).mono ?_; rintro e w2 ⟨A5, c5, rfl, ho2, hB2, hb2⟩; have ho1 := own_below ho1 hb2; obtain ⟨vs, hv1, hv2⟩ := (HO.out.below ((Below.refl _ _).drew.trans hb1)).below hb2; go_simp))
      all_goals go_wp2_with fail
      all_goals go_roundw
      all_goals first
        | (simp only [intOf]; omega)
        | (refine ⟨k + 1, c3, A3, by omega, by go_num, rfl, Lib.hid ?_, Lib.hid hB3⟩
           have b1 : Below w2.heap.size w2 (w2.alloc (.cells #[.slice A4 p.1.length c4, .slice A5 p.2.length c5] 55)) := (Below.refl _ _).alloc (Nat.le_refl _) _
           refine ⟨vs ++ [.slice A4 p.1.length c4, .slice A5 p.2.length c5], hown3, ?_⟩
           rw [List.take_add_one, HP.out, flat_append]
           exact ((hv2.two ho1 ho2).below b1).grownP (ownsRow_below hv1 b1) hg3)
    · obtain rfl : k = n := by omega
      go_wp2_with fail
      go_ret
      have HO2 := HO.out
      rw [List.take_of_length_le (by omega)] at HO2
      subst hlen
      exact ⟨A', c', rfl, HO2, HB.out, HB.out⟩
theorem refPairs_any {W w : World} {ps : List Pr} {A : Option Addr} {n c B : Nat} (hn : n ≤ 100000) (hL : LimP ps) (hr : RdP w B A n ps) (hB : Below W.heap.size W w) :
    Calls Tryz.prog 74 #[.slice A n c] w (GotP W w ps) :=
  (refPairs_raw ps A n c B hn hL w hr).mono fun e w' h => GotP.of hB h
theorem keys_at {ps : List Pr} {k : Nat} {p : Pr} (h : ps[k]? = some p) : (Mp.keys ps)[k]? = some p.1 := by unfold Mp.keys; rw [List.getElem?_map, h]; rfl
theorem keys_length (ps : List Pr) : (Mp.keys ps).length = ps.length := by simp [Mp.keys]
theorem belowN_ {B : Nat} {a w : World} (h : Below B a w) (k : Nat) : Below B a (w.drewN k) := h.trans ⟨rfl, rfl, rfl, Nat.le_refl _, fun _ _ => rfl⟩
set_option maxHeartbeats 1000000 in
theorem refKey_any (w : World) {A A' : Option Addr} {n c n' c' B B' : Nat} {ps : List Pr} {k : List Nat} (hn : n ≤ 100000) (hb : BytesP ps) (hbk : ∀ x ∈ k, x < 256) (h : RdP w B A n ps) (h' : Rd w B' A' n' (bv k)) :
    Calls Tryz.prog 112 #[.slice A n c, .slice A' n' c'] w fun e w' => e = .returned (.int .i64 (Mp.place (Mp.keys ps) k)) ∧ ∃ m, w' = w.drewN m := by
  have HL := Lib.hid h.length
  have H := Lib.hid h.fit
  have H' := Lib.hid h'.fit
  have HB := Lib.hid hb
  have HBK := Lib.hid hbk
  clear h h' hb hbk
  go_enter Tryz.func112, Tryz.ntmps112
  go_wp2
  go_loopw [5] (fun i wr => ∃ j : Nat, j ≤ n ∧ i = .int .i64 j ∧ Hid (∀ i, i < j → (Mp.keys ps)[i]? ≠ some k) ∧ ∃ m, wr = w.drewN m) (fun i _ => n - (intOf i).toNat)
  case atStart => exact ⟨0, Nat.zero_le _, rfl, Lib.hid (fun j hj => absurd hj (by omega)), 0, rfl⟩
  case round =>
    obtain ⟨j, hj, rfl, HS, m, hm⟩ := hrel
    have HM := Lib.hid hm
    by_cases hlt : j < n
    · obtain ⟨b, o, p, A1, c1, A2, c2, rfl, hp, hcell1, _, hrd1, _⟩ := H.out.at hlt
      have hc1 : wr.cell? ⟨b, o + j * 2, none⟩ = some (.slice A1 p.1.length c1) := by rw [hm]; exact hcell1
      have hv : IntKind.i64.wrap ((j : Int) + 1) = (j : Int) + 1 := IntWalk.i64_in _ (by omega)
      have hs1 : ∀ q, (convert 26 9 (.slice A1 p.1.length c1)).run Tryz.prog (wr.drewN q) = .ok (.string (strB p.1)) (wr.drewN q) := fun q => by rw [hm]; exact str_of (c := c1) ((hrd1.drewN m).drewN q)
      have hs2 : ∀ q, (convert 26 9 (.slice A' n' c')).run Tryz.prog (wr.drewN q) = .ok (.string (strB k)) (wr.drewN q) := fun q => by rw [hm]; exact str_of (c := c') ((H'.out.drewN m).drewN q)
      have hs3 := strL_eq (HB.out p (List.mem_of_getElem? hp)).1 HBK.out
      have HP := Lib.hid hp
      clear hp hcell1 hrd1 hm
      by_cases he : p.1 = k
      · have HE := Lib.hid (Mp.place_first (by rw [keys_at HP.out, he]) HS.out)
        rw [decide_eq_true he] at hs3
        clear he
        go_wp2
        go_quiet (fail)
        go_wp2
        go_ret
        exact ⟨ret_int HE.out.symm, m + nq, by rw [HM.out, World.drewN_drewN]⟩
      · rw [decide_eq_false he] at hs3
        have HNE := Lib.hid he
        clear he
        go_wp2
        go_quiet (fail)
        go_wp2
        go_roundw
        case rel =>
          refine ⟨j + 1, by omega, by go_num, Lib.hid (fun i hi => ?_), m + nq, by rw [HM.out, World.drewN_drewN]⟩
          rcases Nat.lt_or_ge i j with h1 | h1
          · exact HS.out i h1
          · obtain rfl : i = j := by omega
            rw [keys_at HP.out]
            intro h; injection h with h; exact HNE.out h
        case measure => simp [intOf]; omega
    · obtain rfl : j = n := by omega
      have HP := Lib.hid (Mp.place_none (s := Mp.keys ps) (x := k) (by rw [keys_length, HL.out]; exact HS.out))
      clear hm
      go_wp2
      go_ret
      exact ⟨ret_int HP.out.symm, m, HM.out⟩
end Go.Proofs.YtaknfmionkkdjaaGreat

namespace Go.Proofs.YtaknfmionkkdjaaGreat
open Go.RowKit
set_option linter.unusedVariables false
theorem belowN_d {w : World} (m : Nat) : Below w.heap.size w (w.drewN m) := belowN_ (Below.refl _ _) m
/-- a result, whose bytes are W's own, as it lies in the variable at b -/
theorem refGet_raw {w : World} {ps : List Pr} {k : List Nat} {A A' : Option Addr} {n c n' c' B B' : Nat} (hn : n ≤ 100000) (hL : LimP ps) (hb : BytesP ps) (hbk : ∀ x ∈ k, x < 256) (h : RdP w B A n ps) (h' : Rd w B' A' n' (bv k)) :
    Calls Tryz.prog 84 #[.slice A n c, .slice A' n' c'] w (GotR w w (Mp.getE ps k) (Mp.getV ps k) 0) := by
  have hlen := h.length
  have H := Lib.hid h.fit
  have H' := Lib.hid h'.fit
  have HL := Lib.hid hL
  have HB := Lib.hid hb
  have HBK := Lib.hid hbk
  have b0 : Below w.heap.size w (w.alloc (.cells zeroR 47)) := (Below.refl _ _).alloc (Nat.le_refl _) _
  clear h h' hL hb hbk
  unfold Mp.getE Mp.getV
  by_cases hk : k ∈ Mp.keys ps
  · rw [if_pos hk, if_pos hk]
    obtain ⟨i, ei, hi, hix⟩ := Mp.place_lt hk
    rw [hix]
    have hin : i < n := by
      have h1 : i < (Mp.keys ps).length := by
        rcases Nat.lt_or_ge i (Mp.keys ps).length with h | h
        · exact h
        · rw [List.getElem?_eq_none h] at hi; cases hi
      rw [keys_length, hlen] at h1; exact h1
    obtain ⟨b, o, p, A1, c1, A2, c2, rfl, hp, _, hcell2, _, hrd2⟩ := H.out.at hin
    have hv : (ps[i]?.map (·.2)).getD [] = p.2 := by rw [hp]; rfl
    rw [hv]
    have hl2 : Lim 0 p.2.length := (HL.out p (List.mem_of_getElem? hp)).2
    have hlt2 := World.block_lt_of_cell? _ _ hcell2
    have HC : Hid (∀ wx, Below w.heap.size w wx → wx.cell? ⟨b, o + i * 2 + 1, none⟩ = some (.slice A2 p.2.length c2)) := Lib.hid (fun wx hb => (hb.cell (p := ⟨b, o + i * 2 + 1, none⟩) hlt2).trans hcell2)
    have HRD := Lib.hid hrd2
    have HE := Lib.hid ei
    have h0 : (0 : Int) ≤ (i : Int) := by omega
    have h1 : (i : Int) < (n : Int) := by omega
    clear hv hix hi hcell2 hrd2 ei hp hk
    go_enter Tryz.func84, Tryz.ntmps84
    go_wp2_with fail
    refine (refKey_any _ (k := k) hn HB.out HBK.out (H.out.below b0) (H'.out.below b0)).mono ?_
    rintro e w1 ⟨rfl, m, rfl⟩
    rw [HE.out]
    have hc1 := HC.out _ (belowN_ b0 m)
    have HK := Lib.hid ((Blk.new w 47 zeroR).below (belowN_d m))
    go_wp2_with (first
      | (go_at_call 72; refine (ownref_any (W := w) hl2 (HRD.out.below (belowN_ b0 m)) (belowN_ b0 m)).mono ?_; rintro e w2 ⟨A3, c3, rfl, ho2, hB2, hb2⟩; have HK := Lib.hid (HK.out.below hb2); obtain ⟨x0, x1, x2, f0, f1, f2⟩ := three HK.out)
      | fail)
    obtain ⟨k1, k2, k3⟩ := put3 HK.out (.int .i64 0) (.slice A3 p.2.length c3) (.int .i64 0)
    refine bodyPost_ret (results_cell_row rfl _ _ _ _ _ _ _ rfl k1 Tryz.underlying47 rfl (by kernel_rfl)) rfl ?_
    have h3 := k2 w (Nat.le_refl _) hB2
    exact ⟨A3, c3, rfl, k3 _ _ _ _ _ _ ho2 (by decide), h3, h3⟩
  · rw [if_neg hk, if_neg hk]
    have HE := Lib.hid (Mp.place_no hk)
    clear hk
    go_enter Tryz.func84, Tryz.ntmps84
    go_wp2_with fail
    refine (refKey_any _ (k := k) hn HB.out HBK.out (H.out.below b0) (H'.out.below b0)).mono ?_
    rintro e w1 ⟨rfl, m, rfl⟩
    rw [HE.out]
    have HK := Lib.hid ((Blk.new w 47 zeroR).below (belowN_d m))
    go_wp2_with (first
      | (go_at_call 69; refine (bad_any _ 5).mono ?_; rintro e w3 ⟨rfl, hb3⟩; unfold resV; have HK := Lib.hid (HK.out.below hb3); obtain ⟨x0, x1, x2, f0, f1, f2⟩ := three HK.out)
      | fail)
    obtain ⟨k1, k2, k3⟩ := put3 HK.out (.int .i64 5) (.slice none 0 0) (.int .i64 0)
    refine bodyPost_ret (results_cell_row rfl _ _ _ _ _ _ _ rfl k1 Tryz.underlying47 rfl (by kernel_rfl)) rfl ?_
    have hB3 := (belowN_ b0 m).trans (hb3.mono (belowN_ b0 m).size)
    have h3 := k2 w (Nat.le_refl _) hB3
    exact ⟨none, 0, rfl, own_nil _ _, h3, h3⟩
theorem refGet_any {W w : World} {ps : List Pr} {k : List Nat} {A A' : Option Addr} {n c n' c' B B' : Nat} (hn : n ≤ 100000) (hL : LimP ps) (hb : BytesP ps) (hbk : ∀ x ∈ k, x < 256) (h : RdP w B A n ps) (h' : Rd w B' A' n' (bv k)) (hB : Below W.heap.size W w) :
    Calls Tryz.prog 84 #[.slice A n c, .slice A' n' c'] w (GotR W w (Mp.getE ps k) (Mp.getV ps k) 0) :=
  (refGet_raw hn hL hb hbk h h').mono fun e w' ⟨A, c, h1, h2, h3, h4⟩ => ⟨A, c, h1, more_ hB.size h2, hB.trans (h3.mono hB.size), h4⟩
end Go.Proofs.YtaknfmionkkdjaaGreat

