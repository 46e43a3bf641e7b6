/- CloneKit MachPut2 MachPutE MapsRef MapsRef2 RegionT EqualKit ObjsEq MachSameC MesgPut MesgW MesgW2 -/
import Derived.Test.YtijcbbommaeejaaK01
import Derived.BigQuiet
import Derived.Deep.DeepCutAuto
import Derived.Deep.DrawnRows
import Derived.Deep.QuietTactic
import Derived.Deep.RegionHeld3
import Derived.Deep.RegionLaw
import Derived.Deep.RegionWith
import Derived.Deep.RegionHeld
import Derived.StillTail
import Derived.IntWalk
import Derived.OwnWalk
import Derived.ProofKit
import Derived.Test.YtijcbbommaeejaaRows
import Derived.WalkKit
import Derived.WalkLawsBesides
import Derived.WalkSmall
import Derived.WalkSpells
import Derived.Deep.CutBlock
namespace Go.Proofs.Ytijcbbommaeejaa
open Go.RowKit
set_option linter.unusedVariables false

set_option maxRecDepth 100000 in
theorem clone_raw (l : List Nat) (A : Option Addr) (n c B : Nat) (hn : Lim 0 n) (w : World) (hr : Rd w B A n (bv l)) :
    Calls Try.prog 68 #[.slice A n c] w (GotB w l) := by
  have hn := hn.out
  have H := Lib.hid hr.fit
  have hB0 : Below w.heap.size w w := Below.refl _ _
  cases A with
  | none =>
    have h0 : n = 0 := by
      rcases Nat.eq_zero_or_pos n with h | h
      · exact h
      · obtain ⟨b, o, h1, _⟩ := hr.2 h
        cases h1
    subst h0
    have hl : l = [] := List.eq_nil_of_length_eq_zero hr.length
    subst hl
    clear hr H
    have he : ∀ w : World, (binOp .eql 23 (.slice none 0 c) (.slice none 0 0)).run Try.prog w = .ok (.bool true) w := fun _ => rfl
    go_enter Try.func68, Try.ntmps68
    go_wp2
    go_ret
    exact ⟨none, 0, 0, rfl, ⟨rfl, .inl ⟨rfl, rfl⟩⟩, hB0⟩
  | some a =>
    clear hr
    have he : ∀ w : World, (binOp .eql 23 (.slice (some a) n c) (.slice none 0 0)).run Try.prog w = .ok (.bool false) w := fun _ => rfl
    go_enter Try.func68, Try.ntmps68
    go_wp2_with (first
      | (at_builtin
         refine wpList_append_bytes (W := w) byteT (.tmp 5) (.tmp 6) rfl (by rfl) rfl (own_empty hB0 5) rfl ((H.out).alloc (Nat.le_refl _) _) (by omega) (hB0.alloc (Nat.le_refl _) _) ?_
         intro A1 c1 w1 hown1 hr1 hB1
         simp only [Nat.zero_add, List.nil_append] at hown1 hr1)
      | fail)
    go_ret
    exact ⟨_, _, _, rfl, hown1, hB1⟩
theorem clone_any {W w : World} {l : List Nat} {A : Option Addr} {n c B : Nat} (hn : Lim 0 n) (hr : Rd w B A n (bv l)) (hB : Below W.heap.size W w) :
    Calls Try.prog 68 #[.slice A n c] w (GotIn W w l) :=
  (clone_raw l A n c B hn w hr).mono fun e w' h => GotIn.of hB h
end Go.Proofs.Ytijcbbommaeejaa

namespace Go.Proofs.Ytijcbbommaeejaa
open Go.RowKit
set_option linter.unusedVariables false
theorem take_snoc {α : Type} {l : List α} {k : Nat} {x : α} (h : l[k]? = some x) : l.take (k + 1) = l.take k ++ [x] := by rw [List.take_add_one, h]; rfl
end Go.Proofs.Ytijcbbommaeejaa

namespace Go.Proofs.Ytijcbbommaeejaa
open Go.RowKit
set_option linter.unusedVariables false
theorem RdT.at_ {w : World} {e : TypeId} {A : Option Addr} {n k : Nat} {vs : List Value} {v : Value} (h : RdT w e A n vs) (hk : k < n) (hv : vs[k]? = some v) : ∃ b o, A = some ⟨b, o, none⟩ ∧ w.cell? ⟨b, o + k, none⟩ = some v := by
  obtain ⟨g, o, cur, e1, hb, hc⟩ := h.2 (by omega)
  exact ⟨g, o, e1, (hb.cell _).trans ((hc k hk).trans hv)⟩
theorem iv_at {zs : List Int} {k : Nat} {z : Int} (h : zs[k]? = some z) : (iv zs)[k]? = some (.int .i64 z) := by unfold iv; rw [List.getElem?_map, h]; rfl
end Go.Proofs.Ytijcbbommaeejaa

namespace Go.Proofs.Ytijcbbommaeejaa
open Go.RowKit
set_option linter.unusedVariables false
theorem belowN_ {B : Nat} {a w : World} (h : Below B a w) (k : Nat) : Below B a (w.drewN k) := h.trans ⟨rfl, rfl, rfl, Nat.le_refl _, fun _ _ => rfl⟩
end Go.Proofs.Ytijcbbommaeejaa

namespace Go.Proofs.Ytijcbbommaeejaa
open Go.RowKit
set_option linter.unusedVariables false
theorem belowN_d {w : World} (m : Nat) : Below w.heap.size w (w.drewN m) := belowN_ (Below.refl _ _) m
end Go.Proofs.Ytijcbbommaeejaa

namespace Go.Proofs.Ytijcbbommaeejaa
set_option linter.unusedVariables false
section
variable {P : Program} {md : Region.Mode} {ops : Array Oper} {Q : Exit → Act → World → Prop} {S : World → Prop} {n : Nat}
/-- S holds behind each operation but n -/
def AnyT (P : Program) (md : Region.Mode) (ops : Array Oper) (Q : Exit → Act → World → Prop) (S : World → Prop) (n : Nat) : Nat → Array Bool → Act → World → Prop
  | 0, listed, a, w => Region.ready md ops listed = [] ∧ Q .normal a w
  | fuel + 1, listed, a, w => (Region.ready md ops listed = [] → Q .normal a w) ∧
      ∀ i ∈ Region.ready md ops listed, wpOp P ops Q i (fun a' w' => (i = n ∨ S w') ∧ AnyT P md ops Q S n fuel (listed.setIfInBounds i true) a' w') a w
theorem AnyT.any : ∀ (fuel : Nat) (listed : Array Bool) (a : Act) (w : World), AnyT P md ops Q S n fuel listed a w → wpAny P md ops Q fuel listed a w := by
  intro fuel
  induction fuel with
  | zero => exact fun _ _ _ h => h
  | succ fuel ih => exact fun listed a w h => ⟨h.1, fun i hi => wpOp_mono (fun a' w' h' => ih _ _ _ h'.2) (h.2 i hi)⟩
theorem region_T {id : Nat} {a : Act} {w : World} (hm : P.follows .mixedOrders = true) (h : AnyT P .any ops Q S n ops.size (Array.replicate ops.size false) a w.drew) : (Code.region id ops true).wp P Q a w :=
  wp_region_any hm (AnyT.any _ _ _ _ h)
/-- no order lets n come ahead of what it waits for -/
theorem not_last {i j : Nat} {listed : Array Bool} (hw : Region.waitsFor md ops n i = true) (hi : i ∈ Region.ready md ops listed) (hj : j ∈ Region.ready md ops listed) : j ≠ n := by
  intro e
  subst e
  obtain ⟨oj, hoj, x, hx, hb, hon⟩ := Region.waitsFor_spec hw
  obtain ⟨_, oj', hoj', hall⟩ := mem_ready.1 hj
  rw [hoj] at hoj'
  injection hoj' with hoj'
  subst hoj'
  have h1 := hall x hx hb
  have h0 := (mem_ready.1 hi).1
  rw [hon] at h1
  rcases Nat.lt_or_ge i listed.size with h' | h'
  · simp [h'] at h0 h1; rw [h0] at h1; cases h1
  · simp [Array.getElem?_eq_none h'] at h1
/-- what yields v wherever S holds may come first, if n waits for it -/
theorem AnyT.first {i : Nat} {oi : Oper} {v : Value} (hi : ops[i]? = some oi) (hsel : Region.noSelect ops = true) (hw : Region.waitsFor md ops n i = true) (hQ : ∀ c a w, Q (.panic c) (a.put oi.dst v) w → Q (.panic c) a w) :
    ∀ (fuel : Nat) (listed : Array Bool) (a : Act) (w : World),
      (∀ j oj, ops[j]? = some oj → j ≠ i → listed.getD j true = false → (∀ e ∈ oj.after, Region.binds md e = true → e.on ≠ i) → oi.apart ops oj = true) →
      i ∈ Region.ready md ops listed → YieldsIf P ops S oi v a → S w → AnyT P md ops Q S n fuel (listed.setIfInBounds i true) (a.put oi.dst v) w → AnyT P md ops Q S n (fuel + 1) listed a w := by
  have sel := Region.noSelect_spec hsel
  intro fuel
  induction fuel with
  | zero =>
    intro listed a w _ hr hy hS H
    refine ⟨fun h => absurd hr (by rw [h]; simp), fun j hj => ?_⟩
    by_cases hji : j = i
    · rw [hji]; exact hy.wpOp hi hS ⟨.inr hS, by rw [← hji] at H ⊢; exact H⟩
    · exact absurd (ready_mono hj hji) (by rw [H.1]; simp)
  | succ fuel ih =>
    intro listed a w hfree hr hy hS H
    refine ⟨fun h => absurd hr (by rw [h]; simp), fun j hj => ?_⟩
    by_cases hji : j = i
    · rw [hji]; exact hy.wpOp hi hS ⟨.inr hS, by rw [← hji] at H ⊢; exact H⟩
    · have hjn := not_last hw hr hj
      obtain ⟨hun, oj, hoj, hall⟩ := mem_ready.1 hj
      have hnot : ∀ e ∈ oj.after, Region.binds md e = true → e.on ≠ i := fun e he hb heq => by
        have h1 := hall e he hb
        have h0 := (mem_ready.1 hr).1
        rw [heq] at h1
        rcases Nat.lt_or_ge i listed.size with h' | h'
        · simp [h'] at h0 h1; rw [h0] at h1; cases h1
        · simp [Array.getElem?_eq_none h'] at h1
      refine wpOp_mono (fun a' w' h3 => ?_) (wpOp_putIf hoj (hfree j oj hoj hji hun hnot) (fun cs b => sel i oi cs b hi) (fun cs b => sel j oj cs b hoj) hQ hy (H.2 j (ready_mono hj hji)))
      obtain ⟨hy', hs', hrest⟩ := h3
      have hS' : S w' := hs'.resolve_left hjn
      refine ⟨.inr hS', ih (listed.setIfInBounds j true) a' w' (fun k ok hk hki hu hno => hfree k ok hk hki ?_ hno) (ready_mono hr (Ne.symm hji)) hy' hS' (by rw [Array.setIfInBounds_comm _ _ hji]; exact hrest)⟩
      by_cases hjk : j = k
      · rw [← hjk]; exact hun
      · rwa [getD_set_ne true hjk] at hu
/-- the moves of a walk -/
theorem AnyT.take {i : Nat} {oi : Oper} {v : Value} {fuel : Nat} {listed : Array Bool} {a : Act} {w : World} (hi : ops[i]? = some oi) (hs : Region.noSelect ops = true) (hw : Region.waitsFor md ops n i = true)
    (hf : Region.free md ops listed i = true) (hr : (Region.ready md ops listed).contains i = true) (hQ : ∀ c a w, Q (.panic c) (a.put oi.dst v) w → Q (.panic c) a w) (hy : YieldsIf P ops S oi v a) (hS : S w)
    (h : AnyT P md ops Q S n fuel (listed.setIfInBounds i true) (a.put oi.dst v) w) : AnyT P md ops Q S n (fuel + 1) listed a w :=
  AnyT.first hi hs hw hQ fuel listed a w (Region.free_spec hi hf) (by simpa using hr) hy hS h
/-- those that may come up -/
def AllT (P : Program) (md : Region.Mode) (ops : Array Oper) (Q : Exit → Act → World → Prop) (S : World → Prop) (n fuel : Nat) (listed : Array Bool) (a : Act) (w : World) (rs : List Nat) : Prop :=
  ∀ i ∈ rs, wpOp P ops Q i (fun a' w' => (i = n ∨ S w') ∧ AnyT P md ops Q S n fuel (listed.setIfInBounds i true) a' w') a w
theorem AllT.nil {fuel : Nat} {listed : Array Bool} {a : Act} {w : World} : AllT P md ops Q S n fuel listed a w [] := fun _ h => by cases h
theorem AllT.cons {fuel : Nat} {listed : Array Bool} {a : Act} {w : World} {i : Nat} {o : Oper} {rs : List Nat} (ho : ops[i]? = some o)
    (h : ∀ K' : Act → World → Prop, Shut (∀ a w, (i = n ∨ S w) → ((i = n ∨ S w) → AnyT P md ops Q S n fuel (listed.setIfInBounds i true) a w) → K' a w) → if Region.wanted o (yielded ops a.tmps) = true then Oper.wp P o a w K' Q else K' (a.put o.dst undef) w)
    (hs : AllT P md ops Q S n fuel listed a w rs) : AllT P md ops Q S n fuel listed a w (i :: rs) := fun j hj => by
  rcases List.mem_cons.1 hj with e | hj
  · rw [e]; exact wpOp_step ho (fun K' hK => h K' (fun a w hS hW => hK a w ⟨hS, hW hS⟩))
  · exact hs j hj
theorem AnyT.ready {rs : List Nat} {fuel : Nat} {listed : Array Bool} {a : Act} {w : World} (hr : Region.ready md ops listed = rs) (hne : rs ≠ []) (h : AllT P md ops Q S n fuel listed a w rs) : AnyT P md ops Q S n (fuel + 1) listed a w :=
  ⟨fun h0 => absurd (hr.symm.trans h0) hne, by rw [hr]; exact h⟩
theorem AnyT.done {listed : Array Bool} {a : Act} {w : World} (hr : Region.ready md ops listed = []) (h : Q .normal a w) : ∀ fuel, AnyT P md ops Q S n fuel listed a w
  | 0 => ⟨hr, h⟩
  | _ + 1 => ⟨fun _ => h, by rw [hr]; simp⟩
end
end Go.Proofs.Ytijcbbommaeejaa

namespace Go.Proofs.Ytijcbbommaeejaa
open Go.RowKit
set_option linter.unusedVariables false
/-- two rows of bytes alike -/
theorem equal_any (w : World) (A A' : Option Addr) (n c n' c' B B' : Nat) (l l' : List Nat) (hl : ∀ x ∈ l, x < 256) (hl' : ∀ x ∈ l', x < 256) (h : Rd w B A n (bv l)) (h' : Rd w B' A' n' (bv l')) :
    Calls Try.prog 25 #[.slice A n c, .slice A' n' c'] w fun e w' => e = .returned (.bool (decide (l = l'))) ∧ w' = w := by
  have k1 := str_of (c := c) h
  have k2 := str_of (c := c') h'
  have k3 := strL_eq hl hl'
  clear h h'
  go_enter Try.func25, Try.ntmps25
  go_wp2
  go_ret
  exact ⟨by first | exact ret_bool k3 | rfl | (rw [← k3]; rfl), rfl⟩
end Go.Proofs.Ytijcbbommaeejaa

namespace Go.Proofs.Ytijcbbommaeejaa
open Go.RowKit
set_option linter.unusedVariables false
set_option maxHeartbeats 1000000 in
theorem equalI_any (w : World) (A A' : Option Addr) (n c n' c' B B' : Nat) (zs zs' : List Int) (h : Rd w B A n (iv zs)) (h' : Rd w B' A' n' (iv zs')) (hn : n ≤ maxLen) (hn' : n' ≤ maxLen) :
    Calls Try.prog 26 #[.slice A n c, .slice A' n' c'] w fun e w' => e = .returned (.bool (decide (zs = zs'))) ∧ Below w.heap.size w w' := by
  have hl : zs.length = n := by have := h.1; rwa [iv_length] at this
  have hl' : zs'.length = n' := by have := h'.1; rwa [iv_length] at this
  unfold maxLen at hn hn'
  by_cases hne : n = n'
  · subst hne
    have HN : Hid (n ≤ 9223372036854775807) := Lib.hid (by omega)
    have HL := Lib.hid hl
    have HL' := Lib.hid hl'
    have H := Lib.hid h
    have H' := Lib.hid h'
    clear h h' hl hl' hn hn'
    go_enter Try.func26, Try.ntmps26
    go_wp2
    go_loopw [5, 13] (fun _ i wr => ∃ k : Nat, k ≤ n ∧ i = .int .i64 k ∧ (∀ j, j < k → zs[j]? = zs'[j]?) ∧ ∃ m, wr = w.drewN m) (fun _ i _ => n - (intOf i).toNat)
    case atStart => exact ⟨0, Nat.zero_le _, rfl, fun j hj => absurd hj (by omega), 0, rfl⟩
    case round =>
      obtain ⟨k, hk, rfl, hs, m, hm⟩ := hrel
      have hkm : (k : Int) ≤ 9223372036854775806 ∨ k = n := by have := HN.out; omega
      by_cases hlt : k < n
      · obtain ⟨z, hz⟩ : ∃ z, zs[k]? = some z := ⟨_, List.getElem?_eq_getElem (by have := HL.out; omega)⟩
        obtain ⟨z', hz'⟩ : ∃ z, zs'[k]? = some z := ⟨_, List.getElem?_eq_getElem (by have := HL'.out; omega)⟩
        obtain ⟨b, o, rfl, _⟩ := H.out.int_at hlt
        obtain ⟨b', o', rfl, _⟩ := H'.out.int_at hlt
        have hc : wr.cell? ⟨b, o + k, none⟩ = some (.int .i64 z) := by rw [hm]; exact H.out.int_cell hlt hz
        have hc' : wr.cell? ⟨b', o' + k, none⟩ = some (.int .i64 z') := by rw [hm]; exact H'.out.int_cell hlt hz'
        have hv : IntKind.i64.wrap ((k : Int) + 1) = (k : Int) + 1 := IntWalk.i64_in _ (by have := HN.out; omega)
        have HS := Lib.hid hs
        have HZ := Lib.hid hz
        have HZ' := Lib.hid hz'
        have HM := Lib.hid hm
        clear hs hz hz' hm hkm
        by_cases he : z = z'
        · subst he
          go_wp2
          go_quiet (fail)
          go_wp2
          go_roundw
          case rel =>
            refine ⟨k + 1, by omega, by go_num, fun j hj => ?_, m + nq, by rw [HM.out, World.drewN_drewN]⟩
            rcases Nat.lt_or_ge j k with h1 | h1
            · exact HS.out j h1
            · obtain rfl : j = k := by omega
              rw [HZ.out, HZ'.out]
          case measure => simp [intOf]; omega
        · have he' : (z == z') = false := by simpa using he
          have he2 : (z != z') = true := by simpa using he
          have HE := Lib.hid (show decide (zs = zs') = false by
            rw [decide_eq_false_iff_not]
            rintro rfl
            have h1 := HZ.out
            rw [HZ'.out] at h1
            injection h1 with h1
            exact he h1.symm)
          clear he
          go_wp2
          go_quiet (fail)
          go_wp2
          go_ret
          exact ⟨ret_bool HE.out.symm, by rw [HM.out, World.drewN_drewN]; exact belowN_d _⟩
      · have hkn : k = n := by omega
        have HE := Lib.hid (show decide (zs = zs') = true by
          rw [decide_eq_true_iff]
          apply List.ext_getElem?
          intro j
          rcases Nat.lt_or_ge j n with h1 | h1
          · exact hs j (by omega)
          · rw [List.getElem?_eq_none (by have := HL.out; omega), List.getElem?_eq_none (by have := HL'.out; omega)])
        have HM := Lib.hid hm
        clear hs hkn hm hkm
        go_wp2
        go_ret
        exact ⟨ret_bool HE.out.symm, by rw [HM.out]; exact belowN_d m⟩
  · have HE := Lib.hid (show decide (zs = zs') = false by
      rw [decide_eq_false_iff_not]; rintro rfl; omega)
    have hd : ((n : Int) == (n' : Int)) = false := by simp; omega
    have hd2 : ((n : Int) != (n' : Int)) = true := by simp; omega
    clear h h' hl hl' hn hn' hne
    go_enter Try.func26, Try.ntmps26
    go_wp2
    go_ret
    exact ⟨ret_bool HE.out.symm, Below.refl _ _⟩
end Go.Proofs.Ytijcbbommaeejaa

namespace Go.Proofs.Ytijcbbommaeejaa
open Go.RowKit
set_option linter.unusedVariables false
theorem Cm.eq_iff (a b : Cm) : a = b ↔ a.kind = b.kind ∧ a.who = b.who ∧ a.key = b.key ∧ a.val = b.val ∧ a.old = b.old := by
  constructor
  · rintro rfl; exact ⟨rfl, rfl, rfl, rfl, rfl⟩
  · rintro ⟨h1, h2, h3, h4, h5⟩; cases a; cases b; simp at h1 h2 h3 h4 h5; subst h1 h2 h3 h4 h5; rfl
instance : DecidableEq Cm := fun a b => decidable_of_iff _ (Cm.eq_iff a b).symm
end Go.Proofs.Ytijcbbommaeejaa

namespace Go.Proofs.Ytijcbbommaeejaa
open Go.RowKit
set_option linter.unusedVariables false
set_option maxRecDepth 100000 in
theorem putBytesW {W w : World} {A A' : Option Addr} {n c n' c' : Nat} {l x : List Nat} (hl : l.length ≤ 100000000) (hx : x.length ≤ 10000000) (ho : OwnB W w A n c l) (hr : Rd W W.heap.size A' n' (bv x)) (hB : Below W.heap.size W w) :
    Calls Try.prog 70 #[.slice A n c, .slice A' n' c'] w (GotPut W w (l ++ Pk.encB x)) := by
  obtain rfl := own_len ho
  obtain rfl := hr.length
  have HO := Lib.hid ho
  have HB := Lib.hid hB
  have HX : Hid (∀ w, Below W.heap.size W w → Calls Try.prog 61 #[.slice none 0 0, .slice A' x.length c'] w fun e w' => ∃ A n c, e = .returned (.slice A n c) ∧ OwnB W w' A n c (Pk.encB x) ∧ Below W.heap.size W w' ∧ Below w.heap.size w w') :=
    Lib.hid (fun w hb => putb_in (W := W) (l := []) (B := 0) (n := 0) (B' := W.heap.size) (Rd.none_ _ _ _) (hr.below hb) (by unfold Lim; simp; omega) hb rfl)
  have hxl := encB_length x
  obtain ⟨y, hy⟩ : ∃ y, Pk.encB x = y := ⟨_, rfl⟩
  rw [hy] at HX hxl ⊢
  clear ho hB hy hr
  go_enter Try.func70, Try.ntmps70
  go_wp2_with (first
    | (go_at_call 61; refine (HX.out _ HB.out).mono ?_; rintro e w1 ⟨A1, n1, c1, rfl, ho1, hB1, hb1⟩; obtain rfl := own_len ho1)
    | (at_builtin
       refine wpList_append_cells (W := W) cellB (.tmp 5) (.tmp 7) rfl (by rfl) rfl (own_below HO.out hb1) rfl (Rd.own_ ho1) (bv_one _) (by omega) (by omega) hB1 ?_
       intro A3 c3 w3 hown3 hB3 hg3)
    | fail)
  go_ret
  rw [← bv_app] at hown3
  refine ⟨A3, c3, by rw [List.length_append]; rfl, by rw [List.length_append]; exact hown3, hB3, (OnlyB.of_below hb1).trans (OnlyB.grown (own_below HO.out hb1) hg3)⟩
set_option maxHeartbeats 4000000 in
set_option maxRecDepth 100000 in
theorem putEntryW_raw {w : World} {l : List Nat} {A : Option Addr} {n c B : Nat} {ca : CA} {e : En} {B' : Nat} (hl : l.length ≤ 10000) (hc : e.c.Wide) (h : Rd w B A n (bv l)) (h' : RdC w B' ca e.c) :
    Calls Try.prog 63 #[.slice A n c, entV ca e] w (GotIn w w (l ++ e.enc)) := by
  obtain rfl := h.length
  obtain ⟨wz, hwz⟩ : ∃ wz, w.alloc (.cells (entC ca e) 27) = wz := ⟨_, rfl⟩
  have hbz : Below w.heap.size w wz := by rw [← hwz]; exact (Below.refl _ _).alloc (Nat.le_refl _) _
  have hkz : Blk wz w.heap.size 27 (entC ca e) := by rw [← hwz]; exact Blk.new _ _ _
  have HR := Lib.hid ((h.fit.below hbz).fit)
  have HC := Lib.hid ((h'.fit.below hbz).fit)
  have HZ := Lib.hid hbz
  obtain ⟨g, hg⟩ : ∃ g, w.heap.size = g := ⟨_, rfl⟩
  rw [hg] at hkz
  have HF : Hid (∀ wx, Below wz.heap.size wz wx → Blk wx g 27 (entC ca e)) := Lib.hid (fun wx hb => hkz.below hb)
  have HW := Lib.hid hwz
  have HG := Lib.hid hg
  obtain ⟨zs, hzs⟩ : ∃ zs : List Int, [e.s, e.q, e.c.kind, e.c.who] = zs := ⟨_, rfl⟩
  obtain ⟨qs, hqs⟩ : ∃ qs : List (List Nat), [e.c.key, e.c.val, e.c.old] = qs := ⟨_, rfl⟩
  have hz4 : zs.length = 4 := by rw [← hzs]; rfl
  have hq3 : qs.length = 3 := by rw [← hqs]; rfl
  have hq100 : ∀ x ∈ qs, x.length ≤ 2000000 := by
    rw [← hqs]
    intro x hx
    simp only [List.mem_cons, List.not_mem_nil, or_false] at hx
    rcases hx with rfl | rfl | rfl
    · exact hc.key.1
    · exact hc.val.1
    · exact hc.old.1
  have hcells : Cells wz wz.heap.size [.slice ca.Ak e.c.key.length ca.ck, .slice ca.Av e.c.val.length ca.cv, .slice ca.Ao e.c.old.length ca.co] qs := by
    rw [← hqs]
    refine ⟨rfl, fun i x hx => ?_⟩
    match i, hx with
    | 0, hx => simp at hx; subst hx; exact ⟨_, _, rfl, HC.out.rk⟩
    | 1, hx => simp at hx; subst hx; exact ⟨_, _, rfl, HC.out.rv⟩
    | 2, hx => simp at hx; subst hx; exact ⟨_, _, rfl, HC.out.ro⟩
    | i + 3, hx => simp at hx
  have hivz : iv zs = [.int .i64 e.s, .int .i64 e.q, .int .i64 e.c.kind, .int .i64 e.c.who] := by rw [← hzs]; rfl
  have hEND : l ++ e.enc = (l ++ Pk.encs zs) ++ encQ qs := by
    rw [← hzs, ← hqs]; unfold En.enc encQ; simp [Pk.encs, List.append_assoc]
  have hqb : ∀ k, (encQ (qs.take k)).length ≤ 7000000 := by
    have hgen : ∀ ys : List (List Nat), (∀ x ∈ ys, x.length ≤ 2000000) → (encQ ys).length ≤ 2000009 * ys.length := by
      intro ys
      induction ys with
      | nil => intro _; simp [encQ]
      | cons y ys ih =>
        intro hy
        have h1 := ih fun z hz => hy z (List.mem_cons_of_mem _ hz)
        have h2 := hy y (by simp)
        have h3 := encB_length y
        unfold encQ at h1 ⊢
        rw [List.flatMap_cons, List.length_append, List.length_cons]; omega
    intro k
    have h1 := hgen (qs.take k) (fun x hx => hq100 x (List.mem_of_mem_take hx))
    have h2 : (qs.take k).length ≤ 3 := by rw [List.length_take]; omega
    omega
  rw [hEND]
  have HQ := Lib.hid hq100
  have HQB := Lib.hid hqb
  have HCL := Lib.hid hcells
  have HIV := Lib.hid hivz
  clear hzs hqs hq100 hcells hEND hqb hivz h h' hbz hkz hwz hg
  unfold entV entC
  unfold entC at HW HF
  go_enter Try.func63, Try.ntmps63
  go_upto_region 1 with fail
  rw [HG.out, HW.out]
  go_upto_region 2 with (first
    | (go_at_call 68; refine (clone_any (W := wz) (by unfold Lim; omega) HR.out (Below.refl _ _)).mono ?_; rintro en w1 ⟨A1, c1, rfl, ho1, hB1, hb1⟩; obtain ⟨x0, x1, x2, x3, x4, x5, x6⟩ := seven (HF.out w1 hB1))
    | fail)
  go_wp2_with fail
  have bb : Below w1.heap.size w1 (w1.alloc (.cells #[.int .i64 e.s, .int .i64 e.q, .int .i64 e.c.kind, .int .i64 e.c.who] 3)) := (Below.refl _ _).alloc (Nat.le_refl _) _
  have hrow : RdT (w1.alloc (.cells #[.int .i64 e.s, .int .i64 e.q, .int .i64 e.c.kind, .int .i64 e.c.who] 3)) 3 (some ⟨w1.heap.size, 0, none⟩) 4 (iv zs) :=
    ⟨by rw [iv_length, hz4], fun _ => ⟨_, 0, _, rfl, Blk.new _ _ _, fun i hi => by rw [HIV.out]; simp⟩⟩
  have HO1 := Lib.hid (own_below ho1 bb)
  have HB1 := Lib.hid (hB1.trans (bb.mono hB1.size))
  obtain ⟨P, hP⟩ : ∃ P : Option Addr, some ⟨w1.heap.size, 0, none⟩ = P := ⟨_, rfl⟩
  rw [hP] at hrow
  rw [hP]
  have HROW := Lib.hid hrow
  clear hP hrow ho1 hB1 hb1 x0 x1 x2 x3 x4 x5 x6
  generalize w1.alloc (.cells #[.int .i64 e.s, .int .i64 e.q, .int .i64 e.c.kind, .int .i64 e.c.who] 3) = wb at HO1 HB1 HROW bb ⊢
  clear bb
  go_loopw [5, 7, 24] (fun s5 s7 s24 wr => ∃ (k : Nat) (A2 : Option Addr) (c2 : Nat) (L : List Nat), k ≤ 4 ∧ s24 = .int .i64 (k : Int) ∧ s5 = .slice A2 L.length c2 ∧ Hid (L = l ++ Pk.encs (zs.take k)) ∧ Hid (OwnB wz wr A2 L.length c2 L) ∧ Hid (Below wz.heap.size wz wr) ∧ Hid (RdT wr 3 P 4 (iv zs))) (fun _ _ s24 _ => 4 - (intOf s24).toNat)
  case atStart => exact ⟨0, A1, c1, l, Nat.zero_le _, rfl, rfl, Lib.hid (by simp [Pk.encs]), HO1, HB1, HROW⟩
  case round =>
    obtain ⟨k, A2, c2, L, hk, rfl, rfl, HL, HO, HB, HT⟩ := hrel
    by_cases hlt : k < 4
    · obtain ⟨z, hz⟩ : ∃ z, zs[k]? = some z := ⟨_, List.getElem?_eq_getElem (by omega)⟩
      obtain ⟨b, o, rfl, y0⟩ := HT.out.at_ hlt (iv_at hz)
      have hLL : L.length ≤ 1000000 := by
        have h1 := Pk.encs_length (zs.take k)
        have h2 : (zs.take k).length ≤ 4 := by rw [List.length_take]; omega
        rw [HL.out, List.length_append]; omega
      have HP := Lib.hid hz
      have HCN := Lib.hid (putNum_any (W := wz) z hLL HO.out HB.out)
      obtain ⟨L', eL⟩ : ∃ y, L ++ Pk.enc (Pk.held z) = y := ⟨_, rfl⟩
      rw [eL] at HCN
      have HEL := Lib.hid eL
      clear eL hz
      go_wp2_with (first
        | (go_at_call 69; refine HCN.out.mono ?_; rintro en w4 ⟨A5, c5, rfl, ho5, hB5, hb5⟩)
        | fail)
      go_roundw
      case rel =>
        refine ⟨k + 1, A5, c5, L', by omega, by go_num, rfl, Lib.hid ?_, Lib.hid ho5, Lib.hid hB5, Lib.hid (HT.out.onlyB hb5 (by decide))⟩
        rw [← HEL.out, HL.out, take_snoc HP.out, Pk.encs_snoc]
        simp only [List.append_assoc]
      case measure => simp only [intOf]; omega
    · have hL4 : L = l ++ Pk.encs zs := by rw [HL.out, List.take_of_length_le (by omega)]
      obtain ⟨l0, e0⟩ : ∃ x, l ++ Pk.encs zs = x := ⟨_, rfl⟩
      have hl0 : l0.length ≤ 20000 := by
        have h1 := Pk.encs_length zs
        rw [← e0, List.length_append]; omega
      rw [e0] at hL4
      have HE0 := Lib.hid e0
      clear HL
      subst L
      have HLL := Lib.hid hl0
      obtain ⟨x0, x1, x2, x3, x4, x5, x6⟩ := seven (HF.out wr HB.out)
      clear e0 hl0
      go_wp2_with fail
      have bb : Below wr.heap.size wr (wr.alloc (.cells #[.slice ca.Ak e.c.key.length ca.ck, .slice ca.Av e.c.val.length ca.cv, .slice ca.Ao e.c.old.length ca.co] 23)) := (Below.refl _ _).alloc (Nat.le_refl _) _
      have hrow : RdT (wr.alloc (.cells #[.slice ca.Ak e.c.key.length ca.ck, .slice ca.Av e.c.val.length ca.cv, .slice ca.Ao e.c.old.length ca.co] 23)) 23 (some ⟨wr.heap.size, 0, none⟩) 3 [.slice ca.Ak e.c.key.length ca.ck, .slice ca.Av e.c.val.length ca.cv, .slice ca.Ao e.c.old.length ca.co] :=
        ⟨rfl, fun _ => ⟨_, 0, _, rfl, Blk.new _ _ _, fun i hi => by simp⟩⟩
      have HO1 := Lib.hid (own_below HO.out bb)
      have HB1 := Lib.hid (HB.out.trans (bb.mono HB.out.size))
      obtain ⟨P2, hP⟩ : ∃ P2 : Option Addr, some ⟨wr.heap.size, 0, none⟩ = P2 := ⟨_, rfl⟩
      rw [hP] at hrow
      rw [hP]
      have HROW2 := Lib.hid hrow
      clear hP hrow x0 x1 x2 x3 x4 x5 x6
      generalize wr.alloc (.cells #[.slice ca.Ak e.c.key.length ca.ck, .slice ca.Av e.c.val.length ca.cv, .slice ca.Ao e.c.old.length ca.co] 23) = wc at HO1 HB1 HROW2 bb ⊢
      clear bb
      go_loopw [5, 9, 43] (fun s5 s9 s43 wr => ∃ (k : Nat) (A2 : Option Addr) (c2 : Nat) (L : List Nat), k ≤ 3 ∧ s43 = .int .i64 (k : Int) ∧ s5 = .slice A2 L.length c2 ∧ Hid (L = l0 ++ encQ (qs.take k)) ∧ Hid (OwnB wz wr A2 L.length c2 L) ∧ Hid (Below wz.heap.size wz wr) ∧ Hid (RdT wr 23 P2 3 [.slice ca.Ak e.c.key.length ca.ck, .slice ca.Av e.c.val.length ca.cv, .slice ca.Ao e.c.old.length ca.co])) (fun _ _ s43 _ => 3 - (intOf s43).toNat)
      case atStart => exact ⟨0, A2, c2, l0, Nat.zero_le _, rfl, rfl, Lib.hid (by simp [encQ]), HO1, HB1, HROW2⟩
      case round =>
        clear HO1 HB1 HROW2 HO HB HT
        obtain ⟨k, A2, c2, L, hk, rfl, rfl, HL, HO, HB, HT⟩ := hrel
        by_cases hlt : k < 3
        · obtain ⟨x, hx⟩ : ∃ x, qs[k]? = some x := ⟨_, List.getElem?_eq_getElem (by omega)⟩
          obtain ⟨A3, c3, hv, hrd⟩ := HCL.out.cell k x hx
          obtain ⟨b, o, rfl, y0⟩ := HT.out.at_ hlt hv
          have hLL : L.length ≤ 100000000 := by
            have h1 := HQB.out k
            have h2 := HLL.out
            rw [HL.out, List.length_append]; omega
          have HP := Lib.hid hx
          have HCN := Lib.hid (putBytesW (W := wz) (c' := c3) hLL (Nat.le_trans (HQ.out x (List.mem_of_getElem? hx)) (by omega)) HO.out hrd HB.out)
          obtain ⟨L', eL⟩ : ∃ y, L ++ Pk.encB x = y := ⟨_, rfl⟩
          rw [eL] at HCN
          have HEL := Lib.hid eL
          clear eL hx hv hrd
          go_wp2_with (first
            | (go_at_call 70; refine HCN.out.mono ?_; rintro en w4 ⟨A5, c5, rfl, ho5, hB5, hb5⟩)
            | fail)
          go_roundw
          case rel =>
            refine ⟨k + 1, A5, c5, L', by omega, by go_num, rfl, Lib.hid ?_, Lib.hid ho5, Lib.hid hB5, Lib.hid (HT.out.onlyB hb5 (by decide))⟩
            rw [← HEL.out, HL.out, take_snoc HP.out, encQ_snoc]
            simp only [List.append_assoc]
          case measure => simp only [intOf]; omega
        · obtain rfl : k = 3 := by omega
          go_wp2_with fail
          go_ret
          have hL3 : L = l0 ++ encQ qs := by rw [HL.out, List.take_of_length_le (by omega)]
          have hb := HZ.out.trans (HB.out.mono HZ.out.size)
          rw [HE0.out, ← hL3]
          exact ⟨A2, c2, rfl, own_of HZ.out.size HO.out, hb, hb⟩
theorem putEntryW {W w : World} {l : List Nat} {A : Option Addr} {n c B : Nat} {ca : CA} {e : En} {B' : Nat} (hl : l.length ≤ 10000) (hc : e.c.Wide) (h : Rd w B A n (bv l)) (h' : RdC w B' ca e.c) (hB : Below W.heap.size W w) :
    Calls Try.prog 63 #[.slice A n c, entV ca e] w (GotIn W w (l ++ e.enc)) :=
  (putEntryW_raw hl hc h h').mono fun en w' ⟨A', c', h1, h2, h3, h4⟩ => ⟨A', c', h1, own_of hB.size h2, hB.trans (h3.mono hB.size), h4⟩
set_option maxHeartbeats 2000000 in
set_option maxRecDepth 100000 in
theorem sameCmdW (w : World) {a a' : CA} {e e' : Cm} {B B' : Nat} (hc : e.Wide) (hc' : e'.Wide) (h : RdC w B a e) (h' : RdC w B' a' e') :
    Calls Try.prog 40 #[cmdV a e, cmdV a' e'] w fun en w' => en = .returned (.bool (decide (e = e'))) ∧ Below w.heap.size w w' := by
  have b0 : Below w.heap.size w ((w.alloc (.cells #[.int .i64 e.kind, .int .i64 e.who, .slice a.Ak e.key.length a.ck, .slice a.Av e.val.length a.cv, .slice a.Ao e.old.length a.co] 25)).alloc (.cells #[.int .i64 e'.kind, .int .i64 e'.who, .slice a'.Ak e'.key.length a'.ck, .slice a'.Av e'.val.length a'.cv, .slice a'.Ao e'.old.length a'.co] 25)) := ((Below.refl _ _).alloc (Nat.le_refl _) _).alloc (by simp) _
  have HB := Lib.hid b0
  have HK := Lib.hid ((Blk.new w 25 #[.int .i64 e.kind, .int .i64 e.who, .slice a.Ak e.key.length a.ck, .slice a.Av e.val.length a.cv, .slice a.Ao e.old.length a.co]).alloc (.cells #[.int .i64 e'.kind, .int .i64 e'.who, .slice a'.Ak e'.key.length a'.ck, .slice a'.Av e'.val.length a'.cv, .slice a'.Ao e'.old.length a'.co] 25))
  have HK' := Lib.hid (Blk.new (w.alloc (.cells #[.int .i64 e.kind, .int .i64 e.who, .slice a.Ak e.key.length a.ck, .slice a.Av e.val.length a.cv, .slice a.Ao e.old.length a.co] 25)) 25 #[.int .i64 e'.kind, .int .i64 e'.who, .slice a'.Ak e'.key.length a'.ck, .slice a'.Av e'.val.length a'.cv, .slice a'.Ao e'.old.length a'.co])
  rw [World.size_alloc] at HK'
  have r := h.fit.below b0
  have r' := h'.fit.below b0
  have l1 := hc.key.1
  have l2 := hc.val.1
  have l3 := hc.old.1
  have m1 := hc'.key.1
  have m2 := hc'.val.1
  have m3 := hc'.old.1
  have E3 := Lib.hid (equal_any _ _ _ _ a.ck _ a'.ck _ _ _ _ (hc.key.2) (hc'.key.2) r.rk r'.rk)
  have E4 := Lib.hid (equal_any _ _ _ _ a.cv _ a'.cv _ _ _ _ (hc.val.2) (hc'.val.2) r.rv r'.rv)
  have E5 := Lib.hid (equal_any _ _ _ _ a.co _ a'.co _ _ _ _ (hc.old.2) (hc'.old.2) r.ro r'.ro)
  clear r r' l1 l2 l3 m1 m2 m3
  obtain ⟨D1, d1⟩ : ∃ D : Bool, decide (e.kind = e'.kind) = D := ⟨_, rfl⟩
  obtain ⟨D2, d2⟩ : ∃ D : Bool, decide (e.who = e'.who) = D := ⟨_, rfl⟩
  obtain ⟨D3, d3⟩ : ∃ D : Bool, decide (e.key = e'.key) = D := ⟨_, rfl⟩
  obtain ⟨D4, d4⟩ : ∃ D : Bool, decide (e.val = e'.val) = D := ⟨_, rfl⟩
  obtain ⟨D5, d5⟩ : ∃ D : Bool, decide (e.old = e'.old) = D := ⟨_, rfl⟩
  have HD : Hid (decide (e = e') = (D1 && (D2 && (D3 && (D4 && D5))))) := Lib.hid (by
    rw [← d1, ← d2, ← d3, ← d4, ← d5, Bool.eq_iff_iff]
    simp only [decide_eq_true_eq, Bool.and_eq_true, Cm.eq_iff])
  have r1 : (e.kind == e'.kind) = D1 := by rw [← d1, Bool.eq_iff_iff]; simp
  have r2 : (e.who == e'.who) = D2 := by rw [← d2, Bool.eq_iff_iff]; simp
  rw [HD.out]
  rw [d3] at E3
  rw [d4] at E4
  rw [d5] at E5
  clear d1 d2 d3 d4 d5 HD h h' b0 hc hc'
  unfold cmdV cmdC
  cases D1 with
  | false =>
    go_enter Try.func40, Try.ntmps40
    go_upto_region 1 with fail
    generalize (w.alloc (.cells #[.int .i64 e.kind, .int .i64 e.who, .slice a.Ak e.key.length a.ck, .slice a.Av e.val.length a.cv, .slice a.Ao e.old.length a.co] 25)).alloc (.cells #[.int .i64 e'.kind, .int .i64 e'.who, .slice a'.Ak e'.key.length a'.ck, .slice a'.Av e'.val.length a'.cv, .slice a'.Ao e'.old.length a'.co] 25) = wa at HB HK HK' E3 E4 E5 ⊢
    obtain ⟨x0, x1, x2, x3, x4⟩ := five HK.out
    obtain ⟨y0, y1, y2, y3, y4⟩ := five HK'.out
    go_wp2_with (first
      | (go_at_call 25; refine E3.out.mono ?_; rintro en w1 ⟨rfl, rfl⟩; clear E3)
      | (go_at_call 25; refine E4.out.mono ?_; rintro en w1 ⟨rfl, rfl⟩; clear E4)
      | (go_at_call 25; refine E5.out.mono ?_; rintro en w1 ⟨rfl, rfl⟩; clear E5)
      | fail)
    go_ret
    exact ⟨rfl, HB.out⟩
  | true =>
  cases D2 with
  | false =>
    go_enter Try.func40, Try.ntmps40
    go_upto_region 1 with fail
    generalize (w.alloc (.cells #[.int .i64 e.kind, .int .i64 e.who, .slice a.Ak e.key.length a.ck, .slice a.Av e.val.length a.cv, .slice a.Ao e.old.length a.co] 25)).alloc (.cells #[.int .i64 e'.kind, .int .i64 e'.who, .slice a'.Ak e'.key.length a'.ck, .slice a'.Av e'.val.length a'.cv, .slice a'.Ao e'.old.length a'.co] 25) = wa at HB HK HK' E3 E4 E5 ⊢
    obtain ⟨x0, x1, x2, x3, x4⟩ := five HK.out
    obtain ⟨y0, y1, y2, y3, y4⟩ := five HK'.out
    go_wp2_with (first
      | (go_at_call 25; refine E3.out.mono ?_; rintro en w1 ⟨rfl, rfl⟩; clear E3)
      | (go_at_call 25; refine E4.out.mono ?_; rintro en w1 ⟨rfl, rfl⟩; clear E4)
      | (go_at_call 25; refine E5.out.mono ?_; rintro en w1 ⟨rfl, rfl⟩; clear E5)
      | fail)
    go_ret
    exact ⟨rfl, HB.out⟩
  | true =>
  cases D3 with
  | false =>
    go_enter Try.func40, Try.ntmps40
    go_upto_region 1 with fail
    generalize (w.alloc (.cells #[.int .i64 e.kind, .int .i64 e.who, .slice a.Ak e.key.length a.ck, .slice a.Av e.val.length a.cv, .slice a.Ao e.old.length a.co] 25)).alloc (.cells #[.int .i64 e'.kind, .int .i64 e'.who, .slice a'.Ak e'.key.length a'.ck, .slice a'.Av e'.val.length a'.cv, .slice a'.Ao e'.old.length a'.co] 25) = wa at HB HK HK' E3 E4 E5 ⊢
    obtain ⟨x0, x1, x2, x3, x4⟩ := five HK.out
    obtain ⟨y0, y1, y2, y3, y4⟩ := five HK'.out
    go_wp2_with (first
      | (go_at_call 25; refine E3.out.mono ?_; rintro en w1 ⟨rfl, rfl⟩; clear E3)
      | (go_at_call 25; refine E4.out.mono ?_; rintro en w1 ⟨rfl, rfl⟩; clear E4)
      | (go_at_call 25; refine E5.out.mono ?_; rintro en w1 ⟨rfl, rfl⟩; clear E5)
      | fail)
    go_ret
    exact ⟨rfl, HB.out⟩
  | true =>
  cases D4 with
  | false =>
    go_enter Try.func40, Try.ntmps40
    go_upto_region 1 with fail
    generalize (w.alloc (.cells #[.int .i64 e.kind, .int .i64 e.who, .slice a.Ak e.key.length a.ck, .slice a.Av e.val.length a.cv, .slice a.Ao e.old.length a.co] 25)).alloc (.cells #[.int .i64 e'.kind, .int .i64 e'.who, .slice a'.Ak e'.key.length a'.ck, .slice a'.Av e'.val.length a'.cv, .slice a'.Ao e'.old.length a'.co] 25) = wa at HB HK HK' E3 E4 E5 ⊢
    obtain ⟨x0, x1, x2, x3, x4⟩ := five HK.out
    obtain ⟨y0, y1, y2, y3, y4⟩ := five HK'.out
    go_wp2_with (first
      | (go_at_call 25; refine E3.out.mono ?_; rintro en w1 ⟨rfl, rfl⟩; clear E3)
      | (go_at_call 25; refine E4.out.mono ?_; rintro en w1 ⟨rfl, rfl⟩; clear E4)
      | (go_at_call 25; refine E5.out.mono ?_; rintro en w1 ⟨rfl, rfl⟩; clear E5)
      | fail)
    go_ret
    exact ⟨rfl, HB.out⟩
  | true =>
  cases D5 with
  | false =>
    go_enter Try.func40, Try.ntmps40
    go_upto_region 1 with fail
    generalize (w.alloc (.cells #[.int .i64 e.kind, .int .i64 e.who, .slice a.Ak e.key.length a.ck, .slice a.Av e.val.length a.cv, .slice a.Ao e.old.length a.co] 25)).alloc (.cells #[.int .i64 e'.kind, .int .i64 e'.who, .slice a'.Ak e'.key.length a'.ck, .slice a'.Av e'.val.length a'.cv, .slice a'.Ao e'.old.length a'.co] 25) = wa at HB HK HK' E3 E4 E5 ⊢
    obtain ⟨x0, x1, x2, x3, x4⟩ := five HK.out
    obtain ⟨y0, y1, y2, y3, y4⟩ := five HK'.out
    go_wp2_with (first
      | (go_at_call 25; refine E3.out.mono ?_; rintro en w1 ⟨rfl, rfl⟩; clear E3)
      | (go_at_call 25; refine E4.out.mono ?_; rintro en w1 ⟨rfl, rfl⟩; clear E4)
      | (go_at_call 25; refine E5.out.mono ?_; rintro en w1 ⟨rfl, rfl⟩; clear E5)
      | fail)
    go_ret
    exact ⟨rfl, HB.out⟩
  | true =>
    go_enter Try.func40, Try.ntmps40
    go_upto_region 1 with fail
    generalize (w.alloc (.cells #[.int .i64 e.kind, .int .i64 e.who, .slice a.Ak e.key.length a.ck, .slice a.Av e.val.length a.cv, .slice a.Ao e.old.length a.co] 25)).alloc (.cells #[.int .i64 e'.kind, .int .i64 e'.who, .slice a'.Ak e'.key.length a'.ck, .slice a'.Av e'.val.length a'.cv, .slice a'.Ao e'.old.length a'.co] 25) = wa at HB HK HK' E3 E4 E5 ⊢
    obtain ⟨x0, x1, x2, x3, x4⟩ := five HK.out
    obtain ⟨y0, y1, y2, y3, y4⟩ := five HK'.out
    go_wp2_with (first
      | (go_at_call 25; refine E3.out.mono ?_; rintro en w1 ⟨rfl, rfl⟩; clear E3)
      | (go_at_call 25; refine E4.out.mono ?_; rintro en w1 ⟨rfl, rfl⟩; clear E4)
      | (go_at_call 25; refine E5.out.mono ?_; rintro en w1 ⟨rfl, rfl⟩; clear E5)
      | fail)
    go_ret
    exact ⟨rfl, HB.out⟩
set_option maxHeartbeats 2000000 in
set_option maxRecDepth 100000 in
theorem sameEW (w : World) {a a' : CA} {e e' : En} {B B' : Nat} (hc : e.c.Wide) (hc' : e'.c.Wide) (h : RdC w B a e.c) (h' : RdC w B' a' e'.c) :
    Calls Try.prog 27 #[entV a e, entV a' e'] w fun en w' => en = .returned (.bool (decide (e = e'))) ∧ Below w.heap.size w w' := by
  have b0 : Below w.heap.size w ((w.alloc (.cells #[.int .i64 e.s, .int .i64 e.q, .int .i64 e.c.kind, .int .i64 e.c.who, .slice a.Ak e.c.key.length a.ck, .slice a.Av e.c.val.length a.cv, .slice a.Ao e.c.old.length a.co] 27)).alloc (.cells #[.int .i64 e'.s, .int .i64 e'.q, .int .i64 e'.c.kind, .int .i64 e'.c.who, .slice a'.Ak e'.c.key.length a'.ck, .slice a'.Av e'.c.val.length a'.cv, .slice a'.Ao e'.c.old.length a'.co] 27)) := ((Below.refl _ _).alloc (Nat.le_refl _) _).alloc (by simp) _
  have HB := Lib.hid b0
  have HK := Lib.hid ((Blk.new w 27 #[.int .i64 e.s, .int .i64 e.q, .int .i64 e.c.kind, .int .i64 e.c.who, .slice a.Ak e.c.key.length a.ck, .slice a.Av e.c.val.length a.cv, .slice a.Ao e.c.old.length a.co]).alloc (.cells #[.int .i64 e'.s, .int .i64 e'.q, .int .i64 e'.c.kind, .int .i64 e'.c.who, .slice a'.Ak e'.c.key.length a'.ck, .slice a'.Av e'.c.val.length a'.cv, .slice a'.Ao e'.c.old.length a'.co] 27))
  have HK' := Lib.hid (Blk.new (w.alloc (.cells #[.int .i64 e.s, .int .i64 e.q, .int .i64 e.c.kind, .int .i64 e.c.who, .slice a.Ak e.c.key.length a.ck, .slice a.Av e.c.val.length a.cv, .slice a.Ao e.c.old.length a.co] 27)) 27 #[.int .i64 e'.s, .int .i64 e'.q, .int .i64 e'.c.kind, .int .i64 e'.c.who, .slice a'.Ak e'.c.key.length a'.ck, .slice a'.Av e'.c.val.length a'.cv, .slice a'.Ao e'.c.old.length a'.co])
  rw [World.size_alloc] at HK'
  have HC := Lib.hid (sameCmdW _ hc hc' (h.fit.below b0) (h'.fit.below b0))
  obtain ⟨D1, d1⟩ : ∃ D : Bool, decide (e.s = e'.s) = D := ⟨_, rfl⟩
  obtain ⟨D2, d2⟩ : ∃ D : Bool, decide (e.q = e'.q) = D := ⟨_, rfl⟩
  obtain ⟨D3, d3⟩ : ∃ D : Bool, decide (e.c = e'.c) = D := ⟨_, rfl⟩
  have HD : Hid (decide (e = e') = (D1 && (D2 && D3))) := Lib.hid (by
    rw [← d1, ← d2, ← d3, Bool.eq_iff_iff]
    simp only [decide_eq_true_eq, Bool.and_eq_true, En.eq_iff, Cm.eq_iff])
  have r1 : (e.s == e'.s) = D1 := by rw [← d1, Bool.eq_iff_iff]; simp
  have r2 : (e.q == e'.q) = D2 := by rw [← d2, Bool.eq_iff_iff]; simp
  rw [HD.out]
  rw [d3] at HC
  clear d1 d2 d3 HD h h' b0 hc hc'
  unfold entV entC
  unfold cmdV cmdC at HC
  cases D1 with
  | false =>
    go_enter Try.func27, Try.ntmps27
    go_upto_region 1 with fail
    generalize (w.alloc (.cells #[.int .i64 e.s, .int .i64 e.q, .int .i64 e.c.kind, .int .i64 e.c.who, .slice a.Ak e.c.key.length a.ck, .slice a.Av e.c.val.length a.cv, .slice a.Ao e.c.old.length a.co] 27)).alloc (.cells #[.int .i64 e'.s, .int .i64 e'.q, .int .i64 e'.c.kind, .int .i64 e'.c.who, .slice a'.Ak e'.c.key.length a'.ck, .slice a'.Av e'.c.val.length a'.cv, .slice a'.Ao e'.c.old.length a'.co] 27) = wa at HB HK HK' HC ⊢
    obtain ⟨x0, x1, x2, x3, x4, x5, x6⟩ := seven HK.out
    obtain ⟨y0, y1, y2, y3, y4, y5, y6⟩ := seven HK'.out
    go_wp2_with (first
      | (go_at_call 40; refine HC.out.mono ?_; rintro en w1 ⟨rfl, hb1⟩)
      | fail)
    go_ret
    exact ⟨rfl, HB.out⟩
  | true =>
  cases D2 with
  | false =>
    go_enter Try.func27, Try.ntmps27
    go_upto_region 1 with fail
    generalize (w.alloc (.cells #[.int .i64 e.s, .int .i64 e.q, .int .i64 e.c.kind, .int .i64 e.c.who, .slice a.Ak e.c.key.length a.ck, .slice a.Av e.c.val.length a.cv, .slice a.Ao e.c.old.length a.co] 27)).alloc (.cells #[.int .i64 e'.s, .int .i64 e'.q, .int .i64 e'.c.kind, .int .i64 e'.c.who, .slice a'.Ak e'.c.key.length a'.ck, .slice a'.Av e'.c.val.length a'.cv, .slice a'.Ao e'.c.old.length a'.co] 27) = wa at HB HK HK' HC ⊢
    obtain ⟨x0, x1, x2, x3, x4, x5, x6⟩ := seven HK.out
    obtain ⟨y0, y1, y2, y3, y4, y5, y6⟩ := seven HK'.out
    go_wp2_with (first
      | (go_at_call 40; refine HC.out.mono ?_; rintro en w1 ⟨rfl, hb1⟩)
      | fail)
    go_ret
    exact ⟨rfl, HB.out⟩
  | true =>
    go_enter Try.func27, Try.ntmps27
    go_upto_region 1 with fail
    generalize (w.alloc (.cells #[.int .i64 e.s, .int .i64 e.q, .int .i64 e.c.kind, .int .i64 e.c.who, .slice a.Ak e.c.key.length a.ck, .slice a.Av e.c.val.length a.cv, .slice a.Ao e.c.old.length a.co] 27)).alloc (.cells #[.int .i64 e'.s, .int .i64 e'.q, .int .i64 e'.c.kind, .int .i64 e'.c.who, .slice a'.Ak e'.c.key.length a'.ck, .slice a'.Av e'.c.val.length a'.cv, .slice a'.Ao e'.c.old.length a'.co] 27) = wa at HB HK HK' HC ⊢
    obtain ⟨x0, x1, x2, x3, x4, x5, x6⟩ := seven HK.out
    obtain ⟨y0, y1, y2, y3, y4, y5, y6⟩ := seven HK'.out
    go_wp2_with (first
      | (go_at_call 40; refine HC.out.mono ?_; rintro en w1 ⟨rfl, hb1⟩)
      | fail)
    go_ret
    exact ⟨rfl, HB.out.trans (hb1.mono HB.out.size)⟩
end Go.Proofs.Ytijcbbommaeejaa

namespace Go.Proofs.Ytijcbbommaeejaa
open Go.RowKit
set_option linter.unusedVariables false
/-- a writer: what it laid, and whether it failed -/
def WrAt (W w : World) (b : Nat) (L : List Nat) (f : Bool) : Prop :=
  ∃ A c, Blk w b 46 #[.slice A L.length c, .bool f] ∧ OwnB W w A L.length c L ∧ Below W.heap.size W w ∧ W.heap.size ≤ b
theorem WrAt.below {W w w' : World} {b : Nat} {L : List Nat} {f : Bool} (h : WrAt W w b L f) (hb : Below w.heap.size w w') : WrAt W w' b L f := by
  obtain ⟨A, c, h1, h2, h3, h4⟩ := h
  exact ⟨A, c, h1.below hb, own_below h2 hb, h3.trans (hb.mono h3.size), h4⟩
theorem WrAt.lt {W w : World} {b : Nat} {L : List Nat} {f : Bool} (h : WrAt W w b L f) : b < w.heap.size := by
  obtain ⟨A, c, h1, h2⟩ := h
  exact h1.lt
/-- a block that is no bytes turns -/
theorem WrAt.set {W w : World} {b g i : Nat} {L : List Nat} {f : Bool} {t : TypeId} {cs : Array Value} {u : Value} (h : WrAt W w b L f) (hk : Blk w g t cs) (h1 : 5 ≠ t) (hne : b ≠ g) (hg : W.heap.size ≤ g) : WrAt W (w.setCell ⟨g, i, none⟩ u) b L f := by
  obtain ⟨A, c, k1, k2, k3, k4⟩ := h
  exact ⟨A, c, k1.set_other hne, own_set_t k2 hk h1, k3.setCell hg _, k4⟩
/-- what a method leaves -/
def WrP (W w : World) (b : Nat) (L : List Nat) (f ok : Bool) (X : List Nat) (d : Nat) (w' : World) : Prop :=
  ∃ L' f', WrAt W w' b L' f' ∧ Only b w w' ∧ f' = (f || !ok) ∧ (f' = false → L' = L ++ X) ∧ L'.length ≤ L.length + d
theorem WrP.no {W w : World} {b d : Nat} {L : List Nat} {f ok : Bool} {X : List Nat} (h : WrAt W w b L f) (hok : ok = false) : WrP W w b L f ok X d (w.setCell ⟨b, 1, none⟩ (.bool true)) := by
  obtain ⟨A, c, k1, k2, k3, k4⟩ := h
  refine ⟨L, true, ⟨A, c, k1.set_ 1 _, own_set_t k2 k1 (by decide), k3.setCell k4 _, k4⟩, only_set (only_refl b w) 1 _, by rw [hok]; simp, (fun h => absurd h (by decide)), by omega⟩
theorem WrP.yes {W w w1 : World} {b d : Nat} {L L' : List Nat} {f ok : Bool} {X : List Nat} {A' : Option Addr} {c' : Nat} (h : WrAt W w b L f) (hok : ok = true) (hX : L ++ X = L') (hl : X.length ≤ d) (ho : OwnB W w1 A' L'.length c' L') (hb : Below w.heap.size w w1) :
    WrP W w b L f ok X d (w1.setCell ⟨b, 0, none⟩ (.slice A' L'.length c')) := by
  have hbl := h.lt
  obtain ⟨A, c, k1, k2, k3, k4⟩ := h
  refine ⟨L', f, ⟨A', c', (k1.below hb).set_ 0 _, own_set_t ho (k1.below hb) (by decide), (k3.trans (hb.mono k3.size)).setCell k4 _, k4⟩, ?_, by rw [hok]; simp, fun h => hX.symm, by rw [← hX, List.length_append]; omega⟩
  exact only_set (only_below (only_refl b w) hb (Nat.le_refl _)) 0 _
theorem eI_length (z : Int) : (eI z).length ≤ 9 := (Pk.enc_length _).2
set_option maxRecDepth 100000 in
theorem wnum_any {W w : World} {b : Nat} {L : List Nat} {f : Bool} (h : WrAt W w b L f) (hl : L.length ≤ 1000000) (z most : Int) :
    Calls Try.prog 59 #[.pointer (some ⟨b, 0, none⟩), .int .i64 z, .int .i64 most] w fun e w' => e = .returned (.int .i64 (if wi most z then z else 0)) ∧ WrP W w b L f (wi most z) (eI z) 9 w' := by
  have HW := Lib.hid h
  obtain ⟨A, c, k1, k2, k3, k4⟩ := h
  have x0 : w.cell? ⟨b, 0, none⟩ = some (.slice A L.length c) := k1.cell 0
  have x1 : w.cell? ⟨b, 1, none⟩ = some (.bool f) := k1.cell 1
  have f0 := k1.frozen 0
  have f1 := k1.frozen 1
  have hk1 := Lib.hid k1
  by_cases h0 : z < 0
  · have hw : wi most z = false := by unfold wi; simp; omega
    rw [hw]
    clear k1 k2 k3 k4
    go_enter Try.func59, Try.ntmps59
    go_wp2_with fail
    go_ret
    exact ⟨rfl, WrP.no HW.out rfl⟩
  by_cases h1 : most < z
  · have hw : wi most z = false := by unfold wi; simp; omega
    rw [hw]
    clear k1 k2 k3 k4
    go_enter Try.func59, Try.ntmps59
    go_wp2_with fail
    go_ret
    exact ⟨rfl, WrP.no HW.out rfl⟩
  have hw : wi most z = true := wi_iff.2 ⟨by omega, by omega⟩
  rw [hw]
  obtain ⟨L', hL'⟩ : ∃ x, L ++ eI z = x := ⟨_, rfl⟩
  have HC := Lib.hid (put_in (W := W) (N := z) (c := c) (by unfold Lim; omega) (Rd.own_ k2) k3 hL')
  clear k1 k2 k3 k4
  go_enter Try.func59, Try.ntmps59
  go_wp2_with (first
    | (go_at_call 64; refine HC.out.mono ?_; rintro en w1 ⟨A1, n1, c1, rfl, ho, hB1, hb1⟩; obtain rfl := own_len ho; have f0 := (hk1.out.below hb1).frozen 0; have x0 : w1.cell? ⟨b, 0, none⟩ = some (.slice A L.length c) := (hk1.out.below hb1).cell 0)
    | fail)
  go_ret
  exact ⟨rfl, WrP.yes HW.out rfl hL' (eI_length z) ho hb1⟩
set_option maxRecDepth 100000 in
theorem wdata_any {W w : World} {b : Nat} {L : List Nat} {f : Bool} {A' : Option Addr} {c' B' : Nat} {x : List Nat} (h : WrAt W w b L f) (hl : L.length ≤ 1000000) (hr : Rd w B' A' x.length (bv x)) (most : Int) (hm : most ≤ 100) :
    Calls Try.prog 57 #[.pointer (some ⟨b, 0, none⟩), .slice A' x.length c', .int .i64 most] w fun e w' => (∃ A n c, e = .returned (.slice A n c)) ∧ WrP W w b L f (decide ((x.length : Int) ≤ most)) (Pk.encB x) 109 w' := by
  have HW := Lib.hid h
  obtain ⟨A, c, k1, k2, k3, k4⟩ := h
  have x0 : w.cell? ⟨b, 0, none⟩ = some (.slice A L.length c) := k1.cell 0
  have x1 : w.cell? ⟨b, 1, none⟩ = some (.bool f) := k1.cell 1
  have f0 := k1.frozen 0
  have f1 := k1.frozen 1
  have hk1 := Lib.hid k1
  by_cases h1 : most < (x.length : Int)
  · have hw : decide ((x.length : Int) ≤ most) = false := by simp; omega
    rw [hw]
    clear k1 k2 k3 k4
    go_enter Try.func57, Try.ntmps57
    go_wp2_with fail
    go_ret
    exact ⟨⟨_, _, _, rfl⟩, WrP.no HW.out rfl⟩
  have hw : decide ((x.length : Int) ≤ most) = true := by simp; omega
  rw [hw]
  obtain ⟨L', hL'⟩ : ∃ y, L ++ Pk.encB x = y := ⟨_, rfl⟩
  have HC := Lib.hid (putb_in (W := W) (c := c) (c' := c') (Rd.own_ k2) hr (by unfold Lim; omega) k3 hL')
  clear k1 k2 k3 k4
  go_enter Try.func57, Try.ntmps57
  go_wp2_with (first
    | (go_at_call 61; refine HC.out.mono ?_; rintro en w1 ⟨A1, n1, c1, rfl, ho, hB1, hb1⟩; obtain rfl := own_len ho; have f0 := (hk1.out.below hb1).frozen 0; have x0 : w1.cell? ⟨b, 0, none⟩ = some (.slice A L.length c) := (hk1.out.below hb1).cell 0)
    | fail)
  go_ret
  exact ⟨⟨_, _, _, rfl⟩, WrP.yes HW.out rfl hL' (by have := encB_length x; omega) ho hb1⟩
end Go.Proofs.Ytijcbbommaeejaa

namespace Go.Proofs.Ytijcbbommaeejaa
open Go.RowKit
set_option linter.unusedVariables false
theorem all_take_succ {l : List Int} {k : Nat} {z : Int} {p : Int → Bool} (h : l[k]? = some z) : (l.take (k + 1)).all p = ((l.take k).all p && p z) := by
  rw [take_snoc h, List.all_append]; simp
set_option maxHeartbeats 2000000 in
set_option maxRecDepth 100000 in
theorem wnums_any {W w : World} {b : Nat} {L : List Nat} {f : Bool} {A' : Option Addr} {c' : Nat} {l : List Int} (h : WrAt W w b L f) (hl : L.length ≤ 100000) (hr : Rd W W.heap.size A' l.length (iv l)) (hc : l.length ≤ c' ∧ c' ≤ maxLen) (most : Nat) (hm : most ≤ 8) :
    Calls Try.prog 60 #[.pointer (some ⟨b, 0, none⟩), .slice A' l.length c', .int .i64 (most : Int)] w fun e w' => (∃ A n c, e = .returned (.slice A n c)) ∧ WrP W w b L f (wis most l) (encN l.length ++ Pk.encs l) 100 w' := by
  have HC0 := Lib.hid (wnum_any h (by omega) (l.length : Int) (most : Int))
  by_cases h1 : most < l.length
  · have hw : wis most l = false := by unfold wis; simp; omega
    have hw2 : wi (most : Int) (l.length : Int) = false := by unfold wi; simp; omega
    rw [hw2] at HC0
    rw [hw]
    clear h hr hw hw2
    simp only [Bool.false_eq_true, if_false] at HC0
    go_enter Try.func60, Try.ntmps60
    go_wp2_with (first
      | (go_at_call 59; refine HC0.out.mono ?_; rintro en w1 ⟨rfl, hP⟩; have HP := Lib.hid hP; clear hP)
      | fail)
    go_loopw [8, 18] (fun s8 s18 wr => wr = w1 ∧ s18 = .int .i64 0) (fun _ _ _ => 0)
    case atStart => exact ⟨rfl, rfl⟩
    case round =>
      obtain ⟨rfl, rfl⟩ := hrel
      go_wp2_with fail
      go_ret
      obtain ⟨L', f', k1, k2, k3, k4, k5⟩ := HP.out
      refine ⟨⟨_, _, _, rfl⟩, L', f', k1, k2, k3, fun hf => ?_, by omega⟩
      rw [k3] at hf; simp at hf
  have hw2 : wi (most : Int) (l.length : Int) = true := wi_iff.2 ⟨by omega, by omega⟩
  rw [hw2] at HC0
  simp only [if_true] at HC0
  have hw : wis most l = l.all (wi 1099511627776) := by
    unfold wis; rw [show decide (l.length ≤ most) = true by simp; omega]; rfl
  rw [hw]
  have hn8 : l.length ≤ 8 := by omega
  obtain ⟨n, hn⟩ : ∃ n, l.length = n := ⟨_, rfl⟩
  rw [hn] at hr hc hn8 HC0 ⊢
  have HR := Lib.hid hr
  have HN := Lib.hid hn
  clear h hr hw hw2 h1 hn
  go_enter Try.func60, Try.ntmps60
  go_wp2_with (first
    | (go_at_call 59; refine HC0.out.mono ?_; rintro en w1 ⟨rfl, hP⟩; have HP := Lib.hid hP; clear hP)
    | fail)
  go_loopw [8, 18] (fun s8 s18 wr => ∃ (k : Nat) (L1 : List Nat) (f1 : Bool), k ≤ n ∧ s18 = .int .i64 (k : Int) ∧ Hid (WrAt W wr b L1 f1) ∧ Hid (Only b w wr) ∧ Hid (f1 = (f || !(l.take k).all (wi 1099511627776))) ∧ Hid (f1 = false → L1 = L ++ (encN n ++ Pk.encs (l.take k))) ∧ Hid (L1.length ≤ L.length + 9 * (k + 1))) (fun _ s18 _ => n - (intOf s18).toNat)
  case atStart =>
    obtain ⟨L1, f1, k1, k2, k3, k4, k5⟩ := HP.out
    exact ⟨0, L1, f1, Nat.zero_le _, rfl, Lib.hid k1, Lib.hid k2, Lib.hid (by rw [k3]; simp), Lib.hid (fun hf => by rw [k4 hf]; simp [Pk.encs]; rfl), Lib.hid (by omega)⟩
  case round =>
    obtain ⟨k, L1, f1, hk, rfl, HW, HO, HF, HX, HL⟩ := hrel
    by_cases hlt : k < n
    · obtain ⟨z, hz⟩ : ∃ z, l[k]? = some z := ⟨_, List.getElem?_eq_getElem (by have := HN.out; omega)⟩
      have hwb : Below W.heap.size W wr := by obtain ⟨_, _, _, _, q, _⟩ := HW.out; exact q
      have hrd := HR.out.below hwb
      obtain ⟨bq, o, rfl, _⟩ := hrd.int_at hlt
      have y0 := hrd.int_cell hlt hz
      have hL1 : L1.length ≤ 1000000 := by have := HL.out; omega
      have HCN := Lib.hid (wnum_any HW.out hL1 z 1099511627776)
      have HZ := Lib.hid hz
      clear hrd hwb hz
      go_wp2_with (first
        | (go_at_call 59; refine HCN.out.mono ?_; rintro en w4 ⟨rfl, hP4⟩; have HP4 := Lib.hid hP4; clear hP4)
        | fail)
      go_roundw
      case rel =>
        obtain ⟨L2, f2, k1, k2, k3, k4, k5⟩ := HP4.out
        refine ⟨k + 1, L2, f2, by omega, by go_num, Lib.hid k1, Lib.hid (only_trans HO.out k2), Lib.hid ?_, Lib.hid (fun hf => ?_), Lib.hid (by have := HL.out; omega)⟩
        · rw [k3, HF.out, all_take_succ HZ.out]
          cases f <;> cases (l.take k).all (wi 1099511627776) <;> cases wi 1099511627776 z <;> rfl
        · have hf1 : f1 = false := by rw [hf] at k3; cases f1 <;> simp at k3 ⊢
          rw [k4 hf, HX.out hf1, take_snoc HZ.out, Pk.encs_snoc]
          unfold eI
          simp only [List.append_assoc]
      case measure => simp only [intOf]; omega
    · obtain rfl : k = n := by omega
      go_wp2_with fail
      go_ret
      have hT : l.take k = l := List.take_of_length_le (by have := HN.out; omega)
      refine ⟨⟨_, _, _, rfl⟩, L1, f1, HW.out, HO.out, ?_, fun hf => ?_, by have := HL.out; omega⟩
      · rw [HF.out, hT]
      · rw [HX.out hf, hT]
end Go.Proofs.Ytijcbbommaeejaa

