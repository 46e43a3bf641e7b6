/- BlobKit BlobSameE -/
import Derived.Test.YtmekamgohonffaaBF27
import Derived.Test.YtmekamgohonffaaBF30
import Derived.Test.YtmekamgohonffaaBF31
import Derived.Test.YtmekamgohonffaaBF34
import Derived.Deep.MidRow
import Derived.Deep.RegionLaw
namespace Go.Proofs.Ytmekamgohonffaa
open Go.RowKit
set_option linter.unusedVariables false
/-- where a state lies -/
structure SA where
  m : MA
  Ar : Option Addr
  cr : Nat
def SA.zero : SA := ⟨⟨⟨none, 0, none, 0, none, 0, none, 0⟩, none, 0⟩, none, 0⟩
def stateC (a : SA) (s : Sb) : Array Value := #[.int .i64 s.pos, .slice a.m.o.A0 s.m.o.reg.length a.m.o.c0, .slice a.m.o.A1 s.m.o.q.length a.m.o.c1, .slice a.m.o.A2 s.m.o.lk.length a.m.o.c2, .slice a.m.o.A3 s.m.o.mp.length a.m.o.c3, .slice a.m.At s.m.t.length a.m.ct, .slice a.Ar s.rest.length a.cr]
def stateV (a : SA) (s : Sb) : Value := .agg (stateC a s)
/-- an own row of entries, with their rows -/
def OwnEs (W w : World) (A : Option Addr) (n c : Nat) (es : List En) : Prop := ∃ vs, w.ownsRow W.heap.size 26 7 (.slice A n c) n vs ∧ CellsE (fun a c => OwnC W w a c) vs es
section
variable {W w w' : World} {A : Option Addr} {n c B : Nat} {es : List En} {a : SA} {s : Sb}
theorem OwnC.belowB {ca : CA} {k : Cm} (h : OwnC W w ca k) (hb : Below w.heap.size w w') : OwnC W w' ca k := ⟨own_below h.k hb, own_below h.v hb, own_below h.o hb⟩
theorem OwnC.ofB {ca : CA} {k : Cm} (hs : W.heap.size ≤ w.heap.size) (h : OwnC w w' ca k) : OwnC W w' ca k := ⟨own_of hs h.k, own_of hs h.v, own_of hs h.o⟩
theorem OwnEs.below (h : OwnEs W w A n c es) (hb : Below w.heap.size w w') : OwnEs W w' A n c es := by
  obtain ⟨vs, h1, h2⟩ := h
  exact ⟨vs, ownsRow_below h1 hb, h2.imp fun _ _ h => h.belowB hb⟩
theorem OwnEs.of (hs : W.heap.size ≤ w.heap.size) (h : OwnEs w w' A n c es) : OwnEs W w' A n c es := by
  obtain ⟨vs, h1, h2⟩ := h
  exact ⟨vs, own_of hs h1, h2.imp fun _ _ h => h.ofB hs⟩
theorem OwnEs.rd (h : OwnEs W w A n c es) : RdE w w.heap.size A n es := by
  obtain ⟨vs, h1, h2⟩ := h
  exact ⟨vs, Rd.ownS h1 (by decide), h2.imp fun _ _ h => h.rd⟩
theorem OwnEs.nil (W w : World) : OwnEs W w none 0 0 [] := ⟨[], ⟨rfl, .inl ⟨rfl, rfl⟩⟩, CellsE.nil⟩
/-- a state that reads -/
structure RdS (w : World) (B : Nat) (a : SA) (s : Sb) : Prop where
  m : RdM w B a.m s.m
  r : RdE w B a.Ar s.rest.length s.rest
/-- a state of the call's own -/
structure OwnS (W w : World) (a : SA) (s : Sb) : Prop where
  m : OwnM W w a.m s.m
  r : OwnEs W w a.Ar s.rest.length a.cr s.rest
theorem RdS.below (h : RdS w B a s) (hb : Below B w w') : RdS w' B a s := ⟨h.m.below hb, h.r.below hb⟩
theorem RdS.fit (h : RdS w B a s) : RdS w w.heap.size a s := ⟨h.m.fit, h.r.fit⟩
theorem OwnS.below (h : OwnS W w a s) (hb : Below w.heap.size w w') : OwnS W w' a s := ⟨h.m.below hb, h.r.below hb⟩
theorem OwnS.of (hs : W.heap.size ≤ w.heap.size) (h : OwnS w w' a s) : OwnS W w' a s := ⟨h.m.of hs, h.r.of hs⟩
theorem OwnS.rd (h : OwnS W w a s) : RdS w w.heap.size a s := ⟨h.m.rd, h.r.rd⟩
theorem OwnS.zero (W w : World) : OwnS W w SA.zero Sb.zero := ⟨OwnM.zero _ _, OwnEs.nil _ _⟩
end
/-- a state, or none -/
def GotS (W w : World) (r : Option Sb) (en : Ending) (w' : World) : Prop :=
  ∃ a, en = .returned (.tuple #[stateV a (r.getD Sb.zero), .bool r.isSome]) ∧ OwnS W w' a (r.getD Sb.zero) ∧ Below W.heap.size W w' ∧ Below w.heap.size w w'
theorem GotS.of {W w w' : World} {r : Option Sb} {en : Ending} (hB : Below W.heap.size W w) (h : GotS w w r en w') : GotS W w r en w' := by
  obtain ⟨a, h1, h2, h3, h4⟩ := h
  exact ⟨a, h1, h2.of hB.size, hB.trans (h3.mono hB.size), h4⟩
theorem GotU.ofW {W w w' : World} {r : Option (List Nat)} {en : Ending} (hB : Below W.heap.size W w) (h : GotU w w r en w') : GotU W w r en w' := by
  obtain ⟨A, c, h1, h2, h3, h4⟩ := h
  exact ⟨A, c, h1, own_of hB.size h2, hB.trans (h3.mono hB.size), h4⟩
/-- a part of bytes, or none -/
def Sb.part (l : List Nat) (i : Int) : Option (List Nat) := if i < 0 ∨ (l.length : Int) ≤ i then none else some ((l.drop i.toNat).take 64)
/-- what a state's bytes may be made of -/
structure Sb.Fine (s : Sb) : Prop where
  m : s.m.Ok
  n : s.rest.length ≤ 1000
  c : ∀ e ∈ s.rest, e.c.Fits
def EncodeC15 : Prop := ∀ {W w : World} {a : SA} {s : Sb} {B : Nat} {l : List Nat}, s.enc = l → s.Fine → RdS w B a s → Below W.heap.size W w → Calls Try.prog 4 #[stateV a s] w (GotIn W w l)
def DecodeC15 : Prop := ∀ {W w : World} {A : Option Addr} {n c B : Nat} {l : List Nat} {r : Option Sb}, Sb.dec l = r → l.length ≤ 100000 → (∀ x ∈ l, x < 256) → n ≤ c ∧ c ≤ maxLen → Rd w B A n (bv l) → Below W.heap.size W w → Calls Try.prog 5 #[.slice A n c] w (GotS W w r)
def PartC15 : Prop := ∀ {W w : World} {A : Option Addr} {n c B : Nat} {l : List Nat} {i : Int} {r : Option (List Nat)}, Sb.part l i = r → -9223372036854775808 ≤ i ∧ i ≤ 9223372036854775807 → l.length ≤ 100000 → n ≤ c ∧ c ≤ maxLen → Rd w B A n (bv l) → Below W.heap.size W w → Calls Try.prog 21 #[.slice A n c, .int .i64 i] w (GotU W w r)
def AwakeC15 : Prop := ∀ (w : World), Calls Try.prog 7 #[] w fun e w' => e = .returned (.bool true) ∧ Below w.heap.size w w'
end Go.Proofs.Ytmekamgohonffaa

namespace Go.Proofs.Ytmekamgohonffaa
open Go.RowKit
set_option linter.unusedVariables false
/-- one entry of a row, as a range of cells -/
theorem RdE.range {w : World} {B n k : Nat} {A : Option Addr} {es : List En} (h : RdE w B A n es) (hk : k < n) : ∃ b o e a, A = some ⟨b, o, none⟩ ∧ b < B ∧ es[k]? = some e ∧ w.rangeAt b (o + k * 7) (entL a e) ∧ RdC w B a e.c := by
  have hlen := h.length
  obtain ⟨vs, h1, h2⟩ := h
  obtain ⟨b, o, e1, hb, hc⟩ := h1.2 (by omega)
  obtain ⟨e, he⟩ : ∃ e, es[k]? = some e := ⟨_, List.getElem?_eq_getElem (by omega)⟩
  obtain ⟨a, e2, r1⟩ := h2.cell k e he
  exact ⟨b, o, e, a, e1, hb, he, fun j v hv => by
    have hj := entL_lt hv
    rw [Nat.add_assoc, hc _ (by omega), e2 j v hv], r1⟩
theorem rangeB {w w' : World} {B b o : Nat} {cs : List Value} (h : w.rangeAt b o cs) (hb : Below B w w') (hlt : b < B) : w'.rangeAt b o cs := fun j v hv => (hb.cell (p := ⟨b, o + j, none⟩) hlt).trans (h j v hv)
set_option maxHeartbeats 2000000 in
set_option maxRecDepth 100000 in
theorem refSameEntries (w : World) {A A' : Option Addr} {n c n' c' B B' : Nat} {es es' : List En} (hf : ∀ e ∈ es, e.c.Fits) (hf' : ∀ e ∈ es', e.c.Fits) (h : RdE w B A n es) (h' : RdE w B' A' n' es') (hn : n ≤ 1000000) :
    Calls Try.prog 55 #[.slice A n c, .slice A' n' c'] w fun e w' => e = .returned (.bool (decide (es = es'))) ∧ Below w.heap.size w w' := by
  have hl := h.length
  have hl' := h'.length
  by_cases hne : n = n'
  · subst hne
    have HL := Lib.hid hl
    have HL' := Lib.hid hl'
    have H := Lib.hid h.fit
    have H' := Lib.hid h'.fit
    clear h h' hl hl'
    go_enter Try.func55, Try.ntmps55
    go_wp2_with fail
    go_loopw [5] (fun s5 wr => ∃ k : Nat, k ≤ n ∧ s5 = .int .i64 (k : Int) ∧ Hid (∀ j, j < k → es[j]? = es'[j]?) ∧ Hid (Below w.heap.size w wr)) (fun s _ => n - (intOf s).toNat)
    case atStart => exact ⟨0, Nat.zero_le _, rfl, Lib.hid (fun j hj => absurd hj (by omega)), Lib.hid (Below.refl _ _)⟩
    case round =>
      obtain ⟨k, hk, rfl, HS, HB⟩ := hrel
      by_cases hlt : k < n
      · obtain ⟨b, o, e, ca, rfl, hb, he, hr, hc⟩ := H.out.range hlt
        obtain ⟨b', o', e', ca', rfl, hb', he', hr', hc'⟩ := H'.out.range hlt
        have hfe := hf e (List.mem_of_getElem? he)
        have hfe' := hf' e' (List.mem_of_getElem? he')
        have HR := Lib.hid (rangeB hr HB.out hb)
        have HR' := Lib.hid (rangeB hr' HB.out hb')
        have HC := Lib.hid (hc.below HB.out).fit
        have HC' := Lib.hid (hc'.below HB.out).fit
        have hbl : b < wr.heap.size := Nat.lt_of_lt_of_le hb HB.out.size
        have hbl' : b' < wr.heap.size := Nat.lt_of_lt_of_le hb' HB.out.size
        have HE := Lib.hid he
        have HE' := Lib.hid he'
        clear hr hr' hc hc' he he' hb hb'
        go_upto_region 6 with fail
        go_cut [26] from 11 to 26 (fun s26 wx => s26 = .bool (!decide (e = e')) ∧ Hid (Below w.heap.size w wx))
        case first =>
          have hS0 : Below wr.heap.size wr wr.drew := (Below.refl _ _).drew
          refine wp_region_held_drew (S := fun w' => Below wr.heap.size wr w') (by kernel_rfl) hS0 (fun _ => ?_)
          have hS := Lib.hid hS0
          clear hS0
          generalize wr.drew = wd at hS ⊢
          refine wpAnyH_take (i := 0) (v := .slice (some ⟨b, o, none⟩) n c) rfl (by kernel_rfl) (by kernel_rfl) (by kernel_rfl) (fun _ _ _ h => h) (Or.inl ⟨by kernel_rfl, fun w _ => by go_simp⟩) hS.out ?_
          refine wpAnyH_take (i := 1) (v := .int .i64 (k : Int)) rfl (by kernel_rfl) (by kernel_rfl) (by kernel_rfl) (fun _ _ _ h => h) (Or.inl ⟨by kernel_rfl, fun w _ => by go_simp⟩) hS.out ?_
          refine wpAnyH_take (i := 2) (v := .pointer (some ⟨b, o + k * 7, none⟩)) rfl (by kernel_rfl) (by kernel_rfl) (by kernel_rfl) (fun _ _ _ h => h) (Or.inl ⟨by kernel_rfl, fun w _ => by go_simp⟩) hS.out ?_
          refine wpAnyH_take (i := 3) (v := entV ca e) rfl (by kernel_rfl) (by kernel_rfl) (by kernel_rfl) (fun _ _ _ h => h) (yieldsIf_load_mid (by kernel_rfl) 26 (.tmp 19) rfl b (o + k * 7) rfl (entL ca e) _ (fun w hw => rangeB HR.out hw hbl) Try.underlying26 rfl (by kernel_rfl)) hS.out ?_
          refine wpAnyH_take (i := 4) (v := .slice (some ⟨b', o', none⟩) n c') rfl (by kernel_rfl) (by kernel_rfl) (by kernel_rfl) (fun _ _ _ h => h) (Or.inl ⟨by kernel_rfl, fun w _ => by go_simp⟩) hS.out ?_
          refine wpAnyH_take (i := 5) (v := .int .i64 (k : Int)) rfl (by kernel_rfl) (by kernel_rfl) (by kernel_rfl) (fun _ _ _ h => h) (Or.inl ⟨by kernel_rfl, fun w _ => by go_simp⟩) hS.out ?_
          refine wpAnyH_take (i := 6) (v := .pointer (some ⟨b', o' + k * 7, none⟩)) rfl (by kernel_rfl) (by kernel_rfl) (by kernel_rfl) (fun _ _ _ h => h) (Or.inl ⟨by kernel_rfl, fun w _ => by go_simp⟩) hS.out ?_
          refine wpAnyH_take (i := 7) (v := entV ca' e') rfl (by kernel_rfl) (by kernel_rfl) (by kernel_rfl) (fun _ _ _ h => h) (yieldsIf_load_mid (by kernel_rfl) 26 (.tmp 23) rfl b' (o' + k * 7) rfl (entL ca' e') _ (fun w hw => rangeB HR'.out hw hbl') Try.underlying26 rfl (by kernel_rfl)) hS.out ?_
          refine wpAnyH_ready (rs := [8]) (by kernel_rfl) (by simp) ?_
          refine AllReadyH.cons rfl (fun K hK => ?_) AllReadyH.nil
          go_simp
          refine (refSameEntry_any _ hfe hfe' (HC.out.below hS.out) (HC'.out.below hS.out)).mono ?_
          rintro en w2 ⟨rfl, hb2⟩
          have hS := Lib.hid (hS.out.trans (hb2.mono hS.out.size))
          clear hb2
          go_simp
          refine hK.out _ _ hS.out (fun _ => ?_)
          clear hK K
          refine wpAnyH_take (i := 9) (v := .bool (!decide (e = e'))) rfl (by kernel_rfl) (by kernel_rfl) (by kernel_rfl) (fun _ _ _ h => h) (Or.inl ⟨by kernel_rfl, fun w _ => by go_simp⟩) hS.out ?_
          refine wpAnyH_done (by kernel_rfl) ?_ _
          have HB2 := Lib.hid (HB.out.trans (hS.out.mono HB.out.size))
          go_wp2_with fail
          go_meet
          exact ⟨rfl, HB2⟩
        case rest =>
          obtain ⟨rfl, HB⟩ := hcut
          rename World => wx
          by_cases hee : e = e'
          · have hd : (!decide (e = e')) = false := by simp [hee]
            rw [hd]
            have HEE := Lib.hid hee
            clear hd hee
            go_wp2_with fail
            go_roundw
            case rel =>
              refine ⟨k + 1, by omega, by go_num, Lib.hid (fun j hj => ?_), HB⟩
              rcases Nat.lt_or_ge j k with h1 | h1
              · exact HS.out j h1
              · obtain rfl : j = k := by omega
                rw [HE.out, HE'.out, HEE.out]
            case measure => simp [intOf]; omega
          · have hd : (!decide (e = e')) = true := by simp [hee]
            rw [hd]
            have HNE : Hid (decide (es = es') = false) := Lib.hid (decide_eq_false (fun h => hee (by
              have h1 := HE.out
              rw [h, HE'.out] at h1
              injection h1 with h1
              exact h1.symm)))
            clear hd hee
            go_wp2_with fail
            go_ret
            exact ⟨ret_bool HNE.out.symm, HB.out⟩
      · obtain rfl : k = n := by omega
        have HEQ : Hid (decide (es = es') = true) := Lib.hid (decide_eq_true (List.ext_getElem? (fun j => by
          rcases Nat.lt_or_ge j k with h1 | h1
          · exact HS.out j h1
          · rw [List.getElem?_eq_none (by have := HL.out; omega), List.getElem?_eq_none (by have := HL'.out; omega)])))
        go_wp2_with fail
        go_ret
        exact ⟨ret_bool HEQ.out.symm, HB.out⟩
  · have hd : decide (es = es') = false := decide_eq_false (fun h => hne (by rw [← hl, ← hl', h]))
    rw [hd]
    clear hd hl hl'
    go_enter Try.func55, Try.ntmps55
    go_wp2_with fail
    all_goals
      go_ret
      exact ⟨rfl, Below.refl _ _⟩
end Go.Proofs.Ytmekamgohonffaa

