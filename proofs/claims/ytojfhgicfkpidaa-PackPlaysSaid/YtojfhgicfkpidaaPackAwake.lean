/- 'awake': what the document fixes of numbers as bytes. -/
import Derived.Test.YtojfhgicfkpidaaPackRdr
import Derived.Deep.RegionHeld3
namespace Go.Proofs.Ytojfhgicfkpidaa
open Go.RowKit
set_option linter.unusedVariables false
theorem awake_str {w : World} {B : Nat} {A : Option Addr} {n c : Nat} {l : List Nat} (h : Rd w B A n (bv l)) : (convert 26 9 (.slice A n c)).run Try.prog w = .ok (.string (strB l)) w :=
  run_str_rd Try.underlying26 Try.underlying5 Try.underlying9 h
/-- a reader as its caller knows it: it lies behind what was there -/
def Rdr (W w : World) (b : Nat) (s : Pk.St) : Prop := RdrAt w b s ∧ W.heap.size ≤ b
theorem num300_any (w : World) : Calls Try.prog 10 #[.slice none 0 0, .int .i64 300] w (GotB w [172, 2]) :=
  num_any [] none 0 0 0 300 (by unfold Lim; omega) _ (Rd.none_ _ _ _)
theorem num5_any (w : World) : Calls Try.prog 10 #[.slice none 0 0, .int .i64 5] w (GotB w [5]) :=
  num_any [] none 0 0 0 5 (by unfold Lim; omega) _ (Rd.none_ _ _ _)
theorem bytesab_any (A : Option Addr) (c B : Nat) (A' : Option Addr) (c' B' : Nat) (w : World) (hr : Rd w B A 2 (bv [172, 2])) (hr' : Rd w B' A' 2 (bv [97, 98])) :
    Calls Try.prog 13 #[.slice A 2 c, .slice A' 2 c'] w (GotB w [172, 2, 2, 97, 98]) :=
  bytes_any [172, 2] [97, 98] A 2 c B A' 2 c' B' (by unfold Lim; omega) (by unfold Lim; omega) (by unfold Lim; omega) w hr hr'
theorem rnum_is (w : World) (b : Nat) (s : Pk.St) (most : Int) (h : RdrAt w b s) (v : Nat) (s' : Pk.St) (hv : Pk.numV s most = v) (hs : Pk.numS s most = s') :
    Calls Try.prog 8 #[.pointer (some ⟨b, 0, none⟩), .int .i64 most] w (NumP w b v s') := by
  subst hv hs; exact rnum_any w b s most h
theorem rbytes_is (w : World) (b : Nat) (s : Pk.St) (most : Int) (h : RdrAt w b s) (v : List Nat) (s' : Pk.St) (hv : Pk.bytV s most = v) (hs : Pk.bytS s most = s') :
    Calls Try.prog 14 #[.pointer (some ⟨b, 0, none⟩), .int .i64 most] w (BytP w b v s') := by
  subst hv hs; exact rbytes_any w b s most h
theorem own_below {W w w' : World} {A : Option Addr} {n c : Nat} {l : List Nat} (h : OwnB W w A n c l) (hb : Below w.heap.size w w') : OwnB W w' A n c l := by
  obtain ⟨h1, h2⟩ := h
  refine ⟨h1, ?_⟩
  rcases h2 with h2 | ⟨g, cap, cur, hv, hg, hh, r⟩
  · exact .inl h2
  · exact .inr ⟨g, cap, cur, hv, hg, (hb.block g (Blk.lt hh)).trans hh, r⟩
theorem RdrAt.blk {w : World} {b : Nat} {s : Pk.St} (h : RdrAt w b s) : ∃ cs, Blk w b 43 cs := by
  obtain ⟨A, n, c, h1, _⟩ := h
  exact ⟨_, h1⟩
/-- what is read of another type stays while a reader reads -/
theorem RdT.onlyR {w w' : World} {e : TypeId} {A : Option Addr} {n b : Nat} {vs : List Value} {s : Pk.St} (h : RdT w e A n vs) (hne : e ≠ 43) (ho : Only b w w') (hr : RdrAt w b s) : RdT w' e A n vs := by
  obtain ⟨cs, hb⟩ := hr.blk
  exact h.grown ho hb hne
/-- the calls of pack, as a caller that began in W knows them -/
theorem num_in {W w : World} {b : Nat} {s : Pk.St} {most : Int} (h : RdrAt w b s) (hB : Below W.heap.size W w) (hb : W.heap.size ≤ b) {v : Nat} {s' : Pk.St} (hv : Pk.numV s most = v) (hs : Pk.numS s most = s') :
    Calls Try.prog 8 #[.pointer (some ⟨b, 0, none⟩), .int .i64 most] w fun e w' => e = .returned (.int .i64 (v : Int)) ∧ RdrAt w' b s' ∧ Below W.heap.size W w' ∧ Only b w w' :=
  (rnum_is w b s most h v s' hv hs).mono fun e w' ⟨h1, h2, h3⟩ => ⟨h1, h2, below_only hB h3 hb, h3⟩
theorem bytes_in {W w : World} {b : Nat} {s : Pk.St} {most : Int} (h : RdrAt w b s) (hB : Below W.heap.size W w) (hb : W.heap.size ≤ b) {v : List Nat} {s' : Pk.St} (hv : Pk.bytV s most = v) (hs : Pk.bytS s most = s') :
    Calls Try.prog 14 #[.pointer (some ⟨b, 0, none⟩), .int .i64 most] w fun e w' => ∃ A n c, e = .returned (.slice A n c) ∧ OwnB W w' A n c v ∧ RdrAt w' b s' ∧ Below W.heap.size W w' ∧ Only b w w' :=
  (rbytes_is w b s most h v s' hv hs).mono fun e w' ⟨A, n, c, h1, h2, h3, h4⟩ => ⟨A, n, c, h1, own_base h2 hB.size, h3, below_only hB h4 hb, h4⟩
theorem read_in {W w : World} {l : List Nat} {A : Option Addr} {n c B : Nat} (hn : Lim 40 n) (hl : ∀ x ∈ l, x < 256) (hr : Rd w B A n (bv l)) (hB : Below W.heap.size W w) :
    Calls Try.prog 7 #[.slice A n c] w fun e w' => ∃ b, e = .returned (.pointer (some ⟨b, 0, none⟩)) ∧ RdrAt w' b (some l) ∧ W.heap.size ≤ b ∧ w.heap.size ≤ b ∧ Below W.heap.size W w' ∧ Below w.heap.size w w' :=
  (read_any l A n c B hn hl w hr).mono fun e w' ⟨b, h1, h2, h3, h4⟩ => ⟨b, h1, h2, Nat.le_trans hB.size h3, h3, hB.trans (h4.mono hB.size), h4⟩
theorem put_in {W w : World} {l l' : List Nat} {A : Option Addr} {n c B : Nat} {N : Int} (hn : Lim 20 n) (hr : Rd w B A n (bv l)) (hB : Below W.heap.size W w) (he : l ++ Pk.enc (Pk.held N) = l') :
    Calls Try.prog 10 #[.slice A n c, .int .i64 N] w fun e w' => ∃ A n c, e = .returned (.slice A n c) ∧ OwnB W w' A n c l' ∧ Below W.heap.size W w' ∧ Below w.heap.size w w' := by
  subst he
  refine (num_any l A n c B N hn w hr).mono ?_
  rintro e w' ⟨A, n, c, h1, h2, h3⟩
  exact ⟨A, n, c, h1, own_base h2 hB.size, hB.trans (h3.mono hB.size), h3⟩
theorem putb_in {W w : World} {l x l' : List Nat} {A : Option Addr} {n c B : Nat} {A' : Option Addr} {n' c' B' : Nat} (hr : Rd w B A n (bv l)) (hr' : Rd w B' A' n' (bv x)) (hn : Lim 20 (l.length + x.length)) (hB : Below W.heap.size W w) (he : l ++ Pk.encB x = l') :
    Calls Try.prog 13 #[.slice A n c, .slice A' n' c'] w fun e w' => ∃ A n c, e = .returned (.slice A n c) ∧ OwnB W w' A n c l' ∧ Below W.heap.size W w' ∧ Below w.heap.size w w' := by
  subst he
  have h1 := hr.length
  have h2 := hr'.length
  have h3 := hn.out
  refine (bytes_any l x A n c B A' n' c' B' (by unfold Lim; omega) (by unfold Lim; omega) (by unfold Lim; omega) w hr hr').mono ?_
  rintro e w' ⟨A, n, c, h1, h2, h3⟩
  exact ⟨A, n, c, h1, own_base h2 hB.size, hB.trans (h3.mono hB.size), h3⟩
set_option maxHeartbeats 1000000 in
set_option maxRecDepth 100000 in
theorem awake_any (w : World) : Calls Try.prog 12 #[] w fun e w' => e = .returned (.bool true) ∧ Below w.heap.size w w' := by
  have hB0 := Below.refl w.heap.size w
  have kc := fun (w : World) (C : Array Value) (n c : Nat) => Lib.run_convert_bytes_const (P := Try.prog) w 26 5 C n c Try.underlying26 Try.underlying5
  go_enter Try.func12, Try.ntmps12
  go_wp2_with fail
  refine (num300_any _).mono ?_
  rintro e w1 ⟨A1, n1, c1, rfl, hown1, hB1⟩
  obtain rfl : 2 = n1 := own_len hown1
  have hr1 := Lib.hid (Rd.own_ hown1)
  clear hown1
  go_wp2_with fail
  refine (bytesab_any A1 c1 _ _ _ _ _ (hr1.out.alloc (Nat.le_refl _) _) (Rd.made w1 #[.int .u8 97, .int .u8 98] 5 _ 2 rfl)).mono ?_
  rintro e w2 ⟨A2, n2, c2, rfl, hown2, hB2⟩
  obtain rfl : 5 = n2 := own_len hown2
  have HB2 : Below w.heap.size w w2 := (hB1.alloc hB1.size _).trans (hB2.mono (by have := hB1.size; simp; omega))
  have hr2 := Rd.own_ hown2
  have HS2 := Lib.hid (fun (w' : World) (hb : Below w2.heap.size w2 w') => awake_str (c := c2) (hr2.below hb))
  have HR2 := Lib.hid hr2
  clear hr2 hown2 hB2 hr1 hB1
  go_wp2_with fail
  refine (read_in (W := w2) (l := [172, 2, 2, 97, 98]) (by unfold Lim; omega) (by decide) HR2.out (Below.refl _ _)).mono ?_
  rintro e w3 ⟨r, rfl, hr3, hr, hr', HB3, hB3⟩
  go_wp2_with fail
  refine (num_in hr3 HB3 hr (v := 300) (s' := some [2, 97, 98]) (by decide) (by decide)).mono ?_
  rintro e w4 ⟨rfl, hr4, HB4, ho4⟩
  go_wp2_with fail
  refine (bytes_in hr4 HB4 hr (v := [97, 98]) (s' := some []) (by decide) (by decide)).mono ?_
  rintro e w5 ⟨A5, n5, c5, rfl, hown5, hr5, HB5, ho5⟩
  obtain rfl : 2 = n5 := own_len hown5
  have HR5 := Lib.hid (Rd.own_ hown5)
  have HH := Lib.hid HR2
  have HE5 := Lib.hid (end_any w5 r _ hr5)
  clear hr3 hr4 hown5 ho4 ho5 HB3 HB4 hr5 hB3
  go_wp2_with fail
  refine HE5.out.mono ?_
  rintro e w6 ⟨rfl, rfl⟩
  rw [show Pk.endOf (some []) = true by decide]
  go_wp2_with fail
  refine (read_in (W := w5) (l := [128, 0]) (by unfold Lim; omega) (by decide) (Rd.made w5 #[.int .u8 128, .int .u8 0] 5 _ 2 rfl) ((Below.refl _ _).alloc (Nat.le_refl _) _)).mono ?_
  rintro e w6 ⟨s, rfl, hs6, hs, _, HB6, _⟩
  go_wp2_with fail
  refine (put_in (W := w6) (l := []) (l' := [5]) (by unfold Lim; omega) (Rd.none_ _ 0 _) (Below.refl _ _) (by decide)).mono ?_
  rintro e w7 ⟨A7, n7, c7, rfl, hown7, HB7, _⟩
  obtain rfl : 1 = n7 := own_len hown7
  go_wp2_with fail
  refine (read_in (W := w6) (l := [5]) (by unfold Lim; decide) (by decide) (Rd.own_ hown7) HB7).mono ?_
  rintro e w8 ⟨t, rfl, ht8, ht, _, HB8, _⟩
  have hs8 := hs6.below HB8
  have hst : s ≠ t := by have := hs6.lt; omega
  have h6 := HB6.size
  have hB8 : Below w5.heap.size w5 w8 := HB6.trans (HB8.mono h6)
  have hc2 := awake_str (c := c2) (HR2.out.below (HB5.trans (hB8.mono HB5.size)))
  have hc5 := awake_str (A := A5) (n := 2) (c := c5) (HR5.out.below hB8)
  have hq2 : (strB [172, 2, 2, 97, 98] == { data := #[172, 2, 2, 97, 98] }) = true := by decide
  have hq5 : (strB [97, 98] == { data := #[97, 98] }) = true := by decide
  have hq2' : ((strB [172, 2, 2, 97, 98]).toList == [172, 2, 2, 97, 98]) = true := by decide +kernel
  have hq5' : ((strB [97, 98]).toList == [97, 98]) = true := by decide +kernel
  have HS := Lib.hid hs8
  have HT := Lib.hid ht8
  have HB := Lib.hid hB8
  clear hs6 hs8 ht8 hown7 HB7 HB8 hB8 HB6
  go_wp2_with fail
  refine (num_in (W := w5) (most := 9) HS.out HB.out (by omega) (v := 0) (s' := none) (by decide) (by decide)).mono ?_
  rintro e w9 ⟨rfl, hs9, HB9, ho9⟩
  have ht9 : RdrAt w9 t (some [5]) := by
    obtain ⟨_, _, _, hb, _⟩ := HS.out
    exact HT.out.grown ho9 hb (by decide) (Ne.symm hst)
  clear hc2 hc5 hq2 hq5 hq5' hq2'
  go_wp2_with fail
  refine (ok_any w9 s _ hs9).mono ?_
  rintro e w10 ⟨rfl, rfl⟩
  go_wp2_with fail
  refine (num_in (W := w5) (most := 4) ht9 HB9 (by omega) (v := 0) (s' := none) (by decide) (by decide)).mono ?_
  rintro e w11 ⟨rfl, ht11, HB11, ho11⟩
  clear ht9 hs9 ho9 HB9
  go_wp2_with fail
  refine (ok_any w11 t _ ht11).mono ?_
  rintro e w12 ⟨rfl, rfl⟩
  go_wp2_with fail
  refine (end_any w11 t _ ht11).mono ?_
  rintro e w12 ⟨rfl, rfl⟩
  go_wp2
  go_ret
  exact ⟨rfl, HB2.trans ((HB5.trans (HB11.mono HB5.size)).mono HB2.size)⟩
end Go.Proofs.Ytojfhgicfkpidaa
