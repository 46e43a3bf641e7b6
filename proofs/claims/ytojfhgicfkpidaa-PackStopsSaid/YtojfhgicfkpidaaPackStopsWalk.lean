/- PackStops: the walk. -/
import Derived.Test.YtojfhgicfkpidaaPackAwake
import Derived.Deep.RegionWith
import Derived.Deep.RegionHeld3
import Derived.Deep.DeepCutAuto
import Derived.Deep.DrawnRows
namespace Go.Proofs.Ytojfhgicfkpidaa
open Go.RowKit
set_option linter.unusedVariables false
attribute [local go_sem ↓] Go.wp_at_zero Go.wp_at_succ
theorem below_drew_iff (B : Nat) (a w : World) : Below B a w.drew ↔ Below B a w := ⟨fun h => ⟨h.os, h.tape, h.output, h.size, h.block⟩, Below.drew⟩
theorem rdT_drew_iff (w : World) (e : TypeId) (A : Option Addr) (n : Nat) (vs : List Value) : RdT w.drew e A n vs ↔ RdT w e A n vs := Iff.rfl
theorem RdrAt.blk {w : World} {b : Nat} {s : Pk.St} (h : RdrAt w b s) : ∃ cs, Blk w b 43 cs := by
  obtain ⟨A, n, c, h1, _⟩ := h
  exact ⟨_, h1⟩
theorem RdT.only {w w' : World} {A : Option Addr} {n b : Nat} {vs : List Value} {s : Pk.St} (h : RdT w 5 A n vs) (ho : Only b w w') (hr : RdrAt w b s) : RdT w' 5 A n vs := by
  obtain ⟨cs, hb⟩ := hr.blk
  exact h.grown ho hb (by decide)
theorem i64_and_65535 (n : Int) : bits .and .i64 n 65535 = n % 65536 := by
  show IntKind.i64.wrap ((BitVec.ofInt 64 n &&& BitVec.ofInt 64 65535).toNat : Int) = _
  have e : (BitVec.ofInt 64 n &&& BitVec.ofInt 64 65535).toNat = (n % 65536).toNat := by
    rw [BitVec.toNat_and]
    have h1 : (BitVec.ofInt 64 65535).toNat = 2 ^ 16 - 1 := by decide
    rw [h1, Nat.and_two_pow_sub_one_eq_mod, BitVec.toNat_ofInt]
    omega
  rw [e, IntKind.wrap_i64]
  omega
set_option maxHeartbeats 4000000 in
set_option maxRecDepth 100000 in
theorem packStops_walk (a0 : Option Addr) (len0 cap0 : Nat) (z0 : List Int) (a1 : Int) (w : World) (w0 : IsRow .u8 w a0 len0 cap0 z0) (w1 : (Lit.int .i64 a1).wf = true) :
    Calls Try.prog 4 #[.slice a0 len0 cap0, .int .i64 a1] w fun e w' => e = .returned (.bool true) ∧ Below w.heap.size w w' := by
  obtain ⟨l, hl, h, hle, hcap⟩ := w0.rd
  have hn : len0 ≤ maxLen := Nat.le_trans hle hcap
  have hn' : len0 ≤ 9223372036854775807 := hn
  obtain ⟨k, e1, hk⟩ : ∃ k : Nat, bits .and .i64 a1 65535 = (k : Int) ∧ k < 65536 := ⟨(a1 % 65536).toNat, by rw [i64_and_65535]; omega, by omega⟩
  clear w1 w0 hcap
  by_cases hlt : 200 < len0
  · go_enter Try.func4, Try.ntmps4
    go_wp2_with (go_at_call 12; refine (awake_any _).mono ?_; rintro e w1 ⟨rfl, hb⟩)
    go_ret
    exact ⟨rfl, hb⟩
  · have H := Lib.hid h
    have HL := Lib.hid h.length
    have HX := Lib.hid hl
    clear h hl
    go_enter Try.func4, Try.ntmps4
    go_wp2_with fail
    refine (putb_in (W := w) (l := []) (x := l) (l' := Pk.encB l) (Rd.none_ _ 0 _) H.out (by have := HL.out; simp; unfold Lim; omega) (Below.refl _ _) rfl).mono ?_
    rintro e w1 ⟨A1, n1, c1, rfl, hown1, HB1, _⟩
    have HK1 := Lib.hid (own_len hown1)
    have hn1 : n1 ≤ 209 := by have h1 := HK1.out; have h2 := Pk.enc_length l.length; have h3 := HL.out; unfold Pk.encB at h1; rw [List.length_append] at h1; omega
    go_wp2_with fail
    refine (put_in (W := w) (l := Pk.encB l) (N := k) (l' := Pk.encB l ++ Pk.enc k) (by unfold Lim; omega) (Rd.own_ hown1) HB1 (by rw [Pk.held_of (by unfold Pk.top; omega)])).mono ?_
    rintro e w2 ⟨A2, n2, c2, rfl, hown2, HB2, _⟩
    have hn2 : n2 ≤ 218 := by have h1 := own_len hown2; have h2 := Pk.enc_length k; have h3 := HK1.out; rw [List.length_append] at h1; omega
    clear hown1
    go_wp2_with fail
    refine (putb_in (W := w) (l := []) (x := l) (l' := Pk.encB l) (Rd.none_ _ 0 _) (H.out.below HB2) (by have := HL.out; simp; unfold Lim; omega) HB2 rfl).mono ?_
    rintro e w3 ⟨A3, n3, c3, rfl, hown3, HB3, hb3⟩
    have hown2' := own_below hown2 hb3
    have hn3 : n3 ≤ 209 := by have h1 := own_len hown3; have h3 := HK1.out; omega
    clear hown2 hb3
    go_wp2_with (first
      | (at_builtin
         refine wpList_append_bytes (W := w) byteT (.tmp 18) (.tmp 20) rfl (by rfl) rfl hown2' rfl (Rd.own_ hown3) (by omega) HB3 ?_
         intro A4 c4 w4 hown4 hr4 HB4)
      | fail)
    have hk20 : k ≤ Pk.held (k : Int) := by rw [Pk.held_of (by unfold Pk.top; omega)]; exact Nat.le_refl _
    have HT := Lib.hid (show k ≤ Pk.top by unfold Pk.top; omega)
    have HLT := Lib.hid (show l.length ≤ Pk.top ∧ l.length ≤ Pk.held 200 by have := HL.out; exact ⟨by unfold Pk.top; omega, by rw [show Pk.held 200 = 200 from rfl]; omega⟩)
    have HS1 := Lib.hid (Pk.bytV_is (Pk.bytN_enc l (Pk.enc k ++ Pk.encB l) 200 HLT.out.1 HLT.out.2))
    have HS2 := Lib.hid (Pk.numV_is (Pk.numN_enc HT.out (Pk.encB l) k hk20))
    have HS3 := Lib.hid (Pk.bytV_is (show Pk.bytN (some (Pk.encB l)) 200 = some (l, []) by have := Pk.bytN_enc l [] 200 HLT.out.1 HLT.out.2; rwa [List.append_nil] at this))
    rw [List.append_assoc] at hr4
    refine (read_in (W := w) (l := Pk.encB l ++ (Pk.enc k ++ Pk.encB l)) (by unfold Lim; omega) (by
      intro x hx
      rcases List.mem_append.1 hx with hx | hx
      · exact Pk.encB_lt HX.out HLT.out.1 x hx
      · rcases List.mem_append.1 hx with hx | hx
        · exact Pk.enc_lt HT.out x hx
        · exact Pk.encB_lt HX.out HLT.out.1 x hx) hr4 HB4).mono ?_
    rintro e w5 ⟨r, rfl, hr5, hr, _, HB5, _⟩
    clear hown2' hown3 hown4 hr4 HB1 HB2 HB3 HB4
    go_wp2_with fail
    refine (bytes_in (W := w) hr5 HB5 hr HS1.out.1 HS1.out.2).mono ?_
    rintro e w6 ⟨A6, n6, c6, rfl, hown6, hr6, HB6, _⟩
    clear hr5 HB5
    have hdr := below_drew_iff
    have hdr2 := rdT_drew_iff
    have R6 : RdT w6 5 A6 n6 (bv l) := RdT.own hown6
    have hcx : ∀ w' : World, RdT w' 5 A6 n6 (bv l) → (convert 26 9 (.slice A6 n6 c6)).run Try.prog w' = .ok (.string (strB l)) w' := fun w' hb => awake_str hb.rd
    have hcr : ∀ w' : World, Below w.heap.size w w' → (convert 26 9 (.slice a0 len0 cap0)).run Try.prog w' = .ok (.string (strB l)) w' := fun w' hb => awake_str (H.out.below hb)
    have hself := strB_self l
    have hself2 : (strB l != strB l) = false := by simp [bne, hself]
    clear hown6
    go_upto_region 9 with fail
    go_cut [57] (fun s57 wx => s57 = .bool false ∧ Below w.heap.size w wx)
    case first =>
      go_region_with (first
        | (go_at_call 9; refine (ok_any _ r _ (by exact hr6)).mono ?_; rintro e w7 ⟨rfl, rfl⟩)
        | (go_at_call 8; refine (num_in (W := w) (by exact hr6) (by repeat (first | exact HB6 | apply Below.drew)) hr HS2.out.1 HS2.out.2).mono ?_; rintro e w7 ⟨rfl, hr7, HB7, ho7⟩; have R7 : RdT w7 5 A6 n6 (bv l) := RdT.only (by exact R6) ho7 (by exact hr6); clear ho7)
        | (go_at_call 14; refine (bytes_in (W := w) (by exact hr7) (by repeat (first | exact HB7 | apply Below.drew)) hr HS3.out.1 HS3.out.2).mono ?_; rintro e w8 ⟨A8, n8, c8, rfl, hown8, hr8, HB8, ho8⟩; have R8 : RdT w8 5 A6 n6 (bv l) := RdT.only (by exact R7) ho8 (by exact hr7); have Q8 : RdT w8 5 A8 n8 (bv l) := RdT.own hown8; have hc8 : ∀ w' : World, RdT w' 5 A8 n8 (bv l) → (convert 26 9 (.slice A8 n8 c8)).run Try.prog w' = .ok (.string (strB l)) w' := fun w' hb => awake_str hb.rd; clear ho8 hown8)
        | (go_at_call 11; refine (end_any _ r _ (by exact hr8)).mono ?_; rintro e w9 ⟨rfl, rfl⟩))
      all_goals go_wp2_with fail
      all_goals go_meet
      all_goals exact ⟨rfl, HB8⟩
    case rest =>
      obtain ⟨rfl, HBc⟩ := hcut
      clear hcx hcr hself hself2 hdr hdr2 R6 hr6 HB6 HS1 HS2 HS3 HLT HT hk20
      go_wp2_with fail
      refine (put_in (W := wc) (l := []) (l' := [5]) (by unfold Lim; omega) (Rd.none_ _ 0 _) (Below.refl _ _) (by decide)).mono ?_
      rintro e w7 ⟨A7, n7, c7, rfl, hown7, HB7, _⟩
      obtain rfl : 1 = n7 := own_len hown7
      go_wp2_with (first
        | (at_builtin
           refine wpList_append_bytes (W := wc) (l' := [1, 2, 3]) byteT (.tmp 58) (.tmp 59) rfl (by rfl) rfl (hown7.alloc _) rfl (Rd.made w7 #[.int .u8 1, .int .u8 2, .int .u8 3] 5 _ 3 rfl) (by omega) (HB7.alloc HB7.size _) ?_
           intro A9 c9 w9 hown9 hr9 HB9)
        | fail)
      refine (read_in (W := wc) (l := [5, 1, 2, 3]) (by unfold Lim; omega) (by decide) hr9 HB9).mono ?_
      rintro e w10 ⟨s, rfl, hs10, hs, _, HB10, _⟩
      clear hown7 hown9 hr9 HB7 HB9
      go_wp2_with fail
      refine (num_in (W := wc) (most := 4) hs10 HB10 hs (v := 0) (s' := none) (by decide) (by decide)).mono ?_
      rintro e w11 ⟨rfl, hs11, HB11, _⟩
      clear hs10 HB10
      go_wp2_with fail
      refine (num_in (W := wc) (most := 9) hs11 HB11 hs (v := 0) (s' := none) rfl rfl).mono ?_
      rintro e w12 ⟨rfl, hs12, HB12, _⟩
      clear hs11 HB11
      go_wp2_with fail
      refine (bytes_in (W := wc) (most := 9) hs12 HB12 hs (v := []) (s' := none) rfl rfl).mono ?_
      rintro e w13 ⟨A13, n13, c13, rfl, hown13, hs13, HB13, _⟩
      obtain rfl : 0 = n13 := own_len hown13
      clear hs12 HB12 hown13
      go_wp2_with fail
      refine (ok_any _ s _ hs13).mono ?_
      rintro e w14 ⟨rfl, rfl⟩
      go_wp2_with fail
      refine (end_any _ s _ hs13).mono ?_
      rintro e w14 ⟨rfl, rfl⟩
      rw [show Pk.endOf none = false from rfl]
      go_wp2_with fail
      refine (awake_any _).mono ?_
      rintro e w15 ⟨rfl, HB15⟩
      go_wp2
      go_ret
      have HBz := HBc.trans (HB13.mono HBc.size)
      exact ⟨rfl, HBz.trans (HB15.mono HBz.size)⟩
end Go.Proofs.Ytojfhgicfkpidaa
