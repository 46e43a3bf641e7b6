/- PackForms: the walk. -/
import Derived.Test.YtojfhgicfkpidaaPackAwake
import Derived.Deep.RegionWith
import Derived.Deep.RegionHeld3
import Derived.Deep.DeepCutAuto
import Derived.Deep.DrawnRows
import Derived.Laws.DeepStrings4
import Derived.Handy
import Derived.StillTailTactics
namespace Go.Proofs.Ytojfhgicfkpidaa
open Go.RowKit
set_option linter.unusedVariables false
attribute [local go_sem ↓] Go.wp_at_zero Go.wp_at_succ
theorem below_drew_iff (B : Nat) (a w : World) : Below B a w.drew ↔ Below B a w := ⟨fun h => ⟨h.os, h.tape, h.output, h.size, h.block⟩, Below.drew⟩
theorem rdT_drew_iff (w : World) (e : TypeId) (A : Option Addr) (n : Nat) (vs : List Value) : RdT w.drew e A n vs ↔ RdT w e A n vs := Iff.rfl
theorem i64_and_255 (n : Int) : bits .and .i64 n 255 = n % 256 := by
  show IntKind.i64.wrap ((BitVec.ofInt 64 n &&& BitVec.ofInt 64 255).toNat : Int) = _
  have e : (BitVec.ofInt 64 n &&& BitVec.ofInt 64 255).toNat = (n % 256).toNat := by
    rw [BitVec.toNat_and]
    have h1 : (BitVec.ofInt 64 255).toNat = 2 ^ 8 - 1 := by decide
    rw [h1, Nat.and_two_pow_sub_one_eq_mod, BitVec.toNat_ofInt]
    omega
  rw [e, IntKind.wrap_i64]
  omega
/-- row by hand: the number n, the bytes s; are they a number? -/
def Fits (n : Int) (s : ByteArray) (ok : Bool) : Prop :=
  s.size ≤ 20 ∧ if ok then Pk.enc (Pk.held n) = sb s ∧ Pk.numV (some (sb s)) 4611686018427387904 = Pk.held n ∧ Pk.numS (some (sb s)) 4611686018427387904 = some [] ∧ strB (Pk.enc (Pk.held n)) = s
    else Pk.numV (some (sb s)) 4611686018427387904 = 0 ∧ Pk.numS (some (sb s)) 4611686018427387904 = none
theorem two_new (W : World) (o : Obj) (n : Int) (s : ByteArray) (b : Bool) (t : TypeId) :
    Blk ((W.alloc o).alloc (.cells #[.int .i64 n, .string s, .bool b] t)) (W.heap.size + 1) t #[.int .i64 n, .string s, .bool b] ∧
    Below W.heap.size W ((W.alloc o).alloc (.cells #[.int .i64 n, .string s, .bool b] t)) := by
  have hz : (W.alloc o).heap.size = W.heap.size + 1 := by simp
  have h := Blk.new (W.alloc o) t #[.int .i64 n, .string s, .bool b]
  rw [hz] at h
  exact ⟨h, ((Below.refl _ W).alloc (Nat.le_refl _) _).alloc (by omega) _⟩
set_option maxHeartbeats 4000000 in
set_option maxRecDepth 100000 in
theorem packForms_walk (a0 : Int) (w0 : (Lit.int .i64 a0).wf = true) (w : World) :
    Calls Try.prog 3 #[.int .i64 a0] w fun e w' => e = .returned (.bool true) ∧ Below w.heap.size w w' := by
  have e1 := i64_and_255 a0
  have h16 : (a0 % 256).tmod 16 = 0 ∨ (a0 % 256).tmod 16 = 1 ∨ (a0 % 256).tmod 16 = 2 ∨ (a0 % 256).tmod 16 = 3 ∨ (a0 % 256).tmod 16 = 4 ∨ (a0 % 256).tmod 16 = 5 ∨ (a0 % 256).tmod 16 = 6 ∨ (a0 % 256).tmod 16 = 7 ∨ (a0 % 256).tmod 16 = 8 ∨ (a0 % 256).tmod 16 = 9 ∨ (a0 % 256).tmod 16 = 10 ∨ (a0 % 256).tmod 16 = 11 ∨ (a0 % 256).tmod 16 = 12 ∨ (a0 % 256).tmod 16 = 13 ∨ (a0 % 256).tmod 16 = 14 ∨ (a0 % 256).tmod 16 = 15 := by
    rw [Int.tmod_eq_emod_of_nonneg (by omega)]; omega
  have H16 := Lib.hid h16
  clear h16
  go_enter Try.func3, Try.ntmps3
  go_upto_region 2 with fail
  go_cut [4] (fun s4 wx => ∃ (g : Nat) (n : Int) (s : ByteArray) (b : Bool), s4 = .pointer (some ⟨g, 0, none⟩) ∧ Blk wx g 22 #[.int .i64 n, .string s, .bool b] ∧ Fits n s b ∧ Below w.heap.size w wx)
  case first =>
    rcases H16.out with hj | hj | hj | hj | hj | hj | hj | hj | hj | hj | hj | hj | hj | hj | hj | hj
    all_goals go_wp2_with fail
    all_goals go_meet
    all_goals exact ⟨w.heap.size + 1, _, _, _, rfl, (two_new _ _ _ _ _ _).1, ⟨by decide, by decide +kernel⟩, (two_new _ _ _ _ _ _).2⟩
  case rest =>
    obtain ⟨g, n, s, b, rfl, hb, hf, hB⟩ := hcut
    rename World => wf
    have kc := fun (w : World) (s : ByteArray) => run_bytes_of_string (P := Try.prog) w 9 26 5 s Try.underlying9 Try.underlying26 Try.underlying5
    have h0 : wf.cell? ⟨g, 0, none⟩ = some (.int .i64 n) := hb.cell 0
    have h1 : wf.cell? ⟨g, 1, none⟩ = some (.string s) := hb.cell 1
    have h2 : wf.cell? ⟨g, 2, none⟩ = some (.bool b) := hb.cell 2
    have hdr := below_drew_iff
    have hdr2 := rdT_drew_iff
    have hlim : Lim 40 s.size := by have := hf.1; unfold Lim; omega
    have HF := Lib.hid hf.2
    have HBB := Lib.hid hb
    have HB := Lib.hid hB
    clear hf hb hB
    go_wp2_with fail
    refine (read_in (W := wf) (l := sb s) hlim (sb_lt s) (Rd.drew (Rd.of_string _ _ _ _ _)) (Below.drew ((Below.refl _ _).alloc (Nat.le_refl _) _))).mono ?_
    rintro e w5 ⟨r, rfl, hr5, hr, _, HB5, _⟩
    have hx1 : w5.cell? ⟨g, 0, none⟩ = some (.int .i64 n) := (HBB.out.below HB5).cell 0
    have hx2 : w5.cell? ⟨g, 1, none⟩ = some (.string s) := (HBB.out.below HB5).cell 1
    have hx3 : w5.cell? ⟨g, 2, none⟩ = some (.bool b) := (HBB.out.below HB5).cell 2
    clear h0 h1 h2 hx1 hx2 hx3 kc
    cases b
    case false =>
      have HV : Hid (Pk.numV (some (sb s)) 4611686018427387904 = 0 ∧ Pk.numS (some (sb s)) 4611686018427387904 = none) := HF.out
      go_wp2_with fail
      refine (num_in (W := wf) hr5 HB5 hr HV.out.1 HV.out.2).mono ?_
      rintro e w6 ⟨rfl, hr6, HB6, _⟩
      have hx3 : w6.cell? ⟨g, 2, none⟩ = some (.bool false) := (HBB.out.below HB6).cell 2
      clear hr5 HB5
      go_upto_region 7 with fail
      go_cut [53] (fun s53 wx => s53 = .bool false ∧ Below w6.heap.size w6 wx)
      case first =>
        first
          | (go_region_held3 (fun w' => w'.cell? ⟨g, 2, none⟩ = some (.bool false)) (go_keep) (first
            | (go_at_call 9; refine (ok_any _ r _ (by exact hr6)).mono ?_; rintro e w7 ⟨rfl, rfl⟩)))
          | fail "no way"
        all_goals go_wp2_with fail
        all_goals go_meet
        all_goals exact ⟨rfl, Below.drew (Below.refl _ _)⟩
      case rest =>
        obtain ⟨rfl, HB7⟩ := hcut
        have hx4 : wc.cell? ⟨g, 2, none⟩ = some (.bool false) := (HB7.cell (World.block_lt_of_cell? w6 _ hx3)).trans hx3
        clear hx3
        go_wp2_with fail
        refine wp_region_any (by kernel_rfl) ?_
        change wpAny _ _ _ _ _ _ _ wc.drew
        have HB7' : Below w6.heap.size w6 wc.drew := HB7.drew
        have hx5 : wc.drew.cell? ⟨g, 2, none⟩ = some (.bool false) := hx4
        clear HB7 hx4
        generalize wc.drew = w7 at HB7' hx5 ⊢
        refine wpAny_ready (rs := [0]) (by kernel_rfl) (by simp) ?_
        refine AllReady.cons rfl (fun K hK => ?_) AllReady.nil
        go_simp
        refine hK _ _ ?_
        clear hK K
        refine wpAny_ready (rs := [1]) (by kernel_rfl) (by simp) ?_
        refine AllReady.cons rfl (fun K hK => ?_) AllReady.nil
        go_simp
        refine hK _ _ ?_
        clear hK K
        refine wpAny_ready (rs := [2]) (by kernel_rfl) (by simp) ?_
        refine AllReady.cons rfl (fun K hK => ?_) AllReady.nil
        go_simp
        refine hK _ _ ?_
        clear hK K
        refine wpAny_ready (rs := [3]) (by kernel_rfl) (by simp) ?_
        refine AllReady.cons rfl (fun K hK => ?_) AllReady.nil
        go_simp
        refine hK _ _ ?_
        clear hK K
        refine wpAny_take (i := 4) (v := undef) rfl (by kernel_rfl) (by kernel_rfl) (by kernel_rfl) (fun _ _ _ h => h) (Or.inr ⟨by kernel_rfl, rfl⟩) ?_
        refine wpAny_take (i := 5) (v := undef) rfl (by kernel_rfl) (by kernel_rfl) (by kernel_rfl) (fun _ _ _ h => h) (Or.inr ⟨by kernel_rfl, rfl⟩) ?_
        refine wpAny_take (i := 6) (v := undef) rfl (by kernel_rfl) (by kernel_rfl) (by kernel_rfl) (fun _ _ _ h => h) (Or.inr ⟨by kernel_rfl, rfl⟩) ?_
        refine wpAny_take (i := 7) (v := undef) rfl (by kernel_rfl) (by kernel_rfl) (by kernel_rfl) (fun _ _ _ h => h) (Or.inr ⟨by kernel_rfl, rfl⟩) ?_
        refine wpAny_take (i := 8) (v := undef) rfl (by kernel_rfl) (by kernel_rfl) (by kernel_rfl) (fun _ _ _ h => h) (Or.inr ⟨by kernel_rfl, rfl⟩) ?_
        refine wpAny_take (i := 9) (v := undef) rfl (by kernel_rfl) (by kernel_rfl) (by kernel_rfl) (fun _ _ _ h => h) (Or.inr ⟨by kernel_rfl, rfl⟩) ?_
        refine wpAny_take (i := 10) (v := undef) rfl (by kernel_rfl) (by kernel_rfl) (by kernel_rfl) (fun _ _ _ h => h) (Or.inr ⟨by kernel_rfl, rfl⟩) ?_
        refine wpAny_take (i := 11) (v := undef) rfl (by kernel_rfl) (by kernel_rfl) (by kernel_rfl) (fun _ _ _ h => h) (Or.inr ⟨by kernel_rfl, rfl⟩) ?_
        refine wpAny_take (i := 12) (v := undef) rfl (by kernel_rfl) (by kernel_rfl) (by kernel_rfl) (fun _ _ _ h => h) (Or.inr ⟨by kernel_rfl, rfl⟩) ?_
        refine wpAny_take (i := 13) (v := undef) rfl (by kernel_rfl) (by kernel_rfl) (by kernel_rfl) (fun _ _ _ h => h) (Or.inr ⟨by kernel_rfl, rfl⟩) ?_
        refine wpAny_take (i := 14) (v := undef) rfl (by kernel_rfl) (by kernel_rfl) (by kernel_rfl) (fun _ _ _ h => h) (Or.inr ⟨by kernel_rfl, rfl⟩) ?_
        refine wpAny_take (i := 15) (v := undef) rfl (by kernel_rfl) (by kernel_rfl) (by kernel_rfl) (fun _ _ _ h => h) (Or.inr ⟨by kernel_rfl, rfl⟩) ?_
        refine wpAny_take (i := 16) (v := undef) rfl (by kernel_rfl) (by kernel_rfl) (by kernel_rfl) (fun _ _ _ h => h) (Or.inr ⟨by kernel_rfl, rfl⟩) ?_
        refine wpAny_take (i := 17) (v := undef) rfl (by kernel_rfl) (by kernel_rfl) (by kernel_rfl) (fun _ _ _ h => h) (Or.inr ⟨by kernel_rfl, rfl⟩) ?_
        refine wpAny_take (i := 18) (v := undef) rfl (by kernel_rfl) (by kernel_rfl) (by kernel_rfl) (fun _ _ _ h => h) (Or.inr ⟨by kernel_rfl, rfl⟩) ?_
        refine wpAny_take (i := 19) (v := undef) rfl (by kernel_rfl) (by kernel_rfl) (by kernel_rfl) (fun _ _ _ h => h) (Or.inr ⟨by kernel_rfl, rfl⟩) ?_
        refine wpAny_take (i := 20) (v := undef) rfl (by kernel_rfl) (by kernel_rfl) (by kernel_rfl) (fun _ _ _ h => h) (Or.inr ⟨by kernel_rfl, rfl⟩) ?_
        refine wpAny_take (i := 21) (v := undef) rfl (by kernel_rfl) (by kernel_rfl) (by kernel_rfl) (fun _ _ _ h => h) (Or.inr ⟨by kernel_rfl, rfl⟩) ?_
        refine wpAny_take (i := 22) (v := undef) rfl (by kernel_rfl) (by kernel_rfl) (by kernel_rfl) (fun _ _ _ h => h) (Or.inr ⟨by kernel_rfl, rfl⟩) ?_
        refine wpAny_ready (rs := [23]) (by kernel_rfl) (by simp) ?_
        refine AllReady.cons rfl (fun K hK => ?_) AllReady.nil
        go_simp
        refine hK _ _ ?_
        clear hK K
        refine wpAny_ready (rs := [24]) (by kernel_rfl) (by simp) ?_
        refine AllReady.cons rfl (fun K hK => ?_) AllReady.nil
        go_simp
        refine hK _ _ ?_
        clear hK K
        refine wpAny_ready (rs := [25]) (by kernel_rfl) (by simp) ?_
        refine AllReady.cons rfl (fun K hK => ?_) AllReady.nil
        go_simp
        refine (awake_any _).mono ?_
        rintro e w8 ⟨rfl, HB8⟩
        go_simp
        refine hK _ _ ?_
        clear hK K
        refine wpAny_ready (rs := [26]) (by kernel_rfl) (by simp) ?_
        refine AllReady.cons rfl (fun K hK => ?_) AllReady.nil
        go_simp
        refine hK _ _ ?_
        clear hK K
        refine wpAny_ready (rs := [27]) (by kernel_rfl) (by simp) ?_
        refine AllReady.cons rfl (fun K hK => ?_) AllReady.nil
        go_simp
        refine hK _ _ ?_
        clear hK K
        refine wpAny_done (by kernel_rfl) ?_ _
        go_wp2
        go_ret
        refine ⟨rfl, ?_⟩
        have HB9 : Below wf.heap.size wf w8 := HB6.trans ((HB7'.trans (HB8.mono HB7'.size)).mono HB6.size)
        exact HB.out.trans (HB9.mono HB.out.size)
    case true =>
      have HV : Hid (Pk.enc (Pk.held n) = sb s ∧ Pk.numV (some (sb s)) 4611686018427387904 = Pk.held n ∧ Pk.numS (some (sb s)) 4611686018427387904 = some [] ∧ strB (Pk.enc (Pk.held n)) = s) := HF.out
      go_wp2_with fail
      refine (num_in (W := wf) hr5 HB5 hr HV.out.2.1 HV.out.2.2.1).mono ?_
      rintro e w6 ⟨rfl, hr6, HB6, _⟩
      have hx3 : w6.cell? ⟨g, 2, none⟩ = some (.bool true) := (HBB.out.below HB6).cell 2
      clear hr5 HB5
      go_upto_region 7 with fail
      go_cut [53] (fun s53 wx => s53 = .bool false ∧ Below w6.heap.size w6 wx)
      case first =>
        first
          | (go_region_with (first
            | (go_at_call 9; refine (ok_any _ r _ (by exact hr6)).mono ?_; rintro e w7 ⟨rfl, rfl⟩)))
          | fail "no way"
        all_goals go_wp2_with fail
        all_goals go_meet
        all_goals exact ⟨rfl, Below.drew (Below.refl _ _)⟩
      case rest =>
        obtain ⟨rfl, HB7⟩ := hcut
        have hb7 := (HBB.out.below HB6).below HB7
        have h0 : wc.cell? ⟨g, 0, none⟩ = some (.int .i64 n) := hb7.cell 0
        have h1 : wc.cell? ⟨g, 1, none⟩ = some (.string s) := hb7.cell 1
        have h2 : wc.cell? ⟨g, 2, none⟩ = some (.bool true) := hb7.cell 2
        have hr7 := hr6.below HB7
        have H7 := Lib.hid hb7
        have hm1 := fun (w : World) ts t => run_max0 (P := Try.prog) w ts t n
        have hm2 := fun (w : World) ts t => run_min_top (P := Try.prog) w ts t n
        have hss : (s == s) = true := by rw [ba_beq]; simp
        clear hb7 hx3 hr6
        go_wp2_with fail
        have hS0 : wc.drew.cell? ⟨g, 0, none⟩ = some (.int .i64 n) ∧ wc.drew.cell? ⟨g, 1, none⟩ = some (.string s) ∧ wc.drew.cell? ⟨g, 2, none⟩ = some (.bool true) := ⟨h0, h1, h2⟩
        refine wp_region_held_drew (S := fun w' => w'.cell? ⟨g, 0, none⟩ = some (.int .i64 n) ∧ w'.cell? ⟨g, 1, none⟩ = some (.string s) ∧ w'.cell? ⟨g, 2, none⟩ = some (.bool true)) (by kernel_rfl) hS0 (fun _ => ?_)
        have HB7' : Below w6.heap.size w6 wc.drew := HB7.drew
        have H7' : Hid (Blk wc.drew g 22 #[.int .i64 n, .string s, .bool true]) := Lib.hid H7.out.drew
        have hr7' : RdrAt wc.drew r (some []) := hr7
        clear HB7 h0 h1 h2 H7 hr7
        generalize wc.drew = w7 at HB7' H7' hr7' hS0 ⊢
        have hS := Lib.hid hS0
        obtain ⟨h0, h1, h2⟩ := hS0
        refine wpAnyH_ready (rs := [0]) (by kernel_rfl) (by simp) ?_
        refine AllReadyH.cons rfl (fun K hK => ?_) AllReadyH.nil
        go_simp
        refine hK.out _ _ hS.out (fun _ => ?_)
        clear hK K
        refine wpAnyH_ready (rs := [1]) (by kernel_rfl) (by simp) ?_
        refine AllReadyH.cons rfl (fun K hK => ?_) AllReadyH.nil
        go_simp
        refine hK.out _ _ hS.out (fun _ => ?_)
        clear hK K
        refine wpAnyH_ready (rs := [2]) (by kernel_rfl) (by simp) ?_
        refine AllReadyH.cons rfl (fun K hK => ?_) AllReadyH.nil
        go_simp
        refine hK.out _ _ hS.out (fun _ => ?_)
        clear hK K
        refine wpAnyH_ready (rs := [3]) (by kernel_rfl) (by simp) ?_
        refine AllReadyH.cons rfl (fun K hK => ?_) AllReadyH.nil
        go_simp
        refine hK.out _ _ hS.out (fun _ => ?_)
        clear hK K
        refine wpAnyH_take (i := 4) (v := .pointer (some ⟨g, 0, none⟩)) rfl (by kernel_rfl) (by kernel_rfl) (by kernel_rfl) (fun _ _ _ h => h) (Or.inl ⟨by kernel_rfl, fun w _ => by go_simp⟩) hS.out ?_
        refine wpAnyH_take (i := 8) (v := .pointer (some ⟨g, 1, none⟩)) rfl (by kernel_rfl) (by kernel_rfl) (by kernel_rfl) (fun _ _ _ h => h) (Or.inl ⟨by kernel_rfl, fun w _ => by go_simp⟩) hS.out ?_
        refine wpAnyH_take (i := 5) (v := .int .i64 n) rfl (by kernel_rfl) (by kernel_rfl) (by kernel_rfl) (fun _ _ _ h => h) (Or.inl ⟨by kernel_rfl, fun w h => by obtain ⟨h0, h1, h2⟩ := h; go_simp⟩) hS.out ?_
        refine wpAnyH_take (i := 9) (v := .string s) rfl (by kernel_rfl) (by kernel_rfl) (by kernel_rfl) (fun _ _ _ h => h) (Or.inl ⟨by kernel_rfl, fun w h => by obtain ⟨h0, h1, h2⟩ := h; go_simp⟩) hS.out ?_
        refine wpAnyH_ready (rs := [6]) (by kernel_rfl) (by simp) ?_
        refine AllReadyH.cons rfl (fun K hK => ?_) AllReadyH.nil
        go_simp
        refine (put_in (W := w7) (l := []) (l' := Pk.enc (Pk.held n)) (by unfold Lim; omega) (Rd.none_ _ 0 _) (Below.refl _ _) rfl).mono ?_
        rintro e w8 ⟨A8, n8, c8, rfl, hown8, HB8, _⟩
        have hcv : (convert 26 9 (.slice A8 n8 c8)).run Try.prog w8 = .ok (.string s) w8 := by
          have h := awake_str (c := c8) (Rd.own_ hown8); rw [HV.out.2.2.2] at h; exact h
        have H8 := Lib.hid (H7'.out.below HB8)
        have hS := Lib.hid (And.intro (H8.out.cell 0) (And.intro (H8.out.cell 1) (H8.out.cell 2)))
        have h0 : w8.cell? ⟨g, 0, none⟩ = some (.int .i64 n) := H8.out.cell 0
        have hr8 := hr7'.below HB8
        clear hown8
        go_simp
        refine hK.out _ _ hS.out (fun _ => ?_)
        clear hK K
        refine wpAnyH_ready (rs := [7]) (by kernel_rfl) (by simp) ?_
        refine AllReadyH.cons rfl (fun K hK => ?_) AllReadyH.nil
        go_simp
        refine hK.out _ _ hS.out (fun _ => ?_)
        clear hK K
        refine wpAnyH_ready (rs := [10]) (by kernel_rfl) (by simp) ?_
        refine AllReadyH.cons rfl (fun K hK => ?_) AllReadyH.nil
        go_simp
        refine hK.out _ _ hS.out (fun _ => ?_)
        clear hK K
        refine wpAnyH_ready (rs := [11]) (by kernel_rfl) (by simp) ?_
        refine AllReadyH.cons rfl (fun K hK => ?_) AllReadyH.nil
        go_simp
        refine hK.out _ _ hS.out (fun _ => ?_)
        clear hK K
        refine wpAnyH_take (i := 12) (v := .int .i64 (Pk.held n : Nat)) rfl (by kernel_rfl) (by kernel_rfl) (by kernel_rfl) (fun _ _ _ h => h) (Or.inl ⟨by kernel_rfl, fun w _ => by go_simp⟩) hS.out ?_
        refine wpAnyH_ready (rs := [13]) (by kernel_rfl) (by simp) ?_
        refine AllReadyH.cons rfl (fun K hK => ?_) AllReadyH.nil
        go_simp
        refine hK.out _ _ hS.out (fun _ => ?_)
        clear hK K
        refine wpAnyH_ready (rs := [14]) (by kernel_rfl) (by simp) ?_
        refine AllReadyH.cons rfl (fun K hK => ?_) AllReadyH.nil
        go_simp
        refine hK.out _ _ hS.out (fun _ => ?_)
        clear hK K
        refine wpAnyH_ready (rs := [15]) (by kernel_rfl) (by simp) ?_
        refine AllReadyH.cons rfl (fun K hK => ?_) AllReadyH.nil
        go_simp
        refine hK.out _ _ hS.out (fun _ => ?_)
        clear hK K
        refine wpAnyH_ready (rs := [16]) (by kernel_rfl) (by simp) ?_
        refine AllReadyH.cons rfl (fun K hK => ?_) AllReadyH.nil
        go_simp
        refine hK.out _ _ hS.out (fun _ => ?_)
        clear hK K
        refine wpAnyH_ready (rs := [17]) (by kernel_rfl) (by simp) ?_
        refine AllReadyH.cons rfl (fun K hK => ?_) AllReadyH.nil
        go_simp
        refine hK.out _ _ hS.out (fun _ => ?_)
        clear hK K
        refine wpAnyH_ready (rs := [18]) (by kernel_rfl) (by simp) ?_
        refine AllReadyH.cons rfl (fun K hK => ?_) AllReadyH.nil
        go_simp
        refine hK.out _ _ hS.out (fun _ => ?_)
        clear hK K
        refine wpAnyH_ready (rs := [19]) (by kernel_rfl) (by simp) ?_
        refine AllReadyH.cons rfl (fun K hK => ?_) AllReadyH.nil
        go_simp
        refine hK.out _ _ hS.out (fun _ => ?_)
        clear hK K
        refine wpAnyH_ready (rs := [20]) (by kernel_rfl) (by simp) ?_
        refine AllReadyH.cons rfl (fun K hK => ?_) AllReadyH.nil
        go_simp
        refine hK.out _ _ hS.out (fun _ => ?_)
        clear hK K
        refine wpAnyH_ready (rs := [21]) (by kernel_rfl) (by simp) ?_
        refine AllReadyH.cons rfl (fun K hK => ?_) AllReadyH.nil
        go_simp
        refine (end_any w8 r _ hr8).mono ?_
        rintro e w9 ⟨rfl, rfl⟩
        rw [show Pk.endOf (some []) = true by decide]
        go_simp
        refine hK.out _ _ hS.out (fun _ => ?_)
        clear hK K
        refine wpAnyH_ready (rs := [22]) (by kernel_rfl) (by simp) ?_
        refine AllReadyH.cons rfl (fun K hK => ?_) AllReadyH.nil
        go_simp
        refine hK.out _ _ hS.out (fun _ => ?_)
        clear hK K
        refine wpAnyH_ready (rs := [23]) (by kernel_rfl) (by simp) ?_
        refine AllReadyH.cons rfl (fun K hK => ?_) AllReadyH.nil
        go_simp
        refine hK.out _ _ hS.out (fun _ => ?_)
        clear hK K
        refine wpAnyH_ready (rs := [24]) (by kernel_rfl) (by simp) ?_
        refine AllReadyH.cons rfl (fun K hK => ?_) AllReadyH.nil
        go_simp
        refine hK.out _ _ hS.out (fun _ => ?_)
        clear hK K
        refine wpAnyH_ready (rs := [25]) (by kernel_rfl) (by simp) ?_
        refine AllReadyH.cons rfl (fun K hK => ?_) AllReadyH.nil
        go_simp
        refine (awake_any _).mono ?_
        rintro e w9 ⟨rfl, HB9⟩
        have H9 := Lib.hid (H8.out.below HB9)
        have hS := Lib.hid (And.intro (H9.out.cell 0) (And.intro (H9.out.cell 1) (H9.out.cell 2)))
        go_simp
        refine hK.out _ _ hS.out (fun _ => ?_)
        clear hK K
        refine wpAnyH_ready (rs := [26]) (by kernel_rfl) (by simp) ?_
        refine AllReadyH.cons rfl (fun K hK => ?_) AllReadyH.nil
        go_simp
        refine hK.out _ _ hS.out (fun _ => ?_)
        clear hK K
        refine wpAnyH_ready (rs := [27]) (by kernel_rfl) (by simp) ?_
        refine AllReadyH.cons rfl (fun K hK => ?_) AllReadyH.nil
        go_simp
        refine hK.out _ _ hS.out (fun _ => ?_)
        clear hK K
        refine wpAnyH_done (by kernel_rfl) ?_ _
        go_wp2
        go_ret
        refine ⟨rfl, ?_⟩
        have HBa := HB7'.trans ((HB8.trans (HB9.mono HB8.size)).mono HB7'.size)
        have HBb := HB6.trans (HBa.mono HB6.size)
        exact HB.out.trans (HBb.mono HB.out.size)
end Go.Proofs.Ytojfhgicfkpidaa
