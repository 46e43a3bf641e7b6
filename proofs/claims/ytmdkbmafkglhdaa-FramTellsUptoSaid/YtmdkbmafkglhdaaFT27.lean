/- MesgW MesgW2 MesgR -/
import Derived.Test.YtmdkbmafkglhdaaFT18
import Derived.Test.YtmdkbmafkglhdaaFT21
import Derived.Test.YtmdkbmafkglhdaaFT26
namespace Go.Proofs.Ytmdkbmafkglhdaa
open Go.RowKit
set_option linter.unusedVariables false
/-- a writer: what it laid, and whether it failed -/
def WrAt (W w : World) (b : Nat) (L : List Nat) (f : Bool) : Prop :=
  ∃ A c, Blk w b 51 #[.slice A L.length c, .bool f] ∧ OwnB W w A L.length c L ∧ Below W.heap.size W w ∧ W.heap.size ≤ b
theorem WrAt.below {W w w' : World} {b : Nat} {L : List Nat} {f : Bool} (h : WrAt W w b L f) (hb : Below w.heap.size w w') : WrAt W w' b L f := by
  obtain ⟨A, c, h1, h2, h3, h4⟩ := h
  exact ⟨A, c, h1.below hb, own_below h2 hb, h3.trans (hb.mono h3.size), h4⟩
theorem WrAt.lt {W w : World} {b : Nat} {L : List Nat} {f : Bool} (h : WrAt W w b L f) : b < w.heap.size := by
  obtain ⟨A, c, h1, h2⟩ := h
  exact h1.lt
/-- a block that is no bytes turns -/
theorem WrAt.set {W w : World} {b g i : Nat} {L : List Nat} {f : Bool} {t : TypeId} {cs : Array Value} {u : Value} (h : WrAt W w b L f) (hk : Blk w g t cs) (h1 : 5 ≠ t) (hne : b ≠ g) (hg : W.heap.size ≤ g) : WrAt W (w.setCell ⟨g, i, none⟩ u) b L f := by
  obtain ⟨A, c, k1, k2, k3, k4⟩ := h
  exact ⟨A, c, k1.set_other hne, own_set_t k2 hk h1, k3.setCell hg _, k4⟩
/-- what a method leaves -/
def WrP (W w : World) (b : Nat) (L : List Nat) (f ok : Bool) (X : List Nat) (d : Nat) (w' : World) : Prop :=
  ∃ L' f', WrAt W w' b L' f' ∧ Only b w w' ∧ f' = (f || !ok) ∧ (f' = false → L' = L ++ X) ∧ L'.length ≤ L.length + d
theorem WrP.no {W w : World} {b d : Nat} {L : List Nat} {f ok : Bool} {X : List Nat} (h : WrAt W w b L f) (hok : ok = false) : WrP W w b L f ok X d (w.setCell ⟨b, 1, none⟩ (.bool true)) := by
  obtain ⟨A, c, k1, k2, k3, k4⟩ := h
  refine ⟨L, true, ⟨A, c, k1.set_ 1 _, own_set_t k2 k1 (by decide), k3.setCell k4 _, k4⟩, only_set (only_refl b w) 1 _, by rw [hok]; simp, (fun h => absurd h (by decide)), by omega⟩
theorem WrP.yes {W w w1 : World} {b d : Nat} {L L' : List Nat} {f ok : Bool} {X : List Nat} {A' : Option Addr} {c' : Nat} (h : WrAt W w b L f) (hok : ok = true) (hX : L ++ X = L') (hl : X.length ≤ d) (ho : OwnB W w1 A' L'.length c' L') (hb : Below w.heap.size w w1) :
    WrP W w b L f ok X d (w1.setCell ⟨b, 0, none⟩ (.slice A' L'.length c')) := by
  have hbl := h.lt
  obtain ⟨A, c, k1, k2, k3, k4⟩ := h
  refine ⟨L', f, ⟨A', c', (k1.below hb).set_ 0 _, own_set_t ho (k1.below hb) (by decide), (k3.trans (hb.mono k3.size)).setCell k4 _, k4⟩, ?_, by rw [hok]; simp, fun h => hX.symm, by rw [← hX, List.length_append]; omega⟩
  exact only_set (only_below (only_refl b w) hb (Nat.le_refl _)) 0 _
theorem eI_length (z : Int) : (eI z).length ≤ 9 := (Pk.enc_length _).2
set_option maxRecDepth 100000 in
theorem wnum_any {W w : World} {b : Nat} {L : List Nat} {f : Bool} (h : WrAt W w b L f) (hl : L.length ≤ 1000000) (z most : Int) :
    Calls Try.prog 74 #[.pointer (some ⟨b, 0, none⟩), .int .i64 z, .int .i64 most] w fun e w' => e = .returned (.int .i64 (if wi most z then z else 0)) ∧ WrP W w b L f (wi most z) (eI z) 9 w' := by
  have HW := Lib.hid h
  obtain ⟨A, c, k1, k2, k3, k4⟩ := h
  have x0 : w.cell? ⟨b, 0, none⟩ = some (.slice A L.length c) := k1.cell 0
  have x1 : w.cell? ⟨b, 1, none⟩ = some (.bool f) := k1.cell 1
  have f0 := k1.frozen 0
  have f1 := k1.frozen 1
  have hk1 := Lib.hid k1
  by_cases h0 : z < 0
  · have hw : wi most z = false := by unfold wi; simp; omega
    rw [hw]
    clear k1 k2 k3 k4
    go_enter Try.func74, Try.ntmps74
    go_wp2_with fail
    go_ret
    exact ⟨rfl, WrP.no HW.out rfl⟩
  by_cases h1 : most < z
  · have hw : wi most z = false := by unfold wi; simp; omega
    rw [hw]
    clear k1 k2 k3 k4
    go_enter Try.func74, Try.ntmps74
    go_wp2_with fail
    go_ret
    exact ⟨rfl, WrP.no HW.out rfl⟩
  have hw : wi most z = true := wi_iff.2 ⟨by omega, by omega⟩
  rw [hw]
  obtain ⟨L', hL'⟩ : ∃ x, L ++ eI z = x := ⟨_, rfl⟩
  have HC := Lib.hid (put_in (W := W) (N := z) (c := c) (by unfold Lim; omega) (Rd.own_ k2) k3 hL')
  clear k1 k2 k3 k4
  go_enter Try.func74, Try.ntmps74
  go_wp2_with (first
    | (go_at_call 79; refine HC.out.mono ?_; rintro en w1 ⟨A1, n1, c1, rfl, ho, hB1, hb1⟩; obtain rfl := own_len ho; have f0 := (hk1.out.below hb1).frozen 0; have x0 : w1.cell? ⟨b, 0, none⟩ = some (.slice A L.length c) := (hk1.out.below hb1).cell 0)
    | fail)
  go_ret
  exact ⟨rfl, WrP.yes HW.out rfl hL' (eI_length z) ho hb1⟩
set_option maxRecDepth 100000 in
theorem wdata_any {W w : World} {b : Nat} {L : List Nat} {f : Bool} {A' : Option Addr} {c' B' : Nat} {x : List Nat} (h : WrAt W w b L f) (hl : L.length ≤ 1000000) (hr : Rd w B' A' x.length (bv x)) (most : Int) (hm : most ≤ 100) :
    Calls Try.prog 72 #[.pointer (some ⟨b, 0, none⟩), .slice A' x.length c', .int .i64 most] w fun e w' => (∃ A n c, e = .returned (.slice A n c)) ∧ WrP W w b L f (decide ((x.length : Int) ≤ most)) (Pk.encB x) 109 w' := by
  have HW := Lib.hid h
  obtain ⟨A, c, k1, k2, k3, k4⟩ := h
  have x0 : w.cell? ⟨b, 0, none⟩ = some (.slice A L.length c) := k1.cell 0
  have x1 : w.cell? ⟨b, 1, none⟩ = some (.bool f) := k1.cell 1
  have f0 := k1.frozen 0
  have f1 := k1.frozen 1
  have hk1 := Lib.hid k1
  by_cases h1 : most < (x.length : Int)
  · have hw : decide ((x.length : Int) ≤ most) = false := by simp; omega
    rw [hw]
    clear k1 k2 k3 k4
    go_enter Try.func72, Try.ntmps72
    go_wp2_with fail
    go_ret
    exact ⟨⟨_, _, _, rfl⟩, WrP.no HW.out rfl⟩
  have hw : decide ((x.length : Int) ≤ most) = true := by simp; omega
  rw [hw]
  obtain ⟨L', hL'⟩ : ∃ y, L ++ Pk.encB x = y := ⟨_, rfl⟩
  have HC := Lib.hid (putb_in (W := W) (c := c) (c' := c') (Rd.own_ k2) hr (by unfold Lim; omega) k3 hL')
  clear k1 k2 k3 k4
  go_enter Try.func72, Try.ntmps72
  go_wp2_with (first
    | (go_at_call 76; refine HC.out.mono ?_; rintro en w1 ⟨A1, n1, c1, rfl, ho, hB1, hb1⟩; obtain rfl := own_len ho; have f0 := (hk1.out.below hb1).frozen 0; have x0 : w1.cell? ⟨b, 0, none⟩ = some (.slice A L.length c) := (hk1.out.below hb1).cell 0)
    | fail)
  go_ret
  exact ⟨⟨_, _, _, rfl⟩, WrP.yes HW.out rfl hL' (by have := encB_length x; omega) ho hb1⟩
end Go.Proofs.Ytmdkbmafkglhdaa

namespace Go.Proofs.Ytmdkbmafkglhdaa
open Go.RowKit
set_option linter.unusedVariables false
theorem all_take_succ {l : List Int} {k : Nat} {z : Int} {p : Int → Bool} (h : l[k]? = some z) : (l.take (k + 1)).all p = ((l.take k).all p && p z) := by
  rw [take_snoc h, List.all_append]; simp
set_option maxHeartbeats 2000000 in
set_option maxRecDepth 100000 in
theorem wnums_any {W w : World} {b : Nat} {L : List Nat} {f : Bool} {A' : Option Addr} {c' : Nat} {l : List Int} (h : WrAt W w b L f) (hl : L.length ≤ 100000) (hr : Rd W W.heap.size A' l.length (iv l)) (hc : l.length ≤ c' ∧ c' ≤ maxLen) (most : Nat) (hm : most ≤ 8) :
    Calls Try.prog 75 #[.pointer (some ⟨b, 0, none⟩), .slice A' l.length c', .int .i64 (most : Int)] w fun e w' => (∃ A n c, e = .returned (.slice A n c)) ∧ WrP W w b L f (wis most l) (encN l.length ++ Pk.encs l) 100 w' := by
  have HC0 := Lib.hid (wnum_any h (by omega) (l.length : Int) (most : Int))
  by_cases h1 : most < l.length
  · have hw : wis most l = false := by unfold wis; simp; omega
    have hw2 : wi (most : Int) (l.length : Int) = false := by unfold wi; simp; omega
    rw [hw2] at HC0
    rw [hw]
    clear h hr hw hw2
    simp only [Bool.false_eq_true, if_false] at HC0
    go_enter Try.func75, Try.ntmps75
    go_wp2_with (first
      | (go_at_call 74; refine HC0.out.mono ?_; rintro en w1 ⟨rfl, hP⟩; have HP := Lib.hid hP; clear hP)
      | fail)
    go_loopw [8, 18] (fun s8 s18 wr => wr = w1 ∧ s18 = .int .i64 0) (fun _ _ _ => 0)
    case atStart => exact ⟨rfl, rfl⟩
    case round =>
      obtain ⟨rfl, rfl⟩ := hrel
      go_wp2_with fail
      go_ret
      obtain ⟨L', f', k1, k2, k3, k4, k5⟩ := HP.out
      refine ⟨⟨_, _, _, rfl⟩, L', f', k1, k2, k3, fun hf => ?_, by omega⟩
      rw [k3] at hf; simp at hf
  have hw2 : wi (most : Int) (l.length : Int) = true := wi_iff.2 ⟨by omega, by omega⟩
  rw [hw2] at HC0
  simp only [if_true] at HC0
  have hw : wis most l = l.all (wi 1099511627776) := by
    unfold wis; rw [show decide (l.length ≤ most) = true by simp; omega]; rfl
  rw [hw]
  have hn8 : l.length ≤ 8 := by omega
  obtain ⟨n, hn⟩ : ∃ n, l.length = n := ⟨_, rfl⟩
  rw [hn] at hr hc hn8 HC0 ⊢
  have HR := Lib.hid hr
  have HN := Lib.hid hn
  clear h hr hw hw2 h1 hn
  go_enter Try.func75, Try.ntmps75
  go_wp2_with (first
    | (go_at_call 74; refine HC0.out.mono ?_; rintro en w1 ⟨rfl, hP⟩; have HP := Lib.hid hP; clear hP)
    | fail)
  go_loopw [8, 18] (fun s8 s18 wr => ∃ (k : Nat) (L1 : List Nat) (f1 : Bool), k ≤ n ∧ s18 = .int .i64 (k : Int) ∧ Hid (WrAt W wr b L1 f1) ∧ Hid (Only b w wr) ∧ Hid (f1 = (f || !(l.take k).all (wi 1099511627776))) ∧ Hid (f1 = false → L1 = L ++ (encN n ++ Pk.encs (l.take k))) ∧ Hid (L1.length ≤ L.length + 9 * (k + 1))) (fun _ s18 _ => n - (intOf s18).toNat)
  case atStart =>
    obtain ⟨L1, f1, k1, k2, k3, k4, k5⟩ := HP.out
    exact ⟨0, L1, f1, Nat.zero_le _, rfl, Lib.hid k1, Lib.hid k2, Lib.hid (by rw [k3]; simp), Lib.hid (fun hf => by rw [k4 hf]; simp [Pk.encs]; rfl), Lib.hid (by omega)⟩
  case round =>
    obtain ⟨k, L1, f1, hk, rfl, HW, HO, HF, HX, HL⟩ := hrel
    by_cases hlt : k < n
    · obtain ⟨z, hz⟩ : ∃ z, l[k]? = some z := ⟨_, List.getElem?_eq_getElem (by have := HN.out; omega)⟩
      have hwb : Below W.heap.size W wr := by obtain ⟨_, _, _, _, q, _⟩ := HW.out; exact q
      have hrd := HR.out.below hwb
      obtain ⟨bq, o, rfl, _⟩ := hrd.int_at hlt
      have y0 := hrd.int_cell hlt hz
      have hL1 : L1.length ≤ 1000000 := by have := HL.out; omega
      have HCN := Lib.hid (wnum_any HW.out hL1 z 1099511627776)
      have HZ := Lib.hid hz
      clear hrd hwb hz
      go_wp2_with (first
        | (go_at_call 74; refine HCN.out.mono ?_; rintro en w4 ⟨rfl, hP4⟩; have HP4 := Lib.hid hP4; clear hP4)
        | fail)
      go_roundw
      case rel =>
        obtain ⟨L2, f2, k1, k2, k3, k4, k5⟩ := HP4.out
        refine ⟨k + 1, L2, f2, by omega, by go_num, Lib.hid k1, Lib.hid (only_trans HO.out k2), Lib.hid ?_, Lib.hid (fun hf => ?_), Lib.hid (by have := HL.out; omega)⟩
        · rw [k3, HF.out, all_take_succ HZ.out]
          cases f <;> cases (l.take k).all (wi 1099511627776) <;> cases wi 1099511627776 z <;> rfl
        · have hf1 : f1 = false := by rw [hf] at k3; cases f1 <;> simp at k3 ⊢
          rw [k4 hf, HX.out hf1, take_snoc HZ.out, Pk.encs_snoc]
          unfold eI
          simp only [List.append_assoc]
      case measure => simp only [intOf]; omega
    · obtain rfl : k = n := by omega
      go_wp2_with fail
      go_ret
      have hT : l.take k = l := List.take_of_length_le (by have := HN.out; omega)
      refine ⟨⟨_, _, _, rfl⟩, L1, f1, HW.out, HO.out, ?_, fun hf => ?_, by have := HL.out; omega⟩
      · rw [HF.out, hT]
      · rw [HX.out hf, hT]
end Go.Proofs.Ytmdkbmafkglhdaa

namespace Go.Proofs.Ytmdkbmafkglhdaa
open Go.RowKit
set_option linter.unusedVariables false
theorem iv_snocR (l : List Int) (z : Int) : iv (l ++ [z]) = iv l ++ [.int .i64 z] := by simp [iv]
set_option maxRecDepth 100000 in
theorem rnum11_any (w : World) (b : Nat) (s : Pk.St) (z most : Int) (h : RdrAt w b s) {v : Nat} {s' : Pk.St} (hv : Pk.numV s most = v) (hs : Pk.numS s most = s') :
    Calls Try.prog 91 #[.agg #[.pointer (some ⟨b, 0, none⟩)], .int .i64 z, .int .i64 most] w (NumP w b v s') := by
  have bb : Below w.heap.size w (w.alloc (.cells #[.pointer (some ⟨b, 0, none⟩)] 59)) := (Below.refl _ _).alloc (Nat.le_refl _) _
  have HC := Lib.hid (rnum_is _ b s most (h.below bb) v s' hv hs)
  have HB := Lib.hid bb
  clear h hv hs bb
  go_enter Try.func91, Try.ntmps91
  go_wp2_with (first
    | (go_at_call 81; refine HC.out.mono ?_; rintro e w1 ⟨rfl, hr1, hb1⟩)
    | fail)
  go_ret
  exact ⟨rfl, hr1, only_trans (only_below (only_refl b w) HB.out (Nat.le_refl _)) hb1⟩
set_option maxRecDepth 100000 in
theorem rdata11_any (w : World) (b : Nat) (s : Pk.St) (A0 : Option Addr) (n0 c0 : Nat) (most : Int) (h : RdrAt w b s) {v : List Nat} {s' : Pk.St} (hv : Pk.bytV s most = v) (hs : Pk.bytS s most = s') :
    Calls Try.prog 89 #[.agg #[.pointer (some ⟨b, 0, none⟩)], .slice A0 n0 c0, .int .i64 most] w fun e w' => ∃ A c, e = .returned (.slice A v.length c) ∧ OwnB w w' A v.length c v ∧ RdrAt w' b s' ∧ Only b w w' := by
  have bb : Below w.heap.size w (w.alloc (.cells #[.pointer (some ⟨b, 0, none⟩)] 59)) := (Below.refl _ _).alloc (Nat.le_refl _) _
  have HC := Lib.hid (rbytes_is _ b s most (h.below bb) v s' hv hs)
  have HB := Lib.hid bb
  clear h hv hs bb
  go_enter Try.func89, Try.ntmps89
  go_wp2_with (first
    | (go_at_call 82; refine HC.out.mono ?_; rintro e w1 ⟨A1, n1, c1, rfl, ho1, hr1, hb1⟩; obtain rfl := own_len ho1)
    | fail)
  go_ret
  exact ⟨A1, c1, rfl, own_of HB.out.size ho1, hr1, only_trans (only_below (only_refl b w) HB.out (Nat.le_refl _)) hb1⟩
set_option maxRecDepth 100000 in
theorem rentry11_any (w : World) (b : Nat) (s : Pk.St) (ca : CA) (e0 : En) (h : RdrAt w b s) {e : En} {s' : Pk.St} (hv : En.read s = e) (hs : (En.get s).2 = s') :
    Calls Try.prog 90 #[.agg #[.pointer (some ⟨b, 0, none⟩)], entV ca e0] w fun en w' => ∃ ca, en = .returned (entV ca e) ∧ OwnC w w' ca e.c ∧ RdrAt w' b s' ∧ Only b w w' := by
  obtain ⟨wz, hwz⟩ : ∃ wz, ((w.alloc (.cells #[.pointer (some ⟨b, 0, none⟩)] 59)).alloc (.cells (entC ca e0) 27)).alloc (.cells #[.int .i64 0, .int .i64 0, .int .i64 0, .int .i64 0, .slice none 0 0, .slice none 0 0, .slice none 0 0] 27) = wz := ⟨_, rfl⟩
  have bb : Below w.heap.size w wz := by rw [← hwz]; exact (((Below.refl _ _).alloc (Nat.le_refl _) _).alloc (by rw [World.size_alloc]; omega) _).alloc (by rw [World.size_alloc, World.size_alloc]; omega) _
  obtain ⟨g, hg⟩ : ∃ g, w.heap.size = g := ⟨_, rfl⟩
  have k0 : Blk wz g 59 #[.pointer (some ⟨b, 0, none⟩)] := by rw [← hwz, ← hg]; exact ((Blk.new _ _ _).alloc _).alloc _
  have k2 : Blk wz (g + 1 + 1) 27 #[.int .i64 0, .int .i64 0, .int .i64 0, .int .i64 0, .slice none 0 0, .slice none 0 0, .slice none 0 0] := by
    rw [← hwz, ← hg]
    have := Blk.new ((w.alloc (.cells #[.pointer (some ⟨b, 0, none⟩)] 59)).alloc (.cells (entC ca e0) 27)) 27 #[.int .i64 0, .int .i64 0, .int .i64 0, .int .i64 0, .slice none 0 0, .slice none 0 0, .slice none 0 0]
    rwa [World.size_alloc, World.size_alloc] at this
  have hbl := h.lt
  have HC : Hid (Calls Try.prog 77 #[.pointer (some ⟨b, 0, none⟩)] wz fun en w' => ∃ ca, en = .returned (entV ca e) ∧ OwnC wz w' ca e.c ∧ RdrAt w' b s' ∧ Only b wz w') := Lib.hid (by
    have q := getEntry_any wz b s (h.below bb)
    rw [hv, hs] at q
    exact q)
  have HB := Lib.hid bb
  have HK := Lib.hid k2
  have HWZ := Lib.hid hwz
  have HG := Lib.hid hg
  have x0 : wz.cell? ⟨g, 0, none⟩ = some (.pointer (some ⟨b, 0, none⟩)) := k0.cell 0
  have hne : g + 1 + 1 ≠ b := by omega
  clear h hv hs bb k0 k2 hwz hg
  unfold entV entC
  unfold entV entC at HC
  unfold entC at HWZ
  go_enter Try.func90, Try.ntmps90
  go_upto_region 1 with fail
  rw [HG.out, HWZ.out]
  go_wp2_with (first
    | (go_at_call 77; refine HC.out.mono ?_; rintro en w1 ⟨ca1, rfl, hq, hr1, hb1⟩
       have HK1 := Lib.hid (HK.out.grown hb1 (by simpa using hne))
       have HQ := Lib.hid hq
       have HO := Lib.hid hb1
       have HR := Lib.hid hr1
       obtain ⟨y0, y1, y2, y3, y4, y5, y6⟩ := seven HK1.out
       have z0 := HK1.out.frozen 0
       have z1 := HK1.out.frozen 1
       have z2 := HK1.out.frozen 2
       have z3 := HK1.out.frozen 3
       have z4 := HK1.out.frozen 4
       have z5 := HK1.out.frozen 5
       have z6 := HK1.out.frozen 6
       clear hq hr1 hb1 x0)
    | fail)
  have q0 := HK1.out
  have q1 := q0.set_ 0 (.int .i64 e.s)
  have q2 := q1.set_ 1 (.int .i64 e.q)
  have q3 := q2.set_ 2 (.int .i64 e.c.kind)
  have q4 := q3.set_ 3 (.int .i64 e.c.who)
  have q5 := q4.set_ 4 (.slice ca1.Ak e.c.key.length ca1.ck)
  have q6 := q5.set_ 5 (.slice ca1.Av e.c.val.length ca1.cv)
  have q7 := q6.set_ 6 (.slice ca1.Ao e.c.old.length ca1.co)
  refine bodyPost_ret (results_cell_row rfl _ _ _ _ _ _ _ rfl q7 Try.underlying27 rfl (by kernel_rfl)) rfl ?_
  have hg := HG.out
  have hr0 : RgSt w w1 b s' := ⟨HR.out, only_trans (only_below (only_refl b w) HB.out (Nat.le_refl _)) HO.out⟩
  have hrg := (((((((hr0).set (i := 0) (u := .int .i64 e.s) q0 (by decide) (by decide) (by omega)).set (i := 1) (u := .int .i64 e.q) q1 (by decide) (by decide) (by omega)).set (i := 2) (u := .int .i64 e.c.kind) q2 (by decide) (by decide) (by omega)).set (i := 3) (u := .int .i64 e.c.who) q3 (by decide) (by decide) (by omega)).set (i := 4) (u := .slice ca1.Ak e.c.key.length ca1.ck) q4 (by decide) (by decide) (by omega)).set (i := 5) (u := .slice ca1.Av e.c.val.length ca1.cv) q5 (by decide) (by decide) (by omega)).set (i := 6) (u := .slice ca1.Ao e.c.old.length ca1.co) q6 (by decide) (by decide) (by omega)
  have own : ∀ {A : Option Addr} {n c : Nat} {l : List Nat}, OwnB wz w1 A n c l → OwnB w (((((((w1.setCell ⟨g + 1 + 1, 0, none⟩ (.int .i64 e.s)).setCell ⟨g + 1 + 1, 1, none⟩ (.int .i64 e.q)).setCell ⟨g + 1 + 1, 2, none⟩ (.int .i64 e.c.kind)).setCell ⟨g + 1 + 1, 3, none⟩ (.int .i64 e.c.who)).setCell ⟨g + 1 + 1, 4, none⟩ (.slice ca1.Ak e.c.key.length ca1.ck)).setCell ⟨g + 1 + 1, 5, none⟩ (.slice ca1.Av e.c.val.length ca1.cv)).setCell ⟨g + 1 + 1, 6, none⟩ (.slice ca1.Ao e.c.old.length ca1.co)) A n c l :=
    fun h => own_of HB.out.size (own_set_t (own_set_t (own_set_t (own_set_t (own_set_t (own_set_t (own_set_t h q0 (by decide)) q1 (by decide)) q2 (by decide)) q3 (by decide)) q4 (by decide)) q5 (by decide)) q6 (by decide))
  exact ⟨ca1, rfl, ⟨own HQ.out.k, own HQ.out.v, own HQ.out.o⟩, hrg.r, hrg.only⟩
set_option maxHeartbeats 2000000 in
set_option maxRecDepth 100000 in
theorem rnums11_any (w : World) (b : Nat) (s : Pk.St) (A0 : Option Addr) (n0 c0 : Nat) {most : Int} (hm0 : 0 ≤ most) (hm : most ≤ 100) (h : RdrAt w b s) {R : List Int} {s' : Pk.St} (hR : (stF most s).1 = R) (hs' : (stF most s).2 = s') :
    Calls Try.prog 92 #[.agg #[.pointer (some ⟨b, 0, none⟩)], .slice A0 n0 c0, .int .i64 most] w fun en w' => ∃ A c, en = .returned (.slice A R.length c) ∧ OwnI w w' A R.length c R ∧ RdrAt w' b s' ∧ Only b w w' := by
  unfold stF at hR hs'
  have hbl := h.lt
  have HBL := Lib.hid hbl
  obtain ⟨wz, hwz⟩ : ∃ wz, w.alloc (.cells #[.pointer (some ⟨b, 0, none⟩)] 59) = wz := ⟨_, rfl⟩
  have bb : Below w.heap.size w wz := by rw [← hwz]; exact (Below.refl _ _).alloc (Nat.le_refl _) _
  obtain ⟨g, hg⟩ : ∃ g, w.heap.size = g := ⟨_, rfl⟩
  have k0 : Blk wz g 59 #[.pointer (some ⟨b, 0, none⟩)] := by rw [← hwz, ← hg]; exact Blk.new _ _ _
  have HWZ := Lib.hid hwz
  have HG := Lib.hid hg
  have hgb : g ≠ b := by omega
  obtain ⟨n, hn⟩ : ∃ x, Pk.numV s most = x := ⟨_, rfl⟩
  obtain ⟨s1, hs1⟩ : ∃ x, Pk.numS s most = x := ⟨_, rfl⟩
  have hn100 : n ≤ 100 := by have := numV_le s hm0; omega
  have HC := Lib.hid (rnum_is wz b s most (h.below bb) n s1 hn hs1)
  rw [hn, hs1] at hR hs'
  have HQ0 : Hid (getF n s1 = (R, s')) := Lib.hid (by rw [← hR, ← hs'])
  have H0 : Hid (RgSt w wz b s) := Lib.hid ((⟨h, only_refl b w⟩ : RgSt w w b s).below bb)
  have HK0 := Lib.hid k0
  have x0 : wz.cell? ⟨g, 0, none⟩ = some (.pointer (some ⟨b, 0, none⟩)) := k0.cell 0
  clear hR hs' hn hs1 h bb k0 hwz hg
  go_enter Try.func92, Try.ntmps92
  go_upto_region 1 with fail
  rw [HG.out, HWZ.out]
  go_wp2_with (first
    | (go_at_call 81; refine HC.out.mono ?_; rintro en w1 ⟨rfl, hr1, hb1⟩; have HS1 := Lib.hid (H0.out.call hr1 hb1); have HK1 := Lib.hid (HK0.out.grown hb1 (by simpa using hgb)); clear hr1 hb1 HC x0)
    | fail)
  go_loopw [7, 12] (fun s7 s12 wr => ∃ (k : Nat) (A1 : Option Addr) (c1 : Nat) (acc : List Int) (sk : Pk.St), k ≤ n ∧ s12 = .int .i64 (k : Int) ∧ s7 = .slice A1 k c1 ∧ Hid (RgSt w wr b sk) ∧ Hid (Blk wr g 59 #[.pointer (some ⟨b, 0, none⟩)]) ∧ Hid (OwnI w wr A1 k c1 acc) ∧ Hid (getF n s1 = (acc ++ (getF (n - k) sk).1, (getF (n - k) sk).2))) (fun _ s12 _ => n - (intOf s12).toNat)
  case atStart => exact ⟨0, none, 0, [], s1, Nat.zero_le _, rfl, rfl, HS1, HK1, Lib.hid (ownI_nil _ _), Lib.hid (by simp)⟩
  case round =>
    clear HS1 H0 HK1 HK0
    obtain ⟨k, A1, c1, acc, sk, hk, rfl, rfl, HS, HK, HO, HQ⟩ := hrel
    by_cases hlt : k < n
    · obtain ⟨m, hm1⟩ : ∃ m, n - k = m + 1 := ⟨n - k - 1, by omega⟩
      have hstep : getF (m + 1) sk = ((Pk.numV sk 1099511627776 : Int) :: (getF m (Pk.numS sk 1099511627776)).1, (getF m (Pk.numS sk 1099511627776)).2) := rfl
      have hq := HQ.out
      rw [hm1, hstep] at hq
      obtain ⟨x, ex⟩ : ∃ x, Pk.numV sk 1099511627776 = x := ⟨_, rfl⟩
      obtain ⟨t, et⟩ : ∃ x, Pk.numS sk 1099511627776 = x := ⟨_, rfl⟩
      rw [ex, et] at hq
      have HC := Lib.hid (rnum_is wr b sk 1099511627776 HS.out.r x t ex et)
      have hmk : n - (k + 1) = m := by omega
      have HQN : Hid (getF n s1 = ((acc ++ [(x : Int)]) ++ (getF (n - (k + 1)) t).1, (getF (n - (k + 1)) t).2)) := Lib.hid (by rw [hmk, hq]; simp)
      clear hq hstep ex et hm1 hmk HQ
      have x0 : wr.cell? ⟨g, 0, none⟩ = some (.pointer (some ⟨b, 0, none⟩)) := HK.out.cell 0
      go_wp2_with (first
        | (go_at_call 81; refine HC.out.mono ?_; rintro en w1 ⟨rfl, hr2, hb2⟩
           have b1 : Below w1.heap.size w1 (w1.alloc (.cells #[.int .i64 (x : Int)] 3)) := (Below.refl _ _).alloc (Nat.le_refl _) _
           have HS2 := Lib.hid ((HS.out.call hr2 hb2).below b1)
           have HK2 := Lib.hid ((HK.out.grown hb2 (by simpa using hgb)).below b1)
           have hv1 := ownsRow_below (own_old HO.out hb2 (Old.some HBL.out)) b1
           have hsz : w.heap.size ≤ (w1.alloc (.cells #[.int .i64 (x : Int)] 3)).heap.size := HS2.out.size)
        | (at_builtin
           refine wpList_append_at w.heap.size hsz cellI (.tmp 14) (.tmp 18) rfl (by rfl) rfl hv1 rfl (Rd.oneV _ _ _) (by intro u hu; simp at hu; subst hu; rfl) (by omega) (by omega) ?_
           intro A3 c3 w3 hown3 hg3)
        | fail)
      go_roundw
      case rel =>
        refine ⟨k + 1, A3, c3, acc ++ [(x : Int)], t, by omega, by go_num, rfl, Lib.hid (HS2.out.row hv1 (by decide) (by decide) hg3), Lib.hid (HK2.out.apart_own hv1 (by decide) hg3), Lib.hid ?_, HQN⟩
        unfold OwnI
        rw [iv_snocR]
        exact hown3
      case measure => simp only [intOf]; omega
    · have hq := HQ.out
      have hnk : n - k = 0 := by omega
      rw [hnk, show getF 0 sk = ([], sk) from rfl, List.append_nil, HQ0.out] at hq
      injection hq with h1 h2
      subst h1 h2
      have hlen : R.length = k := ownI_len HO.out
      subst hlen
      go_wp2_with fail
      go_ret
      exact ⟨A1, c1, rfl, HO.out, HS.out.r, HS.out.only⟩
end Go.Proofs.Ytmdkbmafkglhdaa

