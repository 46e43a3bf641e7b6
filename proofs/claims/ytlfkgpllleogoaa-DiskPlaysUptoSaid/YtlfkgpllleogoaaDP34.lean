/- DiskLatest -/
import Derived.Test.YtlfkgpllleogoaaDP22
import Derived.Test.YtlfkgpllleogoaaDP33
import Derived.Deep.RegionHeld3
import Derived.Deep.RegionLaw
namespace Go.Proofs.Ytlfkgpllleogoaa
open Go.RowKit
set_option linter.unusedVariables false
abbrev slotZ : Array Value := #[.int .i64 0, .int .i64 0, .int .i64 0, .int .i64 0, .bool false]
/-- the slots and frame of latest's first region -/
def frameL (A1 A2 : Option Addr) (n1 c1 n2 c2 g1 g2 : Nat) (U : Nat → Value) : Act := { tmps := #[.agg #[.slice A1 n1 c1, .slice A2 n2 c2], .pointer (some ⟨g1, 0, none⟩), .pointer (some ⟨g2, 0, none⟩), .bool false, U 4, U 5, U 6, U 7, U 8, U 9, U 10, U 11, undef, undef, undef, undef, undef, undef, undef, undef, undef, undef, undef, undef, undef, undef, undef, undef], defers := [] }
def dstL (i : Nat) : Option Nat := ([some 6, some 7, some 8, some 9, some 10, some 11, some 4, some 5, none, none] : List (Option Nat)).getD i none
def depsL (i : Nat) : List Nat := ([[], [0], [1], [], [3], [4], [], [], [6, 2], [7, 5]] : List (List Nat)).getD i []
/-- what the six values are -/
def valL (A1 A2 : Option Addr) (n1 c1 n2 c2 g1 : Nat) (ca cb : Array Value) (i : Nat) : Value :=
  ([.pointer (some ⟨g1, 0, none⟩), .slice A1 n1 c1, .agg ca, .pointer (some ⟨g1, 1, none⟩), .slice A2 n2 c2, .agg cb] : List Value).getD i undef
def slL (i : Nat) : Nat := ([6, 7, 8, 9, 10, 11] : List Nat).getD i 0
/-- the invariant -/
structure JL (w0 : World) (vals : Nat → Value) (ca cb : Array Value) (L : Nat → Bool) (U : Nat → Value) (w : World) : Prop where
  below : Below w0.heap.size w0 w
  val : ∀ i, i < 6 → L i = true → U (slL i) = vals i
  b4 : L 6 = true → ∃ g, U 4 = .pointer (some ⟨g, 0, none⟩) ∧ w0.heap.size ≤ g ∧ Blk w g 84 (if L 8 = true then ca else slotZ)
  b5 : L 7 = true → ∃ g, U 5 = .pointer (some ⟨g, 0, none⟩) ∧ w0.heap.size ≤ g ∧ Blk w g 84 (if L 9 = true then cb else slotZ)
  ne : L 6 = true → L 7 = true → U 4 ≠ U 5
  d8 : L 8 = true → L 6 = true
  d9 : L 9 = true → L 7 = true
section
variable {w0 w w' : World} {vals : Nat → Value} {ca cb : Array Value} {L : Nat → Bool} {U : Nat → Value}
theorem JL.value (h : JL w0 vals ca cb L U w) {i d : Nat} {v : Value} (hi : i < 6) (hd : d = slL i) (hv : v = vals i) (hb : Below w.heap.size w w') : JL w0 vals ca cb (setJ L i) (updJ (some d) U v) w' := by
  subst hd
  have h45 : slL i ≠ 4 ∧ slL i ≠ 5 := by
    have : ∀ i, i < 6 → slL i ≠ 4 ∧ slL i ≠ 5 := by decide
    exact this i hi
  have e : ∀ k, 6 ≤ k → setJ L i k = L k := fun k hk => setJ_ne (by omega)
  have u : ∀ k, k ≠ slL i → updJ (some (slL i)) U v k = U k := fun k hk => if_neg hk
  refine ⟨h.below.trans (hb.mono h.below.size), fun j hj hl => ?_, fun hl => ?_, fun hl => ?_, fun hl hl2 => ?_, fun hl => ?_, fun hl => ?_⟩
  · by_cases hji : j = i
    · subst hji
      show (if slL j = slL j then v else _) = _
      rw [if_pos rfl, hv]
    · have hne : slL j ≠ slL i := by
        have : ∀ i, i < 6 → ∀ j, j < 6 → slL j = slL i → j = i := by decide
        exact fun q => hji (this i hi j hj q)
      rw [u _ hne]
      rw [setJ_ne hji] at hl
      exact h.val j hj hl
  · rw [e 6 (by omega)] at hl
    obtain ⟨g, h1, h2, h3⟩ := h.b4 hl
    rw [e 8 (by omega), u 4 h45.1.symm]
    exact ⟨g, h1, h2, h3.below hb⟩
  · rw [e 7 (by omega)] at hl
    obtain ⟨g, h1, h2, h3⟩ := h.b5 hl
    rw [e 9 (by omega), u 5 h45.2.symm]
    exact ⟨g, h1, h2, h3.below hb⟩
  · rw [e 6 (by omega)] at hl
    rw [e 7 (by omega)] at hl2
    rw [u 4 h45.1.symm, u 5 h45.2.symm]
    exact h.ne hl hl2
  · rw [e 8 (by omega)] at hl
    rw [e 6 (by omega)]
    exact h.d8 hl
  · rw [e 9 (by omega)] at hl
    rw [e 7 (by omega)]
    exact h.d9 hl
theorem JL.new4 (h : JL w0 vals ca cb L U w) (h6 : L 6 = false) : JL w0 vals ca cb (setJ L 6) (updJ (some 4) U (.pointer (some ⟨w.heap.size, 0, none⟩))) (w.alloc (.cells slotZ 84)) := by
  have hb : Below w.heap.size w (w.alloc (.cells slotZ 84)) := (Below.refl _ _).alloc (Nat.le_refl _) _
  have e : ∀ k, k ≠ 6 → setJ L 6 k = L k := fun k hk => setJ_ne hk
  have u : ∀ k, k ≠ 4 → updJ (some 4) U (.pointer (some ⟨w.heap.size, 0, none⟩)) k = U k := fun k hk => if_neg hk
  have u4 : updJ (some 4) U (.pointer (some ⟨w.heap.size, 0, none⟩)) 4 = .pointer (some ⟨w.heap.size, 0, none⟩) := by simp [updJ]
  refine ⟨h.below.trans (hb.mono h.below.size), fun j hj hl => ?_, fun hl => ?_, fun hl => ?_, fun hl hl2 => ?_, fun hl => ?_, fun hl => ?_⟩
  · rw [e j (by omega)] at hl
    have : ∀ j, j < 6 → slL j ≠ 4 := by decide
    rw [u _ (this j hj)]
    exact h.val j hj hl
  · have h8 : L 8 = false := by
      cases q : L 8 with
      | false => rfl
      | true => have := h.d8 q; rw [h6] at this; cases this
    rw [e 8 (by omega), h8, u4]
    exact ⟨_, rfl, h.below.size, Blk.new _ _ _⟩
  · rw [e 7 (by omega)] at hl
    obtain ⟨g, h1, h2, h3⟩ := h.b5 hl
    rw [e 9 (by omega), u 5 (by omega)]
    exact ⟨g, h1, h2, h3.below hb⟩
  · rw [e 7 (by omega)] at hl2
    obtain ⟨g, h1, h2, h3⟩ := h.b5 hl2
    rw [u4, u 5 (by omega), h1]
    intro q
    injection q with q
    injection q with q
    injection q with q
    have := h3.lt
    omega
  · exact setJ_self _ _
  · rw [e 9 (by omega)] at hl
    rw [e 7 (by omega)]
    exact h.d9 hl
theorem JL.new5 (h : JL w0 vals ca cb L U w) (h7 : L 7 = false) : JL w0 vals ca cb (setJ L 7) (updJ (some 5) U (.pointer (some ⟨w.heap.size, 0, none⟩))) (w.alloc (.cells slotZ 84)) := by
  have hb : Below w.heap.size w (w.alloc (.cells slotZ 84)) := (Below.refl _ _).alloc (Nat.le_refl _) _
  have e : ∀ k, k ≠ 7 → setJ L 7 k = L k := fun k hk => setJ_ne hk
  have u : ∀ k, k ≠ 5 → updJ (some 5) U (.pointer (some ⟨w.heap.size, 0, none⟩)) k = U k := fun k hk => if_neg hk
  have u5 : updJ (some 5) U (.pointer (some ⟨w.heap.size, 0, none⟩)) 5 = .pointer (some ⟨w.heap.size, 0, none⟩) := by simp [updJ]
  refine ⟨h.below.trans (hb.mono h.below.size), fun j hj hl => ?_, fun hl => ?_, fun hl => ?_, fun hl hl2 => ?_, fun hl => ?_, fun hl => ?_⟩
  · rw [e j (by omega)] at hl
    have : ∀ j, j < 6 → slL j ≠ 5 := by decide
    rw [u _ (this j hj)]
    exact h.val j hj hl
  · rw [e 6 (by omega)] at hl
    obtain ⟨g, h1, h2, h3⟩ := h.b4 hl
    rw [e 8 (by omega), u 4 (by omega)]
    exact ⟨g, h1, h2, h3.below hb⟩
  · have h9 : L 9 = false := by
      cases q : L 9 with
      | false => rfl
      | true => have := h.d9 q; rw [h7] at this; cases this
    rw [e 9 (by omega), h9, u5]
    exact ⟨_, rfl, h.below.size, Blk.new _ _ _⟩
  · rw [e 6 (by omega)] at hl
    obtain ⟨g, h1, h2, h3⟩ := h.b4 hl
    rw [u5, u 4 (by omega), h1]
    intro q
    injection q with q
    injection q with q
    injection q with q
    have := h3.lt
    omega
  · rw [e 8 (by omega)] at hl
    rw [e 6 (by omega)]
    exact h.d8 hl
  · exact setJ_self _ _
theorem JL.put4 (h : JL w0 vals ca cb L U w) (h6 : L 6 = true) {g : Nat} (hg : U 4 = .pointer (some ⟨g, 0, none⟩)) : JL w0 vals ca cb (setJ L 8) (updJ none U undef) (w.setRow g ca) := by
  have e : ∀ k, k ≠ 8 → setJ L 8 k = L k := fun k hk => setJ_ne hk
  have e8 : setJ L 8 8 = true := setJ_self _ _
  obtain ⟨g', h1, h2, h3⟩ := h.b4 h6
  rw [hg] at h1
  injection h1 with h1
  injection h1 with h1
  injection h1 with h1
  subst h1
  refine ⟨below_setRow h.below h2 _, fun j hj hl => ?_, fun hl => ?_, fun hl => ?_, fun hl hl2 => ?_, fun hl => ?_, fun hl => ?_⟩
  · rw [e j (by omega)] at hl
    exact h.val j hj hl
  · rw [e8, if_pos rfl]
    exact ⟨g, hg, h2, h3.row _⟩
  · rw [e 7 (by omega)] at hl
    obtain ⟨g5, k1, k2, k3⟩ := h.b5 hl
    rw [e 9 (by omega)]
    refine ⟨g5, k1, k2, k3.row_other (fun q => h.ne h6 hl ?_) _⟩
    rw [hg, k1, q]
  · rw [e 6 (by omega)] at hl
    rw [e 7 (by omega)] at hl2
    exact h.ne hl hl2
  · rw [e 6 (by omega)]
    exact h6
  · rw [e 9 (by omega)] at hl
    rw [e 7 (by omega)]
    exact h.d9 hl
theorem JL.put5 (h : JL w0 vals ca cb L U w) (h7 : L 7 = true) {g : Nat} (hg : U 5 = .pointer (some ⟨g, 0, none⟩)) : JL w0 vals ca cb (setJ L 9) (updJ none U undef) (w.setRow g cb) := by
  have e : ∀ k, k ≠ 9 → setJ L 9 k = L k := fun k hk => setJ_ne hk
  have e9 : setJ L 9 9 = true := setJ_self _ _
  obtain ⟨g', h1, h2, h3⟩ := h.b5 h7
  rw [hg] at h1
  injection h1 with h1
  injection h1 with h1
  injection h1 with h1
  subst h1
  refine ⟨below_setRow h.below h2 _, fun j hj hl => ?_, fun hl => ?_, fun hl => ?_, fun hl hl2 => ?_, fun hl => ?_, fun hl => ?_⟩
  · rw [e j (by omega)] at hl
    exact h.val j hj hl
  · rw [e 6 (by omega)] at hl
    obtain ⟨g4, k1, k2, k3⟩ := h.b4 hl
    rw [e 8 (by omega)]
    refine ⟨g4, k1, k2, k3.row_other (fun q => h.ne hl h7 ?_) _⟩
    rw [hg, k1, q]
  · rw [e9, if_pos rfl]
    exact ⟨g, hg, h2, h3.row _⟩
  · rw [e 6 (by omega)] at hl
    rw [e 7 (by omega)] at hl2
    exact h.ne hl hl2
  · rw [e 8 (by omega)] at hl
    rw [e 6 (by omega)]
    exact h.d8 hl
  · rw [e 7 (by omega)]
    exact h7
end
/-- two slots, and which of them is taken -/
def GotLat (W w : World) (r : Option Dk.Rc × Bool) (e : Ending) (w' : World) : Prop := e = .returned (.tuple #[.agg (slotC r.1), .bool r.2]) ∧ Below W.heap.size W w' ∧ Below w.heap.size w w'
-- latest
set_option maxHeartbeats 4000000 in
set_option maxRecDepth 100000 in
theorem dlatest_raw {w : World} {A1 A2 : Option Addr} {n1 c1 n2 c2 B1 B2 : Nat} {a b : List Nat} (ha : Dk.Fine a) (hb : Dk.Fine b) (hc1 : n1 ≤ c1) (hc2 : n2 ≤ c2) (h1 : Rd w B1 A1 n1 (bv a)) (h2 : Rd w B2 A2 n2 (bv b)) :
    Calls Try.prog 56 #[.agg #[.slice A1 n1 c1, .slice A2 n2 c2]] w (GotLat w w (Dk.pick (Dk.parse a) (Dk.parse b))) := by
  obtain ⟨RA, hRA⟩ : ∃ x, Dk.parse a = x := ⟨_, rfl⟩
  obtain ⟨RB, hRB⟩ : ∃ x, Dk.parse b = x := ⟨_, rfl⟩
  obtain ⟨g1, hg1⟩ : ∃ g, w.heap.size = g := ⟨_, rfl⟩
  obtain ⟨g2, hg2⟩ : ∃ g, w.heap.size + 1 = g := ⟨_, rfl⟩
  obtain ⟨wz, hwz⟩ : ∃ x, (w.alloc (.cells #[.slice A1 n1 c1, .slice A2 n2 c2] 44)).alloc (.cells slotZ 84) = x := ⟨_, rfl⟩
  have bb : Below w.heap.size w wz := by rw [← hwz]; exact ((Below.refl _ _).alloc (Nat.le_refl _) _).alloc (by simp) _
  have k1 : Blk wz g1 44 #[.slice A1 n1 c1, .slice A2 n2 c2] := by rw [← hwz, ← hg1]; exact (Blk.new _ _ _).alloc _
  have k2 : Blk wz g2 84 slotZ := by
    rw [← hwz, ← hg2]
    have := Blk.new (w.alloc (.cells #[.slice A1 n1 c1, .slice A2 n2 c2] 44)) 84 slotZ
    rw [World.size_alloc] at this
    exact this
  have hgl : w.heap.size ≤ g2 := by omega
  have hgz : g2 < wz.heap.size := k2.lt
  have HKF : Hid (∀ wx, Below wz.heap.size wz wx → Blk wx g1 44 #[.slice A1 n1 c1, .slice A2 n2 c2]) := Lib.hid (fun wx hb => k1.below hb)
  have HK2 : Hid (∀ wx, Below wz.heap.size wz wx → Blk wx g2 84 slotZ) := Lib.hid (fun wx hb => k2.below hb)
  have CA : Hid (∀ wx, Below wz.heap.size wz wx → Calls Try.prog 73 #[.slice A1 n1 c1] wx (GotS wz wx RA)) := Lib.hid fun wx hx => dparse hRA ha.1 ha.2 hc1 ((h1.fit.below bb).fit.below ((hx.mono (Nat.le_refl _)))) hx
  have CB : Hid (∀ wx, Below wz.heap.size wz wx → Calls Try.prog 73 #[.slice A2 n2 c2] wx (GotS wz wx RB)) := Lib.hid fun wx hx => dparse hRB hb.1 hb.2 hc2 ((h2.fit.below bb).fit.below ((hx.mono (Nat.le_refl _)))) hx
  have HEND : Hid (∀ wx cs, Below wz.heap.size wz wx → Below w.heap.size w (wx.setRow g2 cs)) := Lib.hid fun wx cs hx => below_setRow (bb.trans (hx.mono bb.size)) hgl _
  have HWZ := Lib.hid hwz
  have HG1 := Lib.hid hg1
  have HG2 := Lib.hid hg2
  have HGZ := Lib.hid hgz
  rw [hRA, hRB]
  clear ha hb hc1 hc2 h1 h2 hRA hRB bb k1 k2 hgl hgz hwz hg1 hg2
  go_enter Try.func56, Try.ntmps56
  go_upto_region 1 with fail
  rw [HG2.out, HG1.out, HWZ.out]
  clear HWZ HG1 HG2
  go_cut [4, 5] from 6 to 11 (fun s4 s5 wx => ∃ g4 g5 : Nat, s4 = .pointer (some ⟨g4, 0, none⟩) ∧ s5 = .pointer (some ⟨g5, 0, none⟩) ∧ Hid (Blk wx g4 84 (slotC RA)) ∧ Hid (Blk wx g5 84 (slotC RB)) ∧ Hid (Below wz.heap.size wz wx))
  case first =>
   refine region_J (U0 := fun _ => undef) (frameL A1 A2 n1 c1 n2 c2 g1 g2) dstL depsL (JL wz (valL A1 A2 n1 c1 n2 c2 g1 (slotC RA) (slotC RB)) (slotC RA) (slotC RB)) (by kernel_rfl) (by kernel_rfl) ?dst ?deps ?put ?h0 ?hok ?done
   case dst => exact all_ops (AllFrom.cons rfl (AllFrom.cons rfl (AllFrom.cons rfl (AllFrom.cons rfl (AllFrom.cons rfl (AllFrom.cons rfl (AllFrom.cons rfl (AllFrom.cons rfl (AllFrom.cons rfl (AllFrom.cons rfl AllFrom.nil))))))))))
   case deps =>
     have q : ∀ {md : Region.Mode} {ops : Array Oper} {deps : Nat → List Nat} (h : ((List.range ops.size).all fun i => (deps i).all fun j => Region.waitsFor md ops i j) = true), ∀ i, i < ops.size → ∀ j ∈ deps i, Region.waitsFor md ops i j = true := by
       intro md ops deps h i hi j hj
       exact List.all_eq_true.1 (List.all_eq_true.1 h i (List.mem_range.2 hi)) j hj
     exact q (by kernel_rfl)
   case put => exact all_ops (AllFrom.cons (fun U v => rfl) (AllFrom.cons (fun U v => rfl) (AllFrom.cons (fun U v => rfl) (AllFrom.cons (fun U v => rfl) (AllFrom.cons (fun U v => rfl) (AllFrom.cons (fun U v => rfl) (AllFrom.cons (fun U v => rfl) (AllFrom.cons (fun U v => rfl) (AllFrom.cons (fun U v => rfl) (AllFrom.cons (fun U v => rfl) AllFrom.nil))))))))))
   case h0 =>
     have hd : Below wz.heap.size wz wz.drew := (Below.refl _ _).trans ⟨rfl, rfl, rfl, Nat.le_refl _, fun _ _ => rfl⟩
     exact ⟨hd, fun i hi h => (by cases h), fun h => (by cases h), fun h => (by cases h), fun h => (by cases h), fun h => (by cases h), fun h => (by cases h)⟩
   case hok =>
     refine all_ops (AllFrom.cons ?s0 (AllFrom.cons ?s1 (AllFrom.cons ?s2 (AllFrom.cons ?s3 (AllFrom.cons ?s4 (AllFrom.cons ?s5 (AllFrom.cons ?s6 (AllFrom.cons ?s7 (AllFrom.cons ?s8 (AllFrom.cons ?s9 AllFrom.nil))))))))))
     case s0 =>
       intro L U wx hJ hni hdep K hK
       have e1 : (frameL A1 A2 n1 c1 n2 c2 g1 g2 U).tmps[1]?.getD undef = .pointer (some ⟨g1, 0, none⟩) := by kernel_rfl
       have hk := HKF.out wx hJ.below
       have hc0 : wx.cell? ⟨g1, 0, none⟩ = some (.slice A1 n1 c1) := hk.cell 0
       generalize frameL A1 A2 n1 c1 n2 c2 g1 g2 U = fr at e1 hK ⊢
       go_simp
       exact hK.out _ _ (hJ.value (i := 0) (by decide) rfl rfl (Below.refl _ _))
     case s1 =>
       intro L U wx hJ hni hdep K hK
       have e6 : (frameL A1 A2 n1 c1 n2 c2 g1 g2 U).tmps[6]?.getD undef = .pointer (some ⟨g1, 0, none⟩) := by rw [← (show U 6 = .pointer (some ⟨g1, 0, none⟩) from hJ.val 0 (by decide) (hdep 0 (by decide)))]; kernel_rfl
       have hk := HKF.out wx hJ.below
       have hc0 : wx.cell? ⟨g1, 0, none⟩ = some (.slice A1 n1 c1) := hk.cell 0
       generalize frameL A1 A2 n1 c1 n2 c2 g1 g2 U = fr at e6 hK ⊢
       go_simp
       exact hK.out _ _ (hJ.value (i := 1) (by decide) rfl rfl (Below.refl _ _))
     case s2 =>
       intro L U wx hJ hni hdep K hK
       have e7 : (frameL A1 A2 n1 c1 n2 c2 g1 g2 U).tmps[7]?.getD undef = .slice A1 n1 c1 := by rw [← (show U 7 = .slice A1 n1 c1 from hJ.val 1 (by decide) (hdep 1 (by decide)))]; kernel_rfl
       generalize frameL A1 A2 n1 c1 n2 c2 g1 g2 U = fr at e7 hK ⊢
       go_simp
       refine (CA.out wx hJ.below).mono ?_
       rintro en w3 ⟨rfl, hb1, hb2⟩
       go_simp
       exact hK.out _ _ (hJ.value (i := 2) (by decide) rfl rfl hb2)
     case s3 =>
       intro L U wx hJ hni hdep K hK
       have e1 : (frameL A1 A2 n1 c1 n2 c2 g1 g2 U).tmps[1]?.getD undef = .pointer (some ⟨g1, 0, none⟩) := by kernel_rfl
       have hk := HKF.out wx hJ.below
       have hc0 : wx.cell? ⟨g1, 1, none⟩ = some (.slice A2 n2 c2) := hk.cell 1
       generalize frameL A1 A2 n1 c1 n2 c2 g1 g2 U = fr at e1 hK ⊢
       go_simp
       exact hK.out _ _ (hJ.value (i := 3) (by decide) rfl rfl (Below.refl _ _))
     case s4 =>
       intro L U wx hJ hni hdep K hK
       have e9 : (frameL A1 A2 n1 c1 n2 c2 g1 g2 U).tmps[9]?.getD undef = .pointer (some ⟨g1, 1, none⟩) := by rw [← (show U 9 = .pointer (some ⟨g1, 1, none⟩) from hJ.val 3 (by decide) (hdep 3 (by decide)))]; kernel_rfl
       have hk := HKF.out wx hJ.below
       have hc0 : wx.cell? ⟨g1, 1, none⟩ = some (.slice A2 n2 c2) := hk.cell 1
       generalize frameL A1 A2 n1 c1 n2 c2 g1 g2 U = fr at e9 hK ⊢
       go_simp
       exact hK.out _ _ (hJ.value (i := 4) (by decide) rfl rfl (Below.refl _ _))
     case s5 =>
       intro L U wx hJ hni hdep K hK
       have e10 : (frameL A1 A2 n1 c1 n2 c2 g1 g2 U).tmps[10]?.getD undef = .slice A2 n2 c2 := by rw [← (show U 10 = .slice A2 n2 c2 from hJ.val 4 (by decide) (hdep 4 (by decide)))]; kernel_rfl
       generalize frameL A1 A2 n1 c1 n2 c2 g1 g2 U = fr at e10 hK ⊢
       go_simp
       refine (CB.out wx hJ.below).mono ?_
       rintro en w3 ⟨rfl, hb1, hb2⟩
       go_simp
       exact hK.out _ _ (hJ.value (i := 5) (by decide) rfl rfl hb2)
     case s6 =>
       intro L U wx hJ hni hdep K hK
       generalize frameL A1 A2 n1 c1 n2 c2 g1 g2 U = fr at hK ⊢
       go_simp
       exact hK.out _ _ (hJ.new4 hni)
     case s7 =>
       intro L U wx hJ hni hdep K hK
       generalize frameL A1 A2 n1 c1 n2 c2 g1 g2 U = fr at hK ⊢
       go_simp
       exact hK.out _ _ (hJ.new5 hni)
     case s8 =>
       intro L U wx hJ hni hdep K hK
       obtain ⟨g, hg, hgl, hk⟩ := hJ.b4 (hdep 6 (by decide))
       rw [hni, if_neg (by decide)] at hk
       have hv : U 8 = .agg (slotC RA) := hJ.val 2 (by decide) (hdep 2 (by decide))
       refine wp_store_row 84 (.tmp 4) (.tmp 8) rfl g (slotC RA) ((show (frameL A1 A2 n1 c1 n2 c2 g1 g2 U).eval (.tmp 4) = U 4 from by kernel_rfl).trans hg) ((show (frameL A1 A2 n1 c1 n2 c2 g1 g2 U).eval (.tmp 8) = U 8 from by kernel_rfl).trans hv) 84 slotZ hk (by kernel_rfl) rfl (by kernel_rfl) ?_
       exact hK.out _ _ (hJ.put4 (hdep 6 (by decide)) hg)
     case s9 =>
       intro L U wx hJ hni hdep K hK
       obtain ⟨g, hg, hgl, hk⟩ := hJ.b5 (hdep 7 (by decide))
       rw [hni, if_neg (by decide)] at hk
       have hv : U 11 = .agg (slotC RB) := hJ.val 5 (by decide) (hdep 5 (by decide))
       refine wp_store_row 84 (.tmp 5) (.tmp 11) rfl g (slotC RB) ((show (frameL A1 A2 n1 c1 n2 c2 g1 g2 U).eval (.tmp 5) = U 5 from by kernel_rfl).trans hg) ((show (frameL A1 A2 n1 c1 n2 c2 g1 g2 U).eval (.tmp 11) = U 11 from by kernel_rfl).trans hv) 84 slotZ hk (by kernel_rfl) rfl (by kernel_rfl) ?_
       exact hK.out _ _ (hJ.put5 (hdep 7 (by decide)) hg)
   case done =>
     intro L U wf hall hJ
     have hl : ∀ i, i < 10 → L i = true := hall
     obtain ⟨g4, hg4, hl4, hk4⟩ := hJ.b4 (hl 6 (by decide))
     obtain ⟨g5, hg5, hl5, hk5⟩ := hJ.b5 (hl 7 (by decide))
     rw [hl 8 (by decide), if_pos rfl] at hk4
     rw [hl 9 (by decide), if_pos rfl] at hk5
     unfold frameL
     rw [hg4, hg5]
     have HB9 := Lib.hid hJ.below
     have HK4 := Lib.hid hk4
     have HK5 := Lib.hid hk5
     clear hall hJ hl hg4 hg5 hl4 hl5 hk4 hk5 HK2 HKF CA CB
     go_wp2_with fail
     go_meet
     exact ⟨g4, g5, rfl, rfl, HK4, HK5, HB9⟩
  case rest =>
    obtain ⟨g4, g5, rfl, rfl, HK4, HK5, HBW⟩ := hcut
    rename World => wf
    have HK2W := Lib.hid (HK2.out wf HBW.out)
    clear HK2 HKF CA CB HGZ
    cases RB with
    | none =>
      cases RA with
      | none =>
        have ea : slotC none = #[.int .i64 0, .int .i64 0, .int .i64 0, .int .i64 0, .bool false] := rfl
        have eb : slotC none = #[.int .i64 0, .int .i64 0, .int .i64 0, .int .i64 0, .bool false] := rfl
        have HEA := Lib.hid ea
        have HEB := Lib.hid eb
        rw [ea] at HK4
        rw [eb] at HK5
        clear ea eb
        have HP : Hid (Dk.pick none none = (none, false)) := Lib.hid rfl
        have p0 : wf.cell? ⟨g4, 0, none⟩ = some (.int .i64 0) := HK4.out.cell 0
        have p4 : wf.cell? ⟨g4, 4, none⟩ = some (.bool false) := HK4.out.cell 4
        have q0 : wf.cell? ⟨g5, 0, none⟩ = some (.int .i64 0) := HK5.out.cell 0
        have q4 : wf.cell? ⟨g5, 4, none⟩ = some (.bool false) := HK5.out.cell 4
        have hres : GotLat w w (none, false) (.returned (.tuple #[.agg #[.int .i64 0, .int .i64 0, .int .i64 0, .int .i64 0, .bool false], .bool false])) (wf.setRow g2 #[.int .i64 0, .int .i64 0, .int .i64 0, .int .i64 0, .bool false]) := ⟨by rw [show slotC none = #[.int .i64 0, .int .i64 0, .int .i64 0, .int .i64 0, .bool false] from HEA.out], HEND.out _ _ HBW.out, HEND.out _ _ HBW.out⟩
        go_upto_region 4 with fail
        go_wp2_with (first
          | (refine wpList_load_row rfl 84 (.tmp 4) rfl g4 rfl 84 #[.int .i64 0, .int .i64 0, .int .i64 0, .int .i64 0, .bool false] (0, 0) _ HK4.out Try.underlying84 rfl (by kernel_rfl) ?_)
          | (refine wpList_store_row rfl 84 (.tmp 2) (.tmp 27) rfl g2 #[.int .i64 0, .int .i64 0, .int .i64 0, .int .i64 0, .bool false] rfl rfl 84 slotZ HK2W.out (by kernel_rfl) rfl (by kernel_rfl) ?_)
          | fail)
        refine bodyPost_ret (results_cell_tmp rfl _ _ _ _ _ _ rfl (HK2W.out.row #[.int .i64 0, .int .i64 0, .int .i64 0, .int .i64 0, .bool false]) Try.underlying84 rfl (by kernel_rfl)) rfl ?_
        rw [HP.out]
        exact hres
      | some x =>
        have ea : slotC (some x) = #[.int .i64 (x.n : Nat), .int .i64 (x.i : Nat), .int .i64 (x.p : Nat), .int .i64 (x.q : Nat), .bool true] := rfl
        have eb : slotC none = #[.int .i64 0, .int .i64 0, .int .i64 0, .int .i64 0, .bool false] := rfl
        have HEA := Lib.hid ea
        have HEB := Lib.hid eb
        rw [ea] at HK4
        rw [eb] at HK5
        clear ea eb
        have HP : Hid (Dk.pick (some x) none = ((some x), false)) := Lib.hid rfl
        have p0 : wf.cell? ⟨g4, 0, none⟩ = some (.int .i64 (x.n : Nat)) := HK4.out.cell 0
        have p4 : wf.cell? ⟨g4, 4, none⟩ = some (.bool true) := HK4.out.cell 4
        have q0 : wf.cell? ⟨g5, 0, none⟩ = some (.int .i64 0) := HK5.out.cell 0
        have q4 : wf.cell? ⟨g5, 4, none⟩ = some (.bool false) := HK5.out.cell 4
        have hres : GotLat w w ((some x), false) (.returned (.tuple #[.agg #[.int .i64 (x.n : Nat), .int .i64 (x.i : Nat), .int .i64 (x.p : Nat), .int .i64 (x.q : Nat), .bool true], .bool false])) (wf.setRow g2 #[.int .i64 (x.n : Nat), .int .i64 (x.i : Nat), .int .i64 (x.p : Nat), .int .i64 (x.q : Nat), .bool true]) := ⟨by rw [show slotC (some x) = #[.int .i64 (x.n : Nat), .int .i64 (x.i : Nat), .int .i64 (x.p : Nat), .int .i64 (x.q : Nat), .bool true] from HEA.out], HEND.out _ _ HBW.out, HEND.out _ _ HBW.out⟩
        go_upto_region 4 with fail
        go_wp2_with (first
          | (refine wpList_load_row rfl 84 (.tmp 4) rfl g4 rfl 84 #[.int .i64 (x.n : Nat), .int .i64 (x.i : Nat), .int .i64 (x.p : Nat), .int .i64 (x.q : Nat), .bool true] (0, 0) _ HK4.out Try.underlying84 rfl (by kernel_rfl) ?_)
          | (refine wpList_store_row rfl 84 (.tmp 2) (.tmp 27) rfl g2 #[.int .i64 (x.n : Nat), .int .i64 (x.i : Nat), .int .i64 (x.p : Nat), .int .i64 (x.q : Nat), .bool true] rfl rfl 84 slotZ HK2W.out (by kernel_rfl) rfl (by kernel_rfl) ?_)
          | fail)
        refine bodyPost_ret (results_cell_tmp rfl _ _ _ _ _ _ rfl (HK2W.out.row #[.int .i64 (x.n : Nat), .int .i64 (x.i : Nat), .int .i64 (x.p : Nat), .int .i64 (x.q : Nat), .bool true]) Try.underlying84 rfl (by kernel_rfl)) rfl ?_
        rw [HP.out]
        exact hres
    | some y =>
      cases RA with
      | none =>
        have ea : slotC none = #[.int .i64 0, .int .i64 0, .int .i64 0, .int .i64 0, .bool false] := rfl
        have eb : slotC (some y) = #[.int .i64 (y.n : Nat), .int .i64 (y.i : Nat), .int .i64 (y.p : Nat), .int .i64 (y.q : Nat), .bool true] := rfl
        have HEA := Lib.hid ea
        have HEB := Lib.hid eb
        rw [ea] at HK4
        rw [eb] at HK5
        clear ea eb
        have HP : Hid (Dk.pick none (some y) = ((some y), true)) := Lib.hid rfl
        have p0 : wf.cell? ⟨g4, 0, none⟩ = some (.int .i64 0) := HK4.out.cell 0
        have p4 : wf.cell? ⟨g4, 4, none⟩ = some (.bool false) := HK4.out.cell 4
        have q0 : wf.cell? ⟨g5, 0, none⟩ = some (.int .i64 (y.n : Nat)) := HK5.out.cell 0
        have q4 : wf.cell? ⟨g5, 4, none⟩ = some (.bool true) := HK5.out.cell 4
        have hres : GotLat w w ((some y), true) (.returned (.tuple #[.agg #[.int .i64 (y.n : Nat), .int .i64 (y.i : Nat), .int .i64 (y.p : Nat), .int .i64 (y.q : Nat), .bool true], .bool true])) (wf.setRow g2 #[.int .i64 (y.n : Nat), .int .i64 (y.i : Nat), .int .i64 (y.p : Nat), .int .i64 (y.q : Nat), .bool true]) := ⟨by rw [show slotC (some y) = #[.int .i64 (y.n : Nat), .int .i64 (y.i : Nat), .int .i64 (y.p : Nat), .int .i64 (y.q : Nat), .bool true] from HEB.out], HEND.out _ _ HBW.out, HEND.out _ _ HBW.out⟩
        go_upto_region 3 with fail
        go_wp2_with (first
          | (refine wpList_load_row rfl 84 (.tmp 5) rfl g5 rfl 84 #[.int .i64 (y.n : Nat), .int .i64 (y.i : Nat), .int .i64 (y.p : Nat), .int .i64 (y.q : Nat), .bool true] (0, 0) _ HK5.out Try.underlying84 rfl (by kernel_rfl) ?_)
          | (refine wpList_store_row rfl 84 (.tmp 2) (.tmp 26) rfl g2 #[.int .i64 (y.n : Nat), .int .i64 (y.i : Nat), .int .i64 (y.p : Nat), .int .i64 (y.q : Nat), .bool true] rfl rfl 84 slotZ HK2W.out (by kernel_rfl) rfl (by kernel_rfl) ?_)
          | fail)
        refine bodyPost_ret (results_cell_tmp rfl _ _ _ _ _ _ rfl (HK2W.out.row #[.int .i64 (y.n : Nat), .int .i64 (y.i : Nat), .int .i64 (y.p : Nat), .int .i64 (y.q : Nat), .bool true]) Try.underlying84 rfl (by kernel_rfl)) rfl ?_
        rw [HP.out]
        exact hres
      | some x =>
        by_cases hlt : x.n < y.n
        · have hlt2 : (x.n : Int) < (y.n : Int) := by omega
          have HP : Hid (Dk.pick (some x) (some y) = (some y, true)) := Lib.hid (by unfold Dk.pick; simp only; rw [if_pos hlt])
          have ea : slotC (some x) = #[.int .i64 (x.n : Nat), .int .i64 (x.i : Nat), .int .i64 (x.p : Nat), .int .i64 (x.q : Nat), .bool true] := rfl
          have eb : slotC (some y) = #[.int .i64 (y.n : Nat), .int .i64 (y.i : Nat), .int .i64 (y.p : Nat), .int .i64 (y.q : Nat), .bool true] := rfl
          have HEA := Lib.hid ea
          have HEB := Lib.hid eb
          rw [ea] at HK4
          rw [eb] at HK5
          clear ea eb
          have p0 : wf.cell? ⟨g4, 0, none⟩ = some (.int .i64 (x.n : Nat)) := HK4.out.cell 0
          have p4 : wf.cell? ⟨g4, 4, none⟩ = some (.bool true) := HK4.out.cell 4
          have q0 : wf.cell? ⟨g5, 0, none⟩ = some (.int .i64 (y.n : Nat)) := HK5.out.cell 0
          have q4 : wf.cell? ⟨g5, 4, none⟩ = some (.bool true) := HK5.out.cell 4
          clear hlt
          have hres : GotLat w w ((some y), true) (.returned (.tuple #[.agg #[.int .i64 (y.n : Nat), .int .i64 (y.i : Nat), .int .i64 (y.p : Nat), .int .i64 (y.q : Nat), .bool true], .bool true])) (wf.setRow g2 #[.int .i64 (y.n : Nat), .int .i64 (y.i : Nat), .int .i64 (y.p : Nat), .int .i64 (y.q : Nat), .bool true]) := ⟨by rw [show slotC (some y) = #[.int .i64 (y.n : Nat), .int .i64 (y.i : Nat), .int .i64 (y.p : Nat), .int .i64 (y.q : Nat), .bool true] from HEB.out], HEND.out _ _ HBW.out, HEND.out _ _ HBW.out⟩
          go_upto_region 3 with fail
          go_wp2_with (first
            | (refine wpList_load_row rfl 84 (.tmp 5) rfl g5 rfl 84 #[.int .i64 (y.n : Nat), .int .i64 (y.i : Nat), .int .i64 (y.p : Nat), .int .i64 (y.q : Nat), .bool true] (0, 0) _ HK5.out Try.underlying84 rfl (by kernel_rfl) ?_)
            | (refine wpList_store_row rfl 84 (.tmp 2) (.tmp 26) rfl g2 #[.int .i64 (y.n : Nat), .int .i64 (y.i : Nat), .int .i64 (y.p : Nat), .int .i64 (y.q : Nat), .bool true] rfl rfl 84 slotZ HK2W.out (by kernel_rfl) rfl (by kernel_rfl) ?_)
            | fail)
          refine bodyPost_ret (results_cell_tmp rfl _ _ _ _ _ _ rfl (HK2W.out.row #[.int .i64 (y.n : Nat), .int .i64 (y.i : Nat), .int .i64 (y.p : Nat), .int .i64 (y.q : Nat), .bool true]) Try.underlying84 rfl (by kernel_rfl)) rfl ?_
          rw [HP.out]
          exact hres
        · have hlt2 : ¬ (x.n : Int) < (y.n : Int) := by omega
          have HP : Hid (Dk.pick (some x) (some y) = (some x, false)) := Lib.hid (by unfold Dk.pick; simp only; rw [if_neg hlt])
          have ea : slotC (some x) = #[.int .i64 (x.n : Nat), .int .i64 (x.i : Nat), .int .i64 (x.p : Nat), .int .i64 (x.q : Nat), .bool true] := rfl
          have eb : slotC (some y) = #[.int .i64 (y.n : Nat), .int .i64 (y.i : Nat), .int .i64 (y.p : Nat), .int .i64 (y.q : Nat), .bool true] := rfl
          have HEA := Lib.hid ea
          have HEB := Lib.hid eb
          rw [ea] at HK4
          rw [eb] at HK5
          clear ea eb
          have p0 : wf.cell? ⟨g4, 0, none⟩ = some (.int .i64 (x.n : Nat)) := HK4.out.cell 0
          have p4 : wf.cell? ⟨g4, 4, none⟩ = some (.bool true) := HK4.out.cell 4
          have q0 : wf.cell? ⟨g5, 0, none⟩ = some (.int .i64 (y.n : Nat)) := HK5.out.cell 0
          have q4 : wf.cell? ⟨g5, 4, none⟩ = some (.bool true) := HK5.out.cell 4
          clear hlt
          have hres : GotLat w w ((some x), false) (.returned (.tuple #[.agg #[.int .i64 (x.n : Nat), .int .i64 (x.i : Nat), .int .i64 (x.p : Nat), .int .i64 (x.q : Nat), .bool true], .bool false])) (wf.setRow g2 #[.int .i64 (x.n : Nat), .int .i64 (x.i : Nat), .int .i64 (x.p : Nat), .int .i64 (x.q : Nat), .bool true]) := ⟨by rw [show slotC (some x) = #[.int .i64 (x.n : Nat), .int .i64 (x.i : Nat), .int .i64 (x.p : Nat), .int .i64 (x.q : Nat), .bool true] from HEA.out], HEND.out _ _ HBW.out, HEND.out _ _ HBW.out⟩
          go_upto_region 4 with fail
          go_wp2_with (first
            | (refine wpList_load_row rfl 84 (.tmp 4) rfl g4 rfl 84 #[.int .i64 (x.n : Nat), .int .i64 (x.i : Nat), .int .i64 (x.p : Nat), .int .i64 (x.q : Nat), .bool true] (0, 0) _ HK4.out Try.underlying84 rfl (by kernel_rfl) ?_)
            | (refine wpList_store_row rfl 84 (.tmp 2) (.tmp 27) rfl g2 #[.int .i64 (x.n : Nat), .int .i64 (x.i : Nat), .int .i64 (x.p : Nat), .int .i64 (x.q : Nat), .bool true] rfl rfl 84 slotZ HK2W.out (by kernel_rfl) rfl (by kernel_rfl) ?_)
            | fail)
          refine bodyPost_ret (results_cell_tmp rfl _ _ _ _ _ _ rfl (HK2W.out.row #[.int .i64 (x.n : Nat), .int .i64 (x.i : Nat), .int .i64 (x.p : Nat), .int .i64 (x.q : Nat), .bool true]) Try.underlying84 rfl (by kernel_rfl)) rfl ?_
          rw [HP.out]
          exact hres
theorem dlatest {W w : World} {A1 A2 : Option Addr} {n1 c1 n2 c2 B1 B2 : Nat} {a b : List Nat} {r : Option Dk.Rc × Bool} (he : Dk.pick (Dk.parse a) (Dk.parse b) = r) (ha : Dk.Fine a) (hb : Dk.Fine b) (hc1 : n1 ≤ c1) (hc2 : n2 ≤ c2) (h1 : Rd w B1 A1 n1 (bv a)) (h2 : Rd w B2 A2 n2 (bv b)) (hB : Below W.heap.size W w) :
    Calls Try.prog 56 #[.agg #[.slice A1 n1 c1, .slice A2 n2 c2]] w (GotLat W w r) := by
  subst he
  exact (dlatest_raw ha hb hc1 hc2 h1 h2).mono fun e w' ⟨k1, k2, k3⟩ => ⟨k1, hB.trans (k2.mono hB.size), k3⟩
end Go.Proofs.Ytlfkgpllleogoaa

