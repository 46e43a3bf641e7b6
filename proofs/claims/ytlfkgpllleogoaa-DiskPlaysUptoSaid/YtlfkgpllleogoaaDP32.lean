/- RefDisk1 -/
import Derived.Test.YtlfkgpllleogoaaDP22
import Derived.Test.YtlfkgpllleogoaaDP25
import Derived.Test.YtlfkgpllleogoaaDP28
import Derived.Test.YtlfkgpllleogoaaDP31
import Derived.Deep.DeepCutAuto
import Derived.Deep.RegionHeld3
import Derived.Deep.RegionLaw
namespace Go.Proofs.Ytlfkgpllleogoaa
open Go.RowKit
set_option linter.unusedVariables false
theorem refdheld (n : Int) (w : World) :
    Calls Try.prog 62 #[.int .i64 n] w fun e w' => e = .returned (.int .i64 (Dk.held n : Nat)) ∧ w = w' := by
  have h1 := fun (w : World) ts t => run_max0 (P := Try.prog) w ts t n
  have h2 := fun (w : World) ts t => run_min_far (P := Try.prog) w ts t n
  go_enter Try.func62, Try.ntmps62
  go_wp2
  go_ret
  exact ⟨rfl, rfl⟩
theorem refNums_d {W w : World} {A A' : Option Addr} {c n n' c' B' : Nat} {l L : List Nat} {zs : List Int} (hn0 : n = l.length) (hL : l ++ Pk.encs zs = L) (ho : OwnB W w A l.length c l) (h : Rd w B' A' n' (iv zs)) (hl : l.length ≤ 1000000) (hn : n' ≤ 1000) (hB : Below W.heap.size W w) :
    Calls Try.prog 36 #[.slice A n c, .slice A' n' c'] w (GotIn W w L) := by
  subst hn0; subst hL; exact refNums ho h hl hn hB
inductive KD where
  | eq (u : Value)
  | own (W : World) (L : List Nat)
  | ints (zs : List Int)
  | blk (W : World) (t : TypeId) (cs : Array Value)
  | any
def VD (ks : List KD) (i : Nat) (v : Value) (w : World) : Prop := match ks[i]? with
  | some (.eq u) => v = u
  | some (.own W L) => ∃ A c, v = .slice A L.length c ∧ OwnB W w A L.length c L
  | some (.ints zs) => ∃ A c, v = .slice A zs.length c ∧ Rd w w.heap.size A zs.length (iv zs)
  | some (.blk W t cs) => ∃ g, v = .pointer (some ⟨g, 0, none⟩) ∧ W.heap.size ≤ g ∧ Blk w g t cs
  | _ => True
theorem VD.ext (ks : List KD) (i : Nat) (v : Value) (w w' : World) (h : VD ks i v w) (he : Bw w w') : VD ks i v w' := by
  unfold VD at h ⊢
  cases hk : ks[i]? with
  | none => trivial
  | some k =>
    rw [hk] at h
    cases k with
    | eq u => exact h
    | own W L => obtain ⟨A, c, h1, h2⟩ := h; exact ⟨A, c, h1, own_below h2 he⟩
    | ints zs => obtain ⟨A, c, h1, h2⟩ := h; exact ⟨A, c, h1, (h2.below he).fit⟩
    | blk W t cs => obtain ⟨g, h1, h2, h3⟩ := h; exact ⟨g, h1, h2, h3.below he⟩
    | any => trivial
theorem deps_ofD {md : Region.Mode} {ops : Array Oper} {deps : Nat → List Nat} (h : ((List.range ops.size).all fun i => (deps i).all fun j => Region.waitsFor md ops i j) = true) : ∀ i, i < ops.size → ∀ j ∈ deps i, Region.waitsFor md ops i j = true := by
  intro i hi j hj
  exact List.all_eq_true.1 (List.all_eq_true.1 h i (List.mem_range.2 hi)) j hj
theorem deps_ofLD {md : Region.Mode} {ops : Array Oper} {L : Nat} {deps : Nat → List Nat} (h : ((List.range L).all fun i => (deps i).all fun j => decide (j < L) && Region.waitsFor md ops i j) = true) : ∀ i, i < L → ∀ j ∈ deps i, j < L ∧ Region.waitsFor md ops i j = true := by
  intro i hi j hj
  have h2 := List.all_eq_true.1 (List.all_eq_true.1 h i (List.mem_range.2 hi)) j hj
  rw [Bool.and_eq_true, decide_eq_true_eq] at h2
  exact h2
theorem alls_ofLD {md : Region.Mode} {ops : Array Oper} {L : Nat} (h : ((List.range L).all fun j => Region.waitsFor md ops L j) = true) : ∀ j, j < L → Region.waitsFor md ops L j = true :=
  fun j hj => List.all_eq_true.1 h j (List.mem_range.2 hj)
theorem all_opsLD {p : Nat → Oper → Prop} {l : List Oper} {L : Nat} (h : AllFrom p 0 (l.take L)) : ∀ i o, i < L → l.toArray[i]? = some o → p i o := fun i o hi ho => by
  have q := h.get i o (by rw [List.getElem?_take, if_pos hi]; simpa using ho)
  rwa [Nat.zero_add] at q
theorem ev_tmpD {a : Act} {t : Nat} {v : Value} (h : a.eval (.tmp t) = v) : a.tmps[t]?.getD undef = v := by rw [← h]; simp [Act.eval]
def dstRS1 (i : Nat) : Nat := ([5, 6, 7, 8, 9, 10, 11, 12, 13, 14, 15, 16, 17, 18, 4] : List Nat).getD i 0
def depsRS1 (i : Nat) : List Nat := ([[], [0], [], [2], [3], [], [5], [6], [], [8], [9], [1, 4, 7, 10], [11], [12], [13]] : List (List Nat)).getD i []
def FrRS1 (w : World) (g : Nat) (n i p q : Int) (L1 S : List Nat) (a : Act) : Prop := a.eval (.tmp 0) = .int .i64 n ∧ a.eval (.tmp 3) = .pointer (some ⟨g, 0, none⟩)
def kindsRS1 (w : World) (g : Nat) (n i p q : Int) (L1 S : List Nat) : List KD := [.eq (.int .i64 n), .eq (.int .i64 (Dk.held n : Nat)), .eq (.pointer (some ⟨g, 0, none⟩)), .eq (.int .i64 i), .eq (.int .i64 (Dk.held i : Nat)), .eq (.pointer (some ⟨g, 1, none⟩)), .eq (.int .i64 p), .eq (.int .i64 (Dk.held p : Nat)), .eq (.pointer (some ⟨g, 2, none⟩)), .eq (.int .i64 q), .eq (.int .i64 (Dk.held q : Nat)), .ints [((Dk.held n : Nat) : Int), ((Dk.held i : Nat) : Int), ((Dk.held p : Nat) : Int), ((Dk.held q : Nat) : Int)], .own w L1, .own w S, .own w S]
def frameRS1 (w : World) (g : Nat) (n i p q : Int) (L1 S : List Nat) (x1 x2 : Value) (U : Nat → Value) : Act := { tmps := List.toArray (.int .i64 n :: x1 :: x2 :: .pointer (some ⟨g, 0, none⟩) :: U 4 :: U 5 :: U 6 :: U 7 :: U 8 :: U 9 :: U 10 :: U 11 :: U 12 :: U 13 :: U 14 :: U 15 :: U 16 :: U 17 :: U 18 :: []), defers := [] }
set_option maxHeartbeats 4000000 in
set_option maxRecDepth 100000 in
theorem refslot_raw (w : World) (n i p q : Int) : Calls Try.prog 31 #[.int .i64 n, .agg #[.int .i64 i, .int .i64 p, .int .i64 q]] w (GotIn w w (Dk.slot n i p q)) := by
  obtain ⟨g, hg⟩ : ∃ g, w.heap.size = g := ⟨_, rfl⟩
  obtain ⟨wz, hwz⟩ : ∃ wz, w.alloc (.cells #[.int .i64 i, .int .i64 p, .int .i64 q] 46) = wz := ⟨_, rfl⟩
  have hbb : Below w.heap.size w wz := by rw [← hwz]; exact (Below.refl _ _).alloc (Nat.le_refl _) _
  have k1 : Blk wz g 46 #[.int .i64 i, .int .i64 p, .int .i64 q] := by rw [← hwz, ← hg]; exact Blk.new _ _ _
  have HF2 : Hid (∀ wx, Below wz.heap.size wz wx → Blk wx g 46 #[.int .i64 i, .int .i64 p, .int .i64 q]) := Lib.hid (fun wx hb => k1.below hb)
  have HBW := Lib.hid hbb
  have HWZ := Lib.hid hwz
  have HG := Lib.hid hg
  obtain ⟨L1, hL1⟩ : ∃ x, Dk.enc4 (Dk.rc n i p q) = x := ⟨_, rfl⟩
  obtain ⟨S, hS⟩ : ∃ x, Dk.slot n i p q = x := ⟨_, rfl⟩
  have HL1 : Hid (([] : List Nat) ++ Pk.encs [((Dk.held n : Nat) : Int), ((Dk.held i : Nat) : Int), ((Dk.held p : Nat) : Int), ((Dk.held q : Nat) : Int)] = L1) := Lib.hid (by rw [← hL1, ← encs_four]; rfl)
  have HS : Hid (Fr.four (Crc.sum L1) ++ L1 = S) := Lib.hid (by rw [← hS, ← hL1]; rfl)
  have HLT : Hid (∀ x ∈ L1, x < 256) := Lib.hid (by rw [← hL1]; exact Dk.enc4_lt (Dk.rc_ok _ _ _ _))
  have HLN : Hid (L1.length ≤ 2000000) := Lib.hid (by rw [← hL1]; have := (Dk.enc4_len (Dk.rc n i p q)).2; omega)
  rw [hS]
  clear hbb k1 hwz hg hL1 hS
  go_enter Try.func31, Try.ntmps31
  go_upto_region 1 with fail
  rw [HG.out, HWZ.out]
  clear HWZ
  go_cut [4] from 5 to 18 (fun s4 wx => ∃ A c, s4 = .slice A S.length c ∧ Hid (OwnB w wx A S.length c S) ∧ Hid (Below w.heap.size w wx))
  case first =>
    refine region_invB (U0 := fun j => if j = 4 then .slice none 0 0 else undef) (frameRS1 w g n i p q L1 S _ _) dstRS1 depsRS1 (fun _ => true) (VD (kindsRS1 w g n i p q L1 S)) (FrRS1 w g n i p q L1 S) ?hm ?hb ?inj ?dst ?deps ?want ?put ?ev ?fr (VD.ext _) (Below.refl _ _) ?hok ?done
    case hok =>
      refine all_ops (AllFrom.cons ?s0 (AllFrom.cons ?s1 (AllFrom.cons ?s2 (AllFrom.cons ?s3 (AllFrom.cons ?s4 (AllFrom.cons ?s5 (AllFrom.cons ?s6 (AllFrom.cons ?s7 (AllFrom.cons ?s8 (AllFrom.cons ?s9 (AllFrom.cons ?s10 (AllFrom.cons ?s11 (AllFrom.cons ?s12 (AllFrom.cons ?s13 (AllFrom.cons ?s14 AllFrom.nil)))))))))))))))
      case s0 =>
        intro a w1 hF hB hdep K hK
        rw [if_pos rfl]
        have f0 : a.tmps[0]?.getD undef = .int .i64 n := ev_tmpD hF.1
        go_simp
        exact hK.out _ _ (Below.refl _ _) hB rfl
      case s1 =>
        intro a w1 hF hB hdep K hK
        rw [if_pos rfl]
        have e0 : a.tmps[5]?.getD undef = .int .i64 n := ev_tmpD (show a.eval (.tmp 5) = .int .i64 n from hdep 0 (by decide))
        go_simp
        go_at_call 62
        refine (refdheld _ _).mono ?_
        rintro en w9 ⟨rfl, rfl⟩
        go_simp
        exact hK.out _ _ (Below.refl _ _) hB rfl
      case s2 =>
        intro a w1 hF hB hdep K hK
        rw [if_pos rfl]
        have f3 : a.tmps[3]?.getD undef = .pointer (some ⟨g, 0, none⟩) := ev_tmpD hF.2
        go_simp
        exact hK.out _ _ (Below.refl _ _) hB rfl
      case s3 =>
        intro a w1 hF hB hdep K hK
        rw [if_pos rfl]
        have e2 : a.tmps[7]?.getD undef = .pointer (some ⟨g, 0, none⟩) := ev_tmpD (show a.eval (.tmp 7) = .pointer (some ⟨g, 0, none⟩) from hdep 2 (by decide))
        have c0 : w1.cell? ⟨g, 0, none⟩ = some (.int .i64 i) := (HF2.out _ hB).cell 0
        go_simp
        exact hK.out _ _ (Below.refl _ _) hB rfl
      case s4 =>
        intro a w1 hF hB hdep K hK
        rw [if_pos rfl]
        have e3 : a.tmps[8]?.getD undef = .int .i64 i := ev_tmpD (show a.eval (.tmp 8) = .int .i64 i from hdep 3 (by decide))
        go_simp
        go_at_call 62
        refine (refdheld _ _).mono ?_
        rintro en w9 ⟨rfl, rfl⟩
        go_simp
        exact hK.out _ _ (Below.refl _ _) hB rfl
      case s5 =>
        intro a w1 hF hB hdep K hK
        rw [if_pos rfl]
        have f3 : a.tmps[3]?.getD undef = .pointer (some ⟨g, 0, none⟩) := ev_tmpD hF.2
        go_simp
        exact hK.out _ _ (Below.refl _ _) hB rfl
      case s6 =>
        intro a w1 hF hB hdep K hK
        rw [if_pos rfl]
        have e5 : a.tmps[10]?.getD undef = .pointer (some ⟨g, 1, none⟩) := ev_tmpD (show a.eval (.tmp 10) = .pointer (some ⟨g, 1, none⟩) from hdep 5 (by decide))
        have c0 : w1.cell? ⟨g, 1, none⟩ = some (.int .i64 p) := (HF2.out _ hB).cell 1
        go_simp
        exact hK.out _ _ (Below.refl _ _) hB rfl
      case s7 =>
        intro a w1 hF hB hdep K hK
        rw [if_pos rfl]
        have e6 : a.tmps[11]?.getD undef = .int .i64 p := ev_tmpD (show a.eval (.tmp 11) = .int .i64 p from hdep 6 (by decide))
        go_simp
        go_at_call 62
        refine (refdheld _ _).mono ?_
        rintro en w9 ⟨rfl, rfl⟩
        go_simp
        exact hK.out _ _ (Below.refl _ _) hB rfl
      case s8 =>
        intro a w1 hF hB hdep K hK
        rw [if_pos rfl]
        have f3 : a.tmps[3]?.getD undef = .pointer (some ⟨g, 0, none⟩) := ev_tmpD hF.2
        go_simp
        exact hK.out _ _ (Below.refl _ _) hB rfl
      case s9 =>
        intro a w1 hF hB hdep K hK
        rw [if_pos rfl]
        have e8 : a.tmps[13]?.getD undef = .pointer (some ⟨g, 2, none⟩) := ev_tmpD (show a.eval (.tmp 13) = .pointer (some ⟨g, 2, none⟩) from hdep 8 (by decide))
        have c0 : w1.cell? ⟨g, 2, none⟩ = some (.int .i64 q) := (HF2.out _ hB).cell 2
        go_simp
        exact hK.out _ _ (Below.refl _ _) hB rfl
      case s10 =>
        intro a w1 hF hB hdep K hK
        rw [if_pos rfl]
        have e9 : a.tmps[14]?.getD undef = .int .i64 q := ev_tmpD (show a.eval (.tmp 14) = .int .i64 q from hdep 9 (by decide))
        go_simp
        go_at_call 62
        refine (refdheld _ _).mono ?_
        rintro en w9 ⟨rfl, rfl⟩
        go_simp
        exact hK.out _ _ (Below.refl _ _) hB rfl
      case s11 =>
        intro a w1 hF hB hdep K hK
        rw [if_pos rfl]
        have e1 : a.tmps[6]?.getD undef = .int .i64 (Dk.held n : Nat) := ev_tmpD (show a.eval (.tmp 6) = .int .i64 (Dk.held n : Nat) from hdep 1 (by decide))
        have e4 : a.tmps[9]?.getD undef = .int .i64 (Dk.held i : Nat) := ev_tmpD (show a.eval (.tmp 9) = .int .i64 (Dk.held i : Nat) from hdep 4 (by decide))
        have e7 : a.tmps[12]?.getD undef = .int .i64 (Dk.held p : Nat) := ev_tmpD (show a.eval (.tmp 12) = .int .i64 (Dk.held p : Nat) from hdep 7 (by decide))
        have e10 : a.tmps[15]?.getD undef = .int .i64 (Dk.held q : Nat) := ev_tmpD (show a.eval (.tmp 15) = .int .i64 (Dk.held q : Nat) from hdep 10 (by decide))
        go_simp
        exact hK.out _ _ ((Below.refl _ _).alloc (Nat.le_refl _) _) (hB.alloc hB.size _) ⟨_, _, rfl, (Rd.made w1 #[.int .i64 (Dk.held n : Nat), .int .i64 (Dk.held i : Nat), .int .i64 (Dk.held p : Nat), .int .i64 (Dk.held q : Nat)] 3 (0, 0) 4 rfl).fit⟩
      case s12 =>
        intro a w1 hF hB hdep K hK
        rw [if_pos rfl]
        obtain ⟨A6, c6, e6, hr6⟩ : ∃ A6 c6, a.eval (.tmp 16) = .slice A6 ([((Dk.held n : Nat) : Int), ((Dk.held i : Nat) : Int), ((Dk.held p : Nat) : Int), ((Dk.held q : Nat) : Int)]).length c6 ∧ Rd w1 w1.heap.size A6 ([((Dk.held n : Nat) : Int), ((Dk.held i : Nat) : Int), ((Dk.held p : Nat) : Int), ((Dk.held q : Nat) : Int)]).length (iv [((Dk.held n : Nat) : Int), ((Dk.held i : Nat) : Int), ((Dk.held p : Nat) : Int), ((Dk.held q : Nat) : Int)]) := hdep 11 (by decide)
        have e6 := ev_tmpD e6
        simp only [List.length_cons, List.length_nil, Nat.zero_add, Nat.reduceAdd] at e6 hr6
        have HC5 := Lib.hid (refNums_d (W := w) (c := 0) (c' := c6) rfl HL1.out (own_nil w w1) hr6 (by simp) (by omega) (HBW.out.trans (hB.mono HBW.out.size)))
        clear hr6
        go_simp
        go_at_call 36
        refine HC5.out.mono ?_
        rintro en w9 ⟨A9, c9, rfl, ho9, hB9, hb9⟩
        go_simp
        exact hK.out _ _ hb9 (hB.trans (hb9.mono hB.size)) ⟨A9, c9, rfl, ho9⟩
      case s13 =>
        intro a w1 hF hB hdep K hK
        rw [if_pos rfl]
        obtain ⟨A5, c5, e5, ho5⟩ : ∃ A5 c5, a.eval (.tmp 17) = .slice A5 L1.length c5 ∧ OwnB w w1 A5 L1.length c5 L1 := hdep 12 (by decide)
        have e5 := ev_tmpD e5
        have hc5 := refFour (W := w) (c := c5) HLT.out HLN.out (Rd.own_ ho5) (HBW.out.trans (hB.mono HBW.out.size))
        rw [HS.out] at hc5
        have HC5 := Lib.hid hc5
        clear ho5 hc5
        go_simp
        go_at_call 54
        refine HC5.out.mono ?_
        rintro en w9 ⟨A9, c9, rfl, ho9, hB9, hb9⟩
        go_simp
        exact hK.out _ _ hb9 (hB.trans (hb9.mono hB.size)) ⟨A9, c9, rfl, ho9⟩
      case s14 =>
        intro a w1 hF hB hdep K hK
        rw [if_pos rfl]
        obtain ⟨A5, c5, e5, ho5⟩ : ∃ A5 c5, a.eval (.tmp 18) = .slice A5 S.length c5 ∧ OwnB w w1 A5 S.length c5 S := hdep 13 (by decide)
        have e5 := ev_tmpD e5
        go_simp
        exact hK.out _ _ (Below.refl _ _) hB ⟨A5, c5, rfl, ho5⟩
    case hm => kernel_rfl
    case hb => kernel_rfl
    case inj =>
      intro i j hi hj h
      have h1 : ((List.range 15).all fun i => (List.range 15).all fun j => !(dstRS1 i == dstRS1 j) || (i == j)) = true := by kernel_rfl
      have h2 := List.all_eq_true.1 (List.all_eq_true.1 h1 i (List.mem_range.2 hi)) j (List.mem_range.2 hj)
      simpa [h] using h2
    case dst => exact all_ops (AllFrom.cons rfl (AllFrom.cons rfl (AllFrom.cons rfl (AllFrom.cons rfl (AllFrom.cons rfl (AllFrom.cons rfl (AllFrom.cons rfl (AllFrom.cons rfl (AllFrom.cons rfl (AllFrom.cons rfl (AllFrom.cons rfl (AllFrom.cons rfl (AllFrom.cons rfl (AllFrom.cons rfl (AllFrom.cons rfl AllFrom.nil)))))))))))))))
    case deps =>
      intro i hi j hj
      refine deps_ofD (deps := depsRS1) ?_ i hi j hj
      kernel_rfl
    case want => exact all_ops (AllFrom.cons (fun U w hd => rfl) (AllFrom.cons (fun U w hd => rfl) (AllFrom.cons (fun U w hd => rfl) (AllFrom.cons (fun U w hd => rfl) (AllFrom.cons (fun U w hd => rfl) (AllFrom.cons (fun U w hd => rfl) (AllFrom.cons (fun U w hd => rfl) (AllFrom.cons (fun U w hd => rfl) (AllFrom.cons (fun U w hd => rfl) (AllFrom.cons (fun U w hd => rfl) (AllFrom.cons (fun U w hd => rfl) (AllFrom.cons (fun U w hd => rfl) (AllFrom.cons (fun U w hd => rfl) (AllFrom.cons (fun U w hd => rfl) (AllFrom.cons (fun U w hd => rfl) AllFrom.nil)))))))))))))))
    case put => exact all_ops (AllFrom.cons (fun _ _ => by kernel_rfl) (AllFrom.cons (fun _ _ => by kernel_rfl) (AllFrom.cons (fun _ _ => by kernel_rfl) (AllFrom.cons (fun _ _ => by kernel_rfl) (AllFrom.cons (fun _ _ => by kernel_rfl) (AllFrom.cons (fun _ _ => by kernel_rfl) (AllFrom.cons (fun _ _ => by kernel_rfl) (AllFrom.cons (fun _ _ => by kernel_rfl) (AllFrom.cons (fun _ _ => by kernel_rfl) (AllFrom.cons (fun _ _ => by kernel_rfl) (AllFrom.cons (fun _ _ => by kernel_rfl) (AllFrom.cons (fun _ _ => by kernel_rfl) (AllFrom.cons (fun _ _ => by kernel_rfl) (AllFrom.cons (fun _ _ => by kernel_rfl) (AllFrom.cons (fun _ _ => by kernel_rfl) AllFrom.nil)))))))))))))))
    case ev => exact all_ops (AllFrom.cons (fun _ => by kernel_rfl) (AllFrom.cons (fun _ => by kernel_rfl) (AllFrom.cons (fun _ => by kernel_rfl) (AllFrom.cons (fun _ => by kernel_rfl) (AllFrom.cons (fun _ => by kernel_rfl) (AllFrom.cons (fun _ => by kernel_rfl) (AllFrom.cons (fun _ => by kernel_rfl) (AllFrom.cons (fun _ => by kernel_rfl) (AllFrom.cons (fun _ => by kernel_rfl) (AllFrom.cons (fun _ => by kernel_rfl) (AllFrom.cons (fun _ => by kernel_rfl) (AllFrom.cons (fun _ => by kernel_rfl) (AllFrom.cons (fun _ => by kernel_rfl) (AllFrom.cons (fun _ => by kernel_rfl) (AllFrom.cons (fun _ => by kernel_rfl) AllFrom.nil)))))))))))))))
    case fr => exact fun U => ⟨by kernel_rfl, by kernel_rfl⟩
    case done =>
      intro U w' hB hV
      obtain ⟨A9, c9, e9, ho9⟩ : ∃ A c, U 4 = .slice A S.length c ∧ OwnB w w' A S.length c S := hV 14 (by decide)
      unfold frameRS1
      rw [e9]
      have HB9 := Lib.hid (HBW.out.trans (hB.mono HBW.out.size))
      have HO9 := Lib.hid ho9
      clear hV e9 hB ho9
      go_wp2_with fail
      go_meet
      exact ⟨A9, c9, rfl, HO9, HB9⟩
  case rest =>
    obtain ⟨A, c, rfl, HO, HB⟩ := hcut
    go_wp2_with fail
    go_ret
    exact ⟨A, c, rfl, HO.out, HB.out, HB.out⟩
theorem refslot {W w : World} {n i p q : Int} {S : List Nat} (he : Dk.slot n i p q = S) (hB : Below W.heap.size W w) : Calls Try.prog 31 #[.int .i64 n, .agg #[.int .i64 i, .int .i64 p, .int .i64 q]] w (GotIn W w S) := by
  subst he
  exact (refslot_raw w n i p q).mono fun e w' ⟨A, c, h1, h2, h3, h4⟩ => ⟨A, c, h1, own_of hB.size h2, hB.trans (h3.mono hB.size), h4⟩
/-- a slot's number; -1 where there is none -/
def slotN (r : Option Dk.Rc) : Int := match r with
  | some x => (x.n : Int)
  | none => -1
def recC' (r : Option Dk.Rc) : Array Value := #[.int .i64 ((r.getD Dk.Rc.zero).i : Nat), .int .i64 ((r.getD Dk.Rc.zero).p : Nat), .int .i64 ((r.getD Dk.Rc.zero).q : Nat)]
def GotN (W w : World) (r : Option Dk.Rc) (e : Ending) (w' : World) : Prop := e = .returned (.tuple #[.int .i64 (slotN r), .agg (recC' r)]) ∧ Below W.heap.size W w' ∧ Below w.heap.size w w'
theorem refnum_in {W w : World} {B b : Nat} {s : Pk.St} {most : Int} (h : RefAt w B b s) (hB : Below W.heap.size W w) (hb : W.heap.size ≤ b) {v : Nat} {s' : Pk.St} (hv : Pk.numV s most = v) (hs : Pk.numS s most = s') :
    Calls Try.prog 47 #[.pointer (some ⟨b, 0, none⟩), .int .i64 most] w fun e w' => e = .returned (.int .i64 (v : Int)) ∧ RefAt w' B b s' ∧ Below W.heap.size W w' ∧ Only b w w' := by
  subst hv; subst hs
  exact (refrnum_any w B b s most h).mono fun e w' ⟨h1, h2, h3, _⟩ => ⟨h1, h2, below_only hB h3 hb, h3⟩
set_option maxHeartbeats 4000000 in
set_option maxRecDepth 100000 in
theorem refparse_raw {w : World} {A : Option Addr} {n c B : Nat} {l : List Nat} (hb : ∀ x ∈ l, x < 256) (hl : l.length ≤ 2000000) (hc : n ≤ c ∧ c ≤ maxLen) (h : Rd w B A n (bv l)) : Calls Try.prog 61 #[.slice A n c] w (GotN w w (Dk.parse l)) := by
  obtain ⟨g, hg⟩ : ∃ g, w.heap.size = g := ⟨_, rfl⟩
  obtain ⟨wz, hwz⟩ : ∃ wz, w.alloc (.cells #[.int .i64 0, .int .i64 0, .int .i64 0] 46) = wz := ⟨_, rfl⟩
  have hbb : Below w.heap.size w wz := by rw [← hwz]; exact (Below.refl _ _).alloc (Nat.le_refl _) _
  have k1 : Blk wz g 46 #[.int .i64 0, .int .i64 0, .int .i64 0] := by rw [← hwz, ← hg]; exact Blk.new _ _ _
  have CL : Hid (Calls Try.prog 55 #[.slice A n c] wz (GotU wz wz (Fr.unf l))) := Lib.hid (refUnfour hb hl hc (h.fit.below hbb) (Below.refl _ _))
  have hpar : Dk.parse l = (Fr.unf l).bind Dk.get := rfl
  have hlu : ∀ x, Fr.unf l = some x → (∀ y ∈ x, y < 256) ∧ x.length ≤ 2000000 := fun x hx => by
    obtain ⟨e, _⟩ := Fr.unf_is hx
    subst e
    exact ⟨fun y hy => hb y (List.mem_of_mem_drop hy), by rw [List.length_drop]; omega⟩
  obtain ⟨X, hX⟩ : ∃ X, Fr.unf l = X := ⟨_, rfl⟩
  rw [hX] at CL hpar hlu
  obtain ⟨R, hR⟩ : ∃ R, Dk.parse l = R := ⟨_, rfl⟩
  rw [hR] at hpar ⊢
  have HB := Lib.hid hbb
  have HK1 := Lib.hid k1
  have HWZ := Lib.hid hwz
  have HG := Lib.hid hg
  have HGL : Hid (w.heap.size ≤ g) := Lib.hid (Nat.le_of_eq hg)
  have HEND : Hid (∀ wx cs, Below wz.heap.size wz wx → Below w.heap.size w (wx.setRow g cs)) := Lib.hid fun wx cs hx => by
    have := hbb.trans (hx.mono hbb.size)
    exact below_setRow this (by rw [hg]; exact Nat.le_refl _) _
  clear hbb k1 hwz hg hX hb hl hc h hR
  cases X with
  | none =>
    have HR : Hid (R = none) := Lib.hid hpar
    clear hpar hlu
    go_enter Try.func61, Try.ntmps61
    go_upto_region 1 with fail
    rw [HG.out, HWZ.out]
    clear HWZ
    go_wp2_with (first
      | (go_at_call 55; refine CL.out.mono ?_; rintro en w1 ⟨A1, c1, rfl, ho, hB, hb⟩; have HB1 := Lib.hid hB; have HK2 := Lib.hid (HK1.out.below hB); clear ho hB hb)
      | (refine wpList_store_row rfl 46 (.tmp 3) (.tmp 16) rfl g #[.int .i64 0, .int .i64 0, .int .i64 0] rfl rfl 46 #[.int .i64 0, .int .i64 0, .int .i64 0] HK2.out (by kernel_rfl) rfl (by kernel_rfl) ?_)
      | fail)
    refine bodyPost_ret (results_tmp_cell_row rfl _ _ _ _ _ _ rfl (HK2.out.row #[.int .i64 0, .int .i64 0, .int .i64 0]) Try.underlying46 rfl (by kernel_rfl)) rfl ?_
    rw [HR.out]
    exact ⟨rfl, HEND.out _ _ HB1.out, HEND.out _ _ HB1.out⟩
  | some x =>
    obtain ⟨hx1, hx2⟩ := hlu x rfl
    have HX1 := Lib.hid hx1
    have HX2 := Lib.hid hx2
    have hR2 : R = if Dk.s4 x = some [] then some (Dk.got x) else none := hpar
    obtain ⟨n1, hn1⟩ : ∃ v, Pk.numV (some x) 1099511627776 = v := ⟨_, rfl⟩
    obtain ⟨t1, ht1⟩ : ∃ v, Pk.numS (some x) 1099511627776 = v := ⟨_, rfl⟩
    obtain ⟨n2, hn2⟩ : ∃ v, Pk.numV t1 1099511627776 = v := ⟨_, rfl⟩
    obtain ⟨t2, ht2⟩ : ∃ v, Pk.numS t1 1099511627776 = v := ⟨_, rfl⟩
    obtain ⟨n3, hn3⟩ : ∃ v, Pk.numV t2 1099511627776 = v := ⟨_, rfl⟩
    obtain ⟨t3, ht3⟩ : ∃ v, Pk.numS t2 1099511627776 = v := ⟨_, rfl⟩
    obtain ⟨n4, hn4⟩ : ∃ v, Pk.numV t3 1099511627776 = v := ⟨_, rfl⟩
    obtain ⟨t4, ht4⟩ : ∃ v, Pk.numS t3 1099511627776 = v := ⟨_, rfl⟩
    have hR3 : R = if t4 = some [] then some ⟨n1, n2, n3, n4⟩ else none := by
      rw [hR2]
      unfold Dk.s4 Dk.got Dk.s3 Dk.s2 Dk.s1
      rw [ht1, ht2, ht3, ht4, hn1, hn2, hn3, hn4]
    have HN1 := Lib.hid hn1
    have HN2 := Lib.hid hn2
    have HN3 := Lib.hid hn3
    have HN4 := Lib.hid hn4
    have HT1 := Lib.hid ht1
    have HT2 := Lib.hid ht2
    have HT3 := Lib.hid ht3
    have HT4 := Lib.hid ht4
    have HR := Lib.hid hR3
    clear hpar hlu hx1 hx2 hR2 hR3 hn1 hn2 hn3 hn4 ht1 ht2 ht3 ht4
    go_enter Try.func61, Try.ntmps61
    go_upto_region 1 with fail
    rw [HG.out, HWZ.out]
    clear HWZ
    go_upto_region 5 with (first
      | (go_at_call 55; refine CL.out.mono ?_; rintro en w1 ⟨A1, c1, rfl, ho, hB, hb⟩
         have HO : Hid (OwnB wz w1 A1 x.length c1 x) := Lib.hid ho
         have HB1 := Lib.hid hB
         clear ho hB hb)
      | fail)
    have hb2 : Below w1.heap.size w1 (w1.alloc (.cells #[.slice A1 x.length c1, .bool false] 75)) := (Below.refl _ _).alloc (Nat.le_refl _) _
    have hk2 := Blk.new w1 75 #[.slice A1 x.length c1, .bool false]
    have hr2 : RefAt (w1.alloc (.cells #[.slice A1 x.length c1, .bool false] 75)) w1.heap.size w1.heap.size (some x) := ⟨A1, x.length, c1, hk2, (own_cap HO.out).1, (own_cap HO.out).2, by have := HX2.out; unfold Lim; omega, Nat.le_refl _, fun l' hl' => by injection hl' with hl'; subst hl'; exact ⟨(Rd.own_ HO.out).below hb2, HX1.out⟩⟩
    have HB2 := Lib.hid (HB1.out.trans (hb2.mono HB1.out.size))
    have HBB : Hid (wz.heap.size ≤ w1.heap.size) := Lib.hid HB1.out.size
    have HR2 := Lib.hid hr2
    obtain ⟨b, hbe⟩ : ∃ b, w1.heap.size = b := ⟨_, rfl⟩
    rw [hbe] at HR2 HBB ⊢
    generalize w1.alloc (.cells #[.slice A1 x.length c1, .bool false] 75) = w2 at HR2 HB2 ⊢
    clear HO HB1 HX1 HX2 hb2 hk2 hr2 hbe
    go_upto_region 6 with (first
      | (go_at_call 47; refine (refnum_in HR2.out HB2.out HBB.out HN1.out HT1.out).mono ?_; rintro en w3 ⟨rfl, hr, hB, ho⟩
         have HR3 := Lib.hid hr
         have HB3 := Lib.hid hB
         clear hr hB ho)
      | fail)
    clear HR2 HB2 HN1 HT1
    go_upto_region 7 with (first
      | (go_at_call 47; first
         | (refine (refnum_in HR5.out HB5.out HBB.out HN4.out HT4.out).mono ?_; rintro en w6 ⟨rfl, hr, hB, ho⟩
            have HR6 := Lib.hid hr
            have HB6 := Lib.hid hB
            clear hr hB ho)
         | (refine (refnum_in HR4.out HB4.out HBB.out HN3.out HT3.out).mono ?_; rintro en w5 ⟨rfl, hr, hB, ho⟩
            have HR5 := Lib.hid hr
            have HB5 := Lib.hid hB
            clear hr hB ho)
         | (refine (refnum_in HR3.out HB3.out HBB.out HN2.out HT2.out).mono ?_; rintro en w4 ⟨rfl, hr, hB, ho⟩
            have HR4 := Lib.hid hr
            have HB4 := Lib.hid hB
            clear hr hB ho))
      | (refine wpList_store_row rfl 46 (.tmp 8) (.tmp 28) rfl w6.heap.size #[.int .i64 (n2 : Nat), .int .i64 (n3 : Nat), .int .i64 (n4 : Nat)] rfl rfl 46 #[.int .i64 0, .int .i64 0, .int .i64 0] (Blk.new w6 46 #[.int .i64 0, .int .i64 0, .int .i64 0]) (by kernel_rfl) rfl (by kernel_rfl) ?_)
      | fail)
    have hb7 : Below w6.heap.size w6 ((w6.alloc (.cells #[.int .i64 0, .int .i64 0, .int .i64 0] 46)).setRow w6.heap.size #[.int .i64 (n2 : Nat), .int .i64 (n3 : Nat), .int .i64 (n4 : Nat)]) := below_setRow ((Below.refl _ _).alloc (Nat.le_refl _) _) (Nat.le_refl _) _
    have hk7 := (Blk.new w6 46 #[.int .i64 0, .int .i64 0, .int .i64 0]).row #[.int .i64 (n2 : Nat), .int .i64 (n3 : Nat), .int .i64 (n4 : Nat)]
    have HB7 := Lib.hid (HB6.out.trans (hb7.mono HB6.out.size))
    have HR7 := Lib.hid (HR6.out.below hb7)
    obtain ⟨g7, hg7⟩ : ∃ x, w6.heap.size = x := ⟨_, rfl⟩
    rw [hg7] at HB7 HR7 hk7 ⊢
    generalize (w6.alloc (.cells #[.int .i64 0, .int .i64 0, .int .i64 0] 46)).setRow g7 #[.int .i64 (n2 : Nat), .int .i64 (n3 : Nat), .int .i64 (n4 : Nat)] = w7 at HB7 HR7 hk7 ⊢
    have HKR := Lib.hid hk7
    clear hb7 hk7 hg7 HR4 HR5 HR6 HB4 HB5 HB6 HN2 HN3 HN4 HT2 HT3 HT4
    have HK2 := Lib.hid (HK1.out.below HB7.out)
    have CE := Lib.hid (refend_any w7 b b t4 HR7.out)
    by_cases he : t4 = some []
    · have hE : Pk.endOf t4 = true := by unfold Pk.endOf; exact decide_eq_true he
      rw [hE] at CE
      have HRR : Hid (R = some ⟨n1, n2, n3, n4⟩) := Lib.hid (by rw [HR.out, if_pos he])
      clear he hE HR
      go_upto_region 9 with (first
        | (go_at_call 51; refine CE.out.mono ?_; rintro en wq ⟨rfl, rfl⟩)
        | fail)
      obtain ⟨y0, y1, y2, f0, f1, f2⟩ := three HK2.out
      obtain ⟨x0, x1, x2, _, _, _⟩ := three HKR.out
      go_region
      all_goals
        go_wp2
        obtain ⟨p1, p2, _⟩ := put3 HK2.out (.int .i64 (n2 : Nat)) (.int .i64 (n3 : Nat)) (.int .i64 (n4 : Nat))
        have HP1 := Lib.hid p1
        have HP2 := Lib.hid (p2 w HGL.out (HB.out.trans (HB7.out.mono HB.out.size)))
        clear p1 p2 x0 x1 x2 y0 y1 y2 f0 f1 f2
        generalize ((w7.setCell ⟨g, 0, none⟩ (.int .i64 (n2 : Nat))).setCell ⟨g, 1, none⟩ (.int .i64 (n3 : Nat))).setCell ⟨g, 2, none⟩ (.int .i64 (n4 : Nat)) = w9 at HP1 HP2 ⊢
        refine bodyPost_ret (results_tmp_cell_row rfl _ _ _ _ _ _ rfl HP1.out.drew Try.underlying46 rfl (by kernel_rfl)) rfl ?_
        have q : Below w.heap.size w w9.drew := HP2.out.trans ⟨rfl, rfl, rfl, Nat.le_refl _, fun _ _ => rfl⟩
        rw [HRR.out]
        exact ⟨rfl, q, q⟩
    · have hE : Pk.endOf t4 = false := by unfold Pk.endOf; exact decide_eq_false he
      rw [hE] at CE
      have HRR : Hid (R = none) := Lib.hid (by rw [HR.out, if_neg he])
      clear he hE HR
      go_wp2_with (first
        | (go_at_call 51; refine CE.out.mono ?_; rintro en wq ⟨rfl, rfl⟩)
        | (refine wpList_store_row rfl 46 (.tmp 3) (.tmp 32) rfl g #[.int .i64 0, .int .i64 0, .int .i64 0] rfl rfl 46 #[.int .i64 0, .int .i64 0, .int .i64 0] HK2.out (by kernel_rfl) rfl (by kernel_rfl) ?_)
        | fail)
      refine bodyPost_ret (results_tmp_cell_row rfl _ _ _ _ _ _ rfl (HK2.out.row #[.int .i64 0, .int .i64 0, .int .i64 0]) Try.underlying46 rfl (by kernel_rfl)) rfl ?_
      rw [HRR.out]
      exact ⟨rfl, HEND.out _ _ HB7.out, HEND.out _ _ HB7.out⟩
theorem refparse {W w : World} {A : Option Addr} {n c B : Nat} {l : List Nat} {r : Option Dk.Rc} (he : Dk.parse l = r) (hb : ∀ x ∈ l, x < 256) (hl : l.length ≤ 2000000) (hc : n ≤ c ∧ c ≤ maxLen) (h : Rd w B A n (bv l)) (hB : Below W.heap.size W w) : Calls Try.prog 61 #[.slice A n c] w (GotN W w r) := by
  subst he
  exact (refparse_raw hb hl hc h).mono fun e w' ⟨h1, h2, h3⟩ => ⟨h1, hB.trans (h2.mono hB.size), h3⟩
end Go.Proofs.Ytlfkgpllleogoaa

