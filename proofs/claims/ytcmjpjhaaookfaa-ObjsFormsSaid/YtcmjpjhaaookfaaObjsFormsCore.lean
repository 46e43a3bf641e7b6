/- ObjsForms: the walk, over any contracts of the code's. -/
import Derived.Test.YtcmjpjhaaookfaaObjsFormsKit
import Derived.Deep.CutBlock
import Derived.Deep.QuietTactic
import Derived.BigQuiet
import Derived.Deep.RegionHeld3
namespace Go.Proofs.Ytcmjpjhaaookfaa
open Go.RowKit
set_option linter.unusedVariables false
def frameF (n : Int) (U : Nat → Value) : Act := { tmps := List.toArray (.int .i64 n :: undef :: .bool false :: U 3 :: undef :: undef :: undef :: U 7 :: U 8 :: U 9 :: U 10 :: U 11 :: U 12 :: U 13 :: U 14 :: U 15 :: U 16 :: U 17 :: U 18 :: U 19 :: U 20 :: U 21 :: U 22 :: U 23 :: U 24 :: U 25 :: U 26 :: U 27 :: U 28 :: U 29 :: U 30 :: U 31 :: U 32 :: U 33 :: U 34 :: U 35 :: U 36 :: U 37 :: U 38 :: U 39 :: U 40 :: U 41 :: U 42 :: U 43 :: U 44 :: U 45 :: U 46 :: U 47 :: U 48 :: U 49 :: U 50 :: U 51 :: U 52 :: U 53 :: U 54 :: U 55 :: U 56 :: U 57 :: U 58 :: U 59 :: U 60 :: U 61 :: U 62 :: U 63 :: undef :: undef :: undef :: undef :: undef :: undef :: undef :: undef :: undef :: undef :: undef :: undef :: undef :: undef :: undef :: undef :: undef :: undef :: undef :: undef :: undef :: undef :: undef :: undef :: undef :: undef :: undef :: undef :: undef :: undef :: undef :: undef :: undef :: undef :: undef :: undef :: undef :: undef :: []), defers := [] }
theorem tab_row {w : World} {ca : CA} {r : RowF} {C : Array Value} {j b : Nat} {t : TypeId} (hb : w.heap.size = b) (hC : ∀ k u, (rowC ca r)[k]? = some u → C[j * 8 + k]? = some u) (h : RdC w w.heap.size ca r.c) :
    ∃ ca, (∀ k u, (rowC ca r)[k]? = some u → (w.alloc (.cells C t)).cell? ⟨b, j * 8 + k, none⟩ = some u) ∧ RdC (w.alloc (.cells C t)) (w.alloc (.cells C t)).heap.size ca r.c := by
  subst hb
  exact ⟨ca, fun k u hu => by rw [World.cell?_alloc_mark]; exact hC k u hu, h.ext (Ext.of_below ((Below.refl _ _).alloc (Nat.le_refl _) _))⟩
theorem rows24 {p : Nat → RowF → Prop} (h : ∀ j, j < 24 → ∀ r, rowsF[j]? = some r → p j r) : ∀ j r, rowsF[j]? = some r → p j r := fun j r hr => h j (by
  have := (List.getElem?_eq_some_iff.1 hr).1
  rwa [rowsF_length] at this) r hr
theorem deps_of {md : Region.Mode} {ops : Array Oper} {deps : Nat → List Nat} (h : ((List.range ops.size).all fun i => (deps i).all fun j => Region.waitsFor md ops i j) = true) : ∀ i, i < ops.size → ∀ j ∈ deps i, Region.waitsFor md ops i j = true :=
  fun i hi j hj => List.all_eq_true.1 (List.all_eq_true.1 h i (List.mem_range.2 hi)) j hj
theorem eight {A C : Array Value} {o : Nat} (hA : A.size = 8) (h0 : C[o + 0]? = A[0]?) (h1 : C[o + 1]? = A[1]?) (h2 : C[o + 2]? = A[2]?) (h3 : C[o + 3]? = A[3]?) (h4 : C[o + 4]? = A[4]?) (h5 : C[o + 5]? = A[5]?) (h6 : C[o + 6]? = A[6]?) (h7 : C[o + 7]? = A[7]?) :
    ∀ k u, A[k]? = some u → C[o + k]? = some u := fun k u hu => by
  have hk : k < 8 := by rw [← hA]; exact (Array.getElem?_eq_some_iff.1 hu).1
  rcases (show k = 0 ∨ k = 1 ∨ k = 2 ∨ k = 3 ∨ k = 4 ∨ k = 5 ∨ k = 6 ∨ k = 7 by omega) with rfl | rfl | rfl | rfl | rfl | rfl | rfl | rfl
  · rw [h0]; exact hu
  · rw [h1]; exact hu
  · rw [h2]; exact hu
  · rw [h3]; exact hu
  · rw [h4]; exact hu
  · rw [h5]; exact hu
  · rw [h6]; exact hu
  · rw [h7]; exact hu
set_option maxHeartbeats 8000000 in
set_option maxRecDepth 100000 in
theorem objsForms_core (hC : ApplyC8) (hO : OkC8) (hA : AwakeC8) (n : Int) (w : World) :
    Calls Try.prog 3 #[.int .i64 n] w fun e w' => e = .returned (.bool true) ∧ Below w.heap.size w w' := by
  go_enter Try.func3, Try.ntmps3
  go_upto_region 1 with fail
  go_cut [3] from 7 to 63 (fun s3 wx => ∃ b, s3 = .slice (some ⟨b, 0, none⟩) 24 24 ∧ Hid (TabF wx b) ∧ Hid (Below w.heap.size w wx))
  case first =>
    refine region_inv (U0 := fun _ => undef) (frameF n) dstF depsF (VF w) ?hm ?hb ?inj ?dst ?deps ?put ?ev (VF.ext w) (Below.refl _ _) ?hok ?done
    case hok =>
      refine all_ops (AllFrom.cons ?s0 (AllFrom.cons ?s1 (AllFrom.cons ?s2 (AllFrom.cons ?s3 (AllFrom.cons ?s4 (AllFrom.cons ?s5 (AllFrom.cons ?s6 (AllFrom.cons ?s7 (AllFrom.cons ?s8 (AllFrom.cons ?s9 (AllFrom.cons ?s10 (AllFrom.cons ?s11 (AllFrom.cons ?s12 (AllFrom.cons ?s13 (AllFrom.cons ?s14 (AllFrom.cons ?s15 (AllFrom.cons ?s16 (AllFrom.cons ?s17 (AllFrom.cons ?s18 (AllFrom.cons ?s19 (AllFrom.cons ?s20 (AllFrom.cons ?s21 (AllFrom.cons ?s22 (AllFrom.cons ?s23 (AllFrom.cons ?s24 (AllFrom.cons ?s25 (AllFrom.cons ?s26 (AllFrom.cons ?s27 (AllFrom.cons ?s28 (AllFrom.cons ?s29 (AllFrom.cons ?s30 (AllFrom.cons ?s31 (AllFrom.cons ?s32 (AllFrom.cons ?s33 (AllFrom.cons ?s34 (AllFrom.cons ?s35 (AllFrom.cons ?s36 (AllFrom.cons ?s37 (AllFrom.cons ?s38 (AllFrom.cons ?s39 (AllFrom.cons ?s40 (AllFrom.cons ?s41 (AllFrom.cons ?s42 (AllFrom.cons ?s43 (AllFrom.cons ?s44 (AllFrom.cons ?s45 (AllFrom.cons ?s46 (AllFrom.cons ?s47 (AllFrom.cons ?s48 (AllFrom.cons ?s49 (AllFrom.cons ?s50 (AllFrom.cons ?s51 (AllFrom.cons ?s52 (AllFrom.cons ?s53 (AllFrom.cons ?s54 (AllFrom.cons ?s55 (AllFrom.cons ?s56 (AllFrom.cons ?s57 AllFrom.nil))))))))))))))))))))))))))))))))))))))))))))))))))))))))))
      case s0 =>
        intro a w1 hB hdep K hK
        go_simp
        exact hK.out _ _ (Ext.refl _) hB ⟨⟨none, 0, none, 0, none, 0⟩, rfl, ⟨Rd.none_ _ _ _, Rd.none_ _ _ _, Rd.none_ _ _ _⟩⟩
      case s1 =>
        intro a w1 hB hdep K hK
        obtain ⟨ca, e1, h2⟩ := (show KindF.V w (.cm ⟨0, 0, [], [], []⟩) (a.eval (.tmp 7)) w1 from hdep 0 (by decide))
        have e1 : a.tmps[7]?.getD undef = .agg #[.int .i64 0, .int .i64 0, .slice ca.Ak 0 ca.ck, .slice ca.Av 0 ca.cv, .slice ca.Ao 0 ca.co] := ev_tmp e1
        go_simp
        exact hK.out _ _ (Ext.refl _) hB ⟨ca, rfl, h2⟩
      case s2 =>
        intro a w1 hB hdep K hK
        go_simp
        exact hK.out _ _ (Ext.refl _) hB ⟨⟨none, 0, none, 0, none, 0⟩, rfl, ⟨Rd.none_ _ _ _, Rd.none_ _ _ _, Rd.none_ _ _ _⟩⟩
      case s3 =>
        intro a w1 hB hdep K hK
        obtain ⟨ca, e1, h2⟩ := (show KindF.V w (.cm ⟨1, 0, [], [], []⟩) (a.eval (.tmp 9)) w1 from hdep 2 (by decide))
        have e1 : a.tmps[9]?.getD undef = .agg #[.int .i64 1, .int .i64 0, .slice ca.Ak 0 ca.ck, .slice ca.Av 0 ca.cv, .slice ca.Ao 0 ca.co] := ev_tmp e1
        go_simp
        exact hK.out _ _ (Ext.refl _) hB ⟨ca, rfl, h2⟩
      case s4 =>
        intro a w1 hB hdep K hK
        have q : (Instr.makeSlice 22 (.int .i64 16) (.int .i64 16)).run Try.prog w1 = .ok (.slice (some ⟨w1.heap.size, 0, none⟩) 16 16) (w1.alloc (.cells (madeCells #[.int .u8 0] (16 * 1)) 5)) := makeF_run w1 16 (by omega)
        go_simp
        exact hK.out _ _ (Ext.of_below ((Below.refl _ _).alloc (Nat.le_refl _) _)) (hB.alloc hB.size _) ⟨_, 16, rfl, rd_zerosF w1 16⟩
      case s5 =>
        intro a w1 hB hdep K hK
        obtain ⟨A, c, e1, h2⟩ := (show KindF.V w (.sl (List.replicate 16 0)) (a.eval (.tmp 11)) w1 from hdep 4 (by decide))
        have e1 : a.tmps[11]?.getD undef = .slice A 16 c := ev_tmp e1
        go_simp
        exact hK.out _ _ (Ext.refl _) hB ⟨⟨none, 0, A, c, none, 0⟩, rfl, ⟨Rd.none_ _ _ _, h2, Rd.none_ _ _ _⟩⟩
      case s6 =>
        intro a w1 hB hdep K hK
        obtain ⟨ca, e1, h2⟩ := (show KindF.V w (.cm ⟨2, 0, [], (List.replicate 16 0), []⟩) (a.eval (.tmp 12)) w1 from hdep 5 (by decide))
        have e1 : a.tmps[12]?.getD undef = .agg #[.int .i64 2, .int .i64 0, .slice ca.Ak 0 ca.ck, .slice ca.Av 16 ca.cv, .slice ca.Ao 0 ca.co] := ev_tmp e1
        go_simp
        exact hK.out _ _ (Ext.refl _) hB ⟨ca, rfl, h2⟩
      case s7 =>
        intro a w1 hB hdep K hK
        have q : (Instr.makeSlice 22 (.int .i64 17) (.int .i64 17)).run Try.prog w1 = .ok (.slice (some ⟨w1.heap.size, 0, none⟩) 17 17) (w1.alloc (.cells (madeCells #[.int .u8 0] (17 * 1)) 5)) := makeF_run w1 17 (by omega)
        go_simp
        exact hK.out _ _ (Ext.of_below ((Below.refl _ _).alloc (Nat.le_refl _) _)) (hB.alloc hB.size _) ⟨_, 17, rfl, rd_zerosF w1 17⟩
      case s8 =>
        intro a w1 hB hdep K hK
        obtain ⟨A, c, e1, h2⟩ := (show KindF.V w (.sl (List.replicate 17 0)) (a.eval (.tmp 14)) w1 from hdep 7 (by decide))
        have e1 : a.tmps[14]?.getD undef = .slice A 17 c := ev_tmp e1
        go_simp
        exact hK.out _ _ (Ext.refl _) hB ⟨⟨none, 0, A, c, none, 0⟩, rfl, ⟨Rd.none_ _ _ _, h2, Rd.none_ _ _ _⟩⟩
      case s9 =>
        intro a w1 hB hdep K hK
        obtain ⟨ca, e1, h2⟩ := (show KindF.V w (.cm ⟨2, 0, [], (List.replicate 17 0), []⟩) (a.eval (.tmp 15)) w1 from hdep 8 (by decide))
        have e1 : a.tmps[15]?.getD undef = .agg #[.int .i64 2, .int .i64 0, .slice ca.Ak 0 ca.ck, .slice ca.Av 17 ca.cv, .slice ca.Ao 0 ca.co] := ev_tmp e1
        go_simp
        exact hK.out _ _ (Ext.refl _) hB ⟨ca, rfl, h2⟩
      case s10 =>
        intro a w1 hB hdep K hK
        have q : (Instr.makeSlice 22 (.int .i64 33) (.int .i64 33)).run Try.prog w1 = .ok (.slice (some ⟨w1.heap.size, 0, none⟩) 33 33) (w1.alloc (.cells (madeCells #[.int .u8 0] (33 * 1)) 5)) := makeF_run w1 33 (by omega)
        go_simp
        exact hK.out _ _ (Ext.of_below ((Below.refl _ _).alloc (Nat.le_refl _) _)) (hB.alloc hB.size _) ⟨_, 33, rfl, rd_zerosF w1 33⟩
      case s11 =>
        intro a w1 hB hdep K hK
        obtain ⟨A, c, e1, h2⟩ := (show KindF.V w (.sl (List.replicate 33 0)) (a.eval (.tmp 17)) w1 from hdep 10 (by decide))
        have e1 : a.tmps[17]?.getD undef = .slice A 33 c := ev_tmp e1
        go_simp
        exact hK.out _ _ (Ext.refl _) hB ⟨⟨none, 0, A, c, none, 0⟩, rfl, ⟨Rd.none_ _ _ _, h2, Rd.none_ _ _ _⟩⟩
      case s12 =>
        intro a w1 hB hdep K hK
        obtain ⟨ca, e1, h2⟩ := (show KindF.V w (.cm ⟨2, 0, [], (List.replicate 33 0), []⟩) (a.eval (.tmp 18)) w1 from hdep 11 (by decide))
        have e1 : a.tmps[18]?.getD undef = .agg #[.int .i64 2, .int .i64 0, .slice ca.Ak 0 ca.ck, .slice ca.Av 33 ca.cv, .slice ca.Ao 0 ca.co] := ev_tmp e1
        go_simp
        exact hK.out _ _ (Ext.refl _) hB ⟨ca, rfl, h2⟩
      case s13 =>
        intro a w1 hB hdep K hK
        go_simp
        exact hK.out _ _ (Ext.refl _) hB ⟨⟨none, 0, none, 0, none, 0⟩, rfl, ⟨Rd.none_ _ _ _, Rd.none_ _ _ _, Rd.none_ _ _ _⟩⟩
      case s14 =>
        intro a w1 hB hdep K hK
        obtain ⟨ca, e1, h2⟩ := (show KindF.V w (.cm ⟨3, 0, [], [], []⟩) (a.eval (.tmp 20)) w1 from hdep 13 (by decide))
        have e1 : a.tmps[20]?.getD undef = .agg #[.int .i64 3, .int .i64 0, .slice ca.Ak 0 ca.ck, .slice ca.Av 0 ca.cv, .slice ca.Ao 0 ca.co] := ev_tmp e1
        go_simp
        exact hK.out _ _ (Ext.refl _) hB ⟨ca, rfl, h2⟩
      case s15 =>
        intro a w1 hB hdep K hK
        go_simp
        exact hK.out _ _ (Ext.of_below ((Below.refl _ _).alloc (Nat.le_refl _) _)) (hB.alloc hB.size _) ⟨_, _, rfl, hB.size, (Rd.made w1 #[.int .u8 97] 5 (0, 0) 1 rfl).fit⟩
      case s16 =>
        intro a w1 hB hdep K hK
        obtain ⟨b, c, e1, hb, h2⟩ := (show KindF.V w (.raw [97]) (a.eval (.tmp 22)) w1 from hdep 15 (by decide))
        obtain ⟨w2, hrun, he, hbel⟩ := run_conv_const (P := Try.prog) w1 22 5 b 1 c Try.underlying22 Try.underlying5
        have e1 : a.tmps[22]?.getD undef = .slice (some ⟨b, 0, none⟩) 1 c := ev_tmp e1
        go_simp
        exact hK.out _ _ he (hbel _ _ hb hB) ⟨_, c, rfl, h2.ext he⟩
      case s17 =>
        intro a w1 hB hdep K hK
        obtain ⟨A, c, e1, h2⟩ := (show KindF.V w (.sl [97]) (a.eval (.tmp 23)) w1 from hdep 16 (by decide))
        have e1 : a.tmps[23]?.getD undef = .slice A 1 c := ev_tmp e1
        go_simp
        exact hK.out _ _ (Ext.refl _) hB ⟨⟨none, 0, none, 0, A, c⟩, rfl, ⟨Rd.none_ _ _ _, Rd.none_ _ _ _, h2⟩⟩
      case s18 =>
        intro a w1 hB hdep K hK
        obtain ⟨ca, e1, h2⟩ := (show KindF.V w (.cm ⟨3, 0, [], [], [97]⟩) (a.eval (.tmp 24)) w1 from hdep 17 (by decide))
        have e1 : a.tmps[24]?.getD undef = .agg #[.int .i64 3, .int .i64 0, .slice ca.Ak 0 ca.ck, .slice ca.Av 0 ca.cv, .slice ca.Ao 1 ca.co] := ev_tmp e1
        go_simp
        exact hK.out _ _ (Ext.refl _) hB ⟨ca, rfl, h2⟩
      case s19 =>
        intro a w1 hB hdep K hK
        go_simp
        exact hK.out _ _ (Ext.refl _) hB ⟨⟨none, 0, none, 0, none, 0⟩, rfl, ⟨Rd.none_ _ _ _, Rd.none_ _ _ _, Rd.none_ _ _ _⟩⟩
      case s20 =>
        intro a w1 hB hdep K hK
        obtain ⟨ca, e1, h2⟩ := (show KindF.V w (.cm ⟨4, 0, [], [], []⟩) (a.eval (.tmp 26)) w1 from hdep 19 (by decide))
        have e1 : a.tmps[26]?.getD undef = .agg #[.int .i64 4, .int .i64 0, .slice ca.Ak 0 ca.ck, .slice ca.Av 0 ca.cv, .slice ca.Ao 0 ca.co] := ev_tmp e1
        go_simp
        exact hK.out _ _ (Ext.refl _) hB ⟨ca, rfl, h2⟩
      case s21 =>
        intro a w1 hB hdep K hK
        go_simp
        exact hK.out _ _ (Ext.refl _) hB ⟨⟨none, 0, none, 0, none, 0⟩, rfl, ⟨Rd.none_ _ _ _, Rd.none_ _ _ _, Rd.none_ _ _ _⟩⟩
      case s22 =>
        intro a w1 hB hdep K hK
        obtain ⟨ca, e1, h2⟩ := (show KindF.V w (.cm ⟨5, 0, [], [], []⟩) (a.eval (.tmp 28)) w1 from hdep 21 (by decide))
        have e1 : a.tmps[28]?.getD undef = .agg #[.int .i64 5, .int .i64 0, .slice ca.Ak 0 ca.ck, .slice ca.Av 0 ca.cv, .slice ca.Ao 0 ca.co] := ev_tmp e1
        go_simp
        exact hK.out _ _ (Ext.refl _) hB ⟨ca, rfl, h2⟩
      case s23 =>
        intro a w1 hB hdep K hK
        go_simp
        exact hK.out _ _ (Ext.refl _) hB ⟨⟨none, 0, none, 0, none, 0⟩, rfl, ⟨Rd.none_ _ _ _, Rd.none_ _ _ _, Rd.none_ _ _ _⟩⟩
      case s24 =>
        intro a w1 hB hdep K hK
        obtain ⟨ca, e1, h2⟩ := (show KindF.V w (.cm ⟨6, 0, [], [], []⟩) (a.eval (.tmp 30)) w1 from hdep 23 (by decide))
        have e1 : a.tmps[30]?.getD undef = .agg #[.int .i64 6, .int .i64 0, .slice ca.Ak 0 ca.ck, .slice ca.Av 0 ca.cv, .slice ca.Ao 0 ca.co] := ev_tmp e1
        go_simp
        exact hK.out _ _ (Ext.refl _) hB ⟨ca, rfl, h2⟩
      case s25 =>
        intro a w1 hB hdep K hK
        go_simp
        exact hK.out _ _ (Ext.refl _) hB ⟨⟨none, 0, none, 0, none, 0⟩, rfl, ⟨Rd.none_ _ _ _, Rd.none_ _ _ _, Rd.none_ _ _ _⟩⟩
      case s26 =>
        intro a w1 hB hdep K hK
        obtain ⟨ca, e1, h2⟩ := (show KindF.V w (.cm ⟨6, 999, [], [], []⟩) (a.eval (.tmp 32)) w1 from hdep 25 (by decide))
        have e1 : a.tmps[32]?.getD undef = .agg #[.int .i64 6, .int .i64 999, .slice ca.Ak 0 ca.ck, .slice ca.Av 0 ca.cv, .slice ca.Ao 0 ca.co] := ev_tmp e1
        go_simp
        exact hK.out _ _ (Ext.refl _) hB ⟨ca, rfl, h2⟩
      case s27 =>
        intro a w1 hB hdep K hK
        go_simp
        exact hK.out _ _ (Ext.refl _) hB ⟨⟨none, 0, none, 0, none, 0⟩, rfl, ⟨Rd.none_ _ _ _, Rd.none_ _ _ _, Rd.none_ _ _ _⟩⟩
      case s28 =>
        intro a w1 hB hdep K hK
        obtain ⟨ca, e1, h2⟩ := (show KindF.V w (.cm ⟨6, 1000, [], [], []⟩) (a.eval (.tmp 34)) w1 from hdep 27 (by decide))
        have e1 : a.tmps[34]?.getD undef = .agg #[.int .i64 6, .int .i64 1000, .slice ca.Ak 0 ca.ck, .slice ca.Av 0 ca.cv, .slice ca.Ao 0 ca.co] := ev_tmp e1
        go_simp
        exact hK.out _ _ (Ext.refl _) hB ⟨ca, rfl, h2⟩
      case s29 =>
        intro a w1 hB hdep K hK
        go_simp
        exact hK.out _ _ (Ext.refl _) hB ⟨⟨none, 0, none, 0, none, 0⟩, rfl, ⟨Rd.none_ _ _ _, Rd.none_ _ _ _, Rd.none_ _ _ _⟩⟩
      case s30 =>
        intro a w1 hB hdep K hK
        obtain ⟨ca, e1, h2⟩ := (show KindF.V w (.cm ⟨6, (-1), [], [], []⟩) (a.eval (.tmp 36)) w1 from hdep 29 (by decide))
        have e1 : a.tmps[36]?.getD undef = .agg #[.int .i64 6, .int .i64 (-1), .slice ca.Ak 0 ca.ck, .slice ca.Av 0 ca.cv, .slice ca.Ao 0 ca.co] := ev_tmp e1
        go_simp
        exact hK.out _ _ (Ext.refl _) hB ⟨ca, rfl, h2⟩
      case s31 =>
        intro a w1 hB hdep K hK
        go_simp
        exact hK.out _ _ (Ext.refl _) hB ⟨⟨none, 0, none, 0, none, 0⟩, rfl, ⟨Rd.none_ _ _ _, Rd.none_ _ _ _, Rd.none_ _ _ _⟩⟩
      case s32 =>
        intro a w1 hB hdep K hK
        obtain ⟨ca, e1, h2⟩ := (show KindF.V w (.cm ⟨7, 0, [], [], []⟩) (a.eval (.tmp 38)) w1 from hdep 31 (by decide))
        have e1 : a.tmps[38]?.getD undef = .agg #[.int .i64 7, .int .i64 0, .slice ca.Ak 0 ca.ck, .slice ca.Av 0 ca.cv, .slice ca.Ao 0 ca.co] := ev_tmp e1
        go_simp
        exact hK.out _ _ (Ext.refl _) hB ⟨ca, rfl, h2⟩
      case s33 =>
        intro a w1 hB hdep K hK
        go_simp
        exact hK.out _ _ (Ext.refl _) hB ⟨⟨none, 0, none, 0, none, 0⟩, rfl, ⟨Rd.none_ _ _ _, Rd.none_ _ _ _, Rd.none_ _ _ _⟩⟩
      case s34 =>
        intro a w1 hB hdep K hK
        obtain ⟨ca, e1, h2⟩ := (show KindF.V w (.cm ⟨7, 1000, [], [], []⟩) (a.eval (.tmp 40)) w1 from hdep 33 (by decide))
        have e1 : a.tmps[40]?.getD undef = .agg #[.int .i64 7, .int .i64 1000, .slice ca.Ak 0 ca.ck, .slice ca.Av 0 ca.cv, .slice ca.Ao 0 ca.co] := ev_tmp e1
        go_simp
        exact hK.out _ _ (Ext.refl _) hB ⟨ca, rfl, h2⟩
      case s35 =>
        intro a w1 hB hdep K hK
        go_simp
        exact hK.out _ _ (Ext.refl _) hB ⟨⟨none, 0, none, 0, none, 0⟩, rfl, ⟨Rd.none_ _ _ _, Rd.none_ _ _ _, Rd.none_ _ _ _⟩⟩
      case s36 =>
        intro a w1 hB hdep K hK
        obtain ⟨ca, e1, h2⟩ := (show KindF.V w (.cm ⟨8, 0, [], [], []⟩) (a.eval (.tmp 42)) w1 from hdep 35 (by decide))
        have e1 : a.tmps[42]?.getD undef = .agg #[.int .i64 8, .int .i64 0, .slice ca.Ak 0 ca.ck, .slice ca.Av 0 ca.cv, .slice ca.Ao 0 ca.co] := ev_tmp e1
        go_simp
        exact hK.out _ _ (Ext.refl _) hB ⟨ca, rfl, h2⟩
      case s37 =>
        intro a w1 hB hdep K hK
        go_simp
        exact hK.out _ _ (Ext.refl _) hB ⟨⟨none, 0, none, 0, none, 0⟩, rfl, ⟨Rd.none_ _ _ _, Rd.none_ _ _ _, Rd.none_ _ _ _⟩⟩
      case s38 =>
        intro a w1 hB hdep K hK
        obtain ⟨ca, e1, h2⟩ := (show KindF.V w (.cm ⟨8, 1000, [], [], []⟩) (a.eval (.tmp 44)) w1 from hdep 37 (by decide))
        have e1 : a.tmps[44]?.getD undef = .agg #[.int .i64 8, .int .i64 1000, .slice ca.Ak 0 ca.ck, .slice ca.Av 0 ca.cv, .slice ca.Ao 0 ca.co] := ev_tmp e1
        go_simp
        exact hK.out _ _ (Ext.refl _) hB ⟨ca, rfl, h2⟩
      case s39 =>
        intro a w1 hB hdep K hK
        have q : (Instr.makeSlice 22 (.int .i64 8) (.int .i64 8)).run Try.prog w1 = .ok (.slice (some ⟨w1.heap.size, 0, none⟩) 8 8) (w1.alloc (.cells (madeCells #[.int .u8 0] (8 * 1)) 5)) := makeF_run w1 8 (by omega)
        go_simp
        exact hK.out _ _ (Ext.of_below ((Below.refl _ _).alloc (Nat.le_refl _) _)) (hB.alloc hB.size _) ⟨_, 8, rfl, rd_zerosF w1 8⟩
      case s40 =>
        intro a w1 hB hdep K hK
        obtain ⟨A, c, e1, h2⟩ := (show KindF.V w (.sl (List.replicate 8 0)) (a.eval (.tmp 46)) w1 from hdep 39 (by decide))
        have e1 : a.tmps[46]?.getD undef = .slice A 8 c := ev_tmp e1
        go_simp
        exact hK.out _ _ (Ext.refl _) hB ⟨⟨A, c, none, 0, none, 0⟩, rfl, ⟨h2, Rd.none_ _ _ _, Rd.none_ _ _ _⟩⟩
      case s41 =>
        intro a w1 hB hdep K hK
        obtain ⟨ca, e1, h2⟩ := (show KindF.V w (.cm ⟨9, 0, (List.replicate 8 0), [], []⟩) (a.eval (.tmp 47)) w1 from hdep 40 (by decide))
        have e1 : a.tmps[47]?.getD undef = .agg #[.int .i64 9, .int .i64 0, .slice ca.Ak 8 ca.ck, .slice ca.Av 0 ca.cv, .slice ca.Ao 0 ca.co] := ev_tmp e1
        go_simp
        exact hK.out _ _ (Ext.refl _) hB ⟨ca, rfl, h2⟩
      case s42 =>
        intro a w1 hB hdep K hK
        have q : (Instr.makeSlice 22 (.int .i64 9) (.int .i64 9)).run Try.prog w1 = .ok (.slice (some ⟨w1.heap.size, 0, none⟩) 9 9) (w1.alloc (.cells (madeCells #[.int .u8 0] (9 * 1)) 5)) := makeF_run w1 9 (by omega)
        go_simp
        exact hK.out _ _ (Ext.of_below ((Below.refl _ _).alloc (Nat.le_refl _) _)) (hB.alloc hB.size _) ⟨_, 9, rfl, rd_zerosF w1 9⟩
      case s43 =>
        intro a w1 hB hdep K hK
        obtain ⟨A, c, e1, h2⟩ := (show KindF.V w (.sl (List.replicate 9 0)) (a.eval (.tmp 49)) w1 from hdep 42 (by decide))
        have e1 : a.tmps[49]?.getD undef = .slice A 9 c := ev_tmp e1
        go_simp
        exact hK.out _ _ (Ext.refl _) hB ⟨⟨A, c, none, 0, none, 0⟩, rfl, ⟨h2, Rd.none_ _ _ _, Rd.none_ _ _ _⟩⟩
      case s44 =>
        intro a w1 hB hdep K hK
        obtain ⟨ca, e1, h2⟩ := (show KindF.V w (.cm ⟨9, 0, (List.replicate 9 0), [], []⟩) (a.eval (.tmp 50)) w1 from hdep 43 (by decide))
        have e1 : a.tmps[50]?.getD undef = .agg #[.int .i64 9, .int .i64 0, .slice ca.Ak 9 ca.ck, .slice ca.Av 0 ca.cv, .slice ca.Ao 0 ca.co] := ev_tmp e1
        go_simp
        exact hK.out _ _ (Ext.refl _) hB ⟨ca, rfl, h2⟩
      case s45 =>
        intro a w1 hB hdep K hK
        go_simp
        exact hK.out _ _ (Ext.refl _) hB ⟨⟨none, 0, none, 0, none, 0⟩, rfl, ⟨Rd.none_ _ _ _, Rd.none_ _ _ _, Rd.none_ _ _ _⟩⟩
      case s46 =>
        intro a w1 hB hdep K hK
        obtain ⟨ca, e1, h2⟩ := (show KindF.V w (.cm ⟨10, 0, [], [], []⟩) (a.eval (.tmp 52)) w1 from hdep 45 (by decide))
        have e1 : a.tmps[52]?.getD undef = .agg #[.int .i64 10, .int .i64 0, .slice ca.Ak 0 ca.ck, .slice ca.Av 0 ca.cv, .slice ca.Ao 0 ca.co] := ev_tmp e1
        go_simp
        exact hK.out _ _ (Ext.refl _) hB ⟨ca, rfl, h2⟩
      case s47 =>
        intro a w1 hB hdep K hK
        go_simp
        exact hK.out _ _ (Ext.refl _) hB ⟨⟨none, 0, none, 0, none, 0⟩, rfl, ⟨Rd.none_ _ _ _, Rd.none_ _ _ _, Rd.none_ _ _ _⟩⟩
      case s48 =>
        intro a w1 hB hdep K hK
        obtain ⟨ca, e1, h2⟩ := (show KindF.V w (.cm ⟨11, 0, [], [], []⟩) (a.eval (.tmp 54)) w1 from hdep 47 (by decide))
        have e1 : a.tmps[54]?.getD undef = .agg #[.int .i64 11, .int .i64 0, .slice ca.Ak 0 ca.ck, .slice ca.Av 0 ca.cv, .slice ca.Ao 0 ca.co] := ev_tmp e1
        go_simp
        exact hK.out _ _ (Ext.refl _) hB ⟨ca, rfl, h2⟩
      case s49 =>
        intro a w1 hB hdep K hK
        go_simp
        exact hK.out _ _ (Ext.refl _) hB ⟨⟨none, 0, none, 0, none, 0⟩, rfl, ⟨Rd.none_ _ _ _, Rd.none_ _ _ _, Rd.none_ _ _ _⟩⟩
      case s50 =>
        intro a w1 hB hdep K hK
        obtain ⟨ca, e1, h2⟩ := (show KindF.V w (.cm ⟨12, 0, [], [], []⟩) (a.eval (.tmp 56)) w1 from hdep 49 (by decide))
        have e1 : a.tmps[56]?.getD undef = .agg #[.int .i64 12, .int .i64 0, .slice ca.Ak 0 ca.ck, .slice ca.Av 0 ca.cv, .slice ca.Ao 0 ca.co] := ev_tmp e1
        go_simp
        exact hK.out _ _ (Ext.refl _) hB ⟨ca, rfl, h2⟩
      case s51 =>
        intro a w1 hB hdep K hK
        go_simp
        exact hK.out _ _ (Ext.refl _) hB ⟨⟨none, 0, none, 0, none, 0⟩, rfl, ⟨Rd.none_ _ _ _, Rd.none_ _ _ _, Rd.none_ _ _ _⟩⟩
      case s52 =>
        intro a w1 hB hdep K hK
        obtain ⟨ca, e1, h2⟩ := (show KindF.V w (.cm ⟨(-1), 0, [], [], []⟩) (a.eval (.tmp 58)) w1 from hdep 51 (by decide))
        have e1 : a.tmps[58]?.getD undef = .agg #[.int .i64 (-1), .int .i64 0, .slice ca.Ak 0 ca.ck, .slice ca.Av 0 ca.cv, .slice ca.Ao 0 ca.co] := ev_tmp e1
        go_simp
        exact hK.out _ _ (Ext.refl _) hB ⟨ca, rfl, h2⟩
      case s53 =>
        intro a w1 hB hdep K hK
        have q : (Instr.makeSlice 22 (.int .i64 33) (.int .i64 33)).run Try.prog w1 = .ok (.slice (some ⟨w1.heap.size, 0, none⟩) 33 33) (w1.alloc (.cells (madeCells #[.int .u8 0] (33 * 1)) 5)) := makeF_run w1 33 (by omega)
        go_simp
        exact hK.out _ _ (Ext.of_below ((Below.refl _ _).alloc (Nat.le_refl _) _)) (hB.alloc hB.size _) ⟨_, 33, rfl, rd_zerosF w1 33⟩
      case s54 =>
        intro a w1 hB hdep K hK
        obtain ⟨A, c, e1, h2⟩ := (show KindF.V w (.sl (List.replicate 33 0)) (a.eval (.tmp 60)) w1 from hdep 53 (by decide))
        have e1 : a.tmps[60]?.getD undef = .slice A 33 c := ev_tmp e1
        go_simp
        exact hK.out _ _ (Ext.refl _) hB ⟨⟨A, c, none, 0, none, 0⟩, rfl, ⟨h2, Rd.none_ _ _ _, Rd.none_ _ _ _⟩⟩
      case s55 =>
        intro a w1 hB hdep K hK
        obtain ⟨ca, e1, h2⟩ := (show KindF.V w (.cm ⟨1, 0, (List.replicate 33 0), [], []⟩) (a.eval (.tmp 61)) w1 from hdep 54 (by decide))
        have e1 : a.tmps[61]?.getD undef = .agg #[.int .i64 1, .int .i64 0, .slice ca.Ak 33 ca.ck, .slice ca.Av 0 ca.cv, .slice ca.Ao 0 ca.co] := ev_tmp e1
        go_simp
        exact hK.out _ _ (Ext.refl _) hB ⟨ca, rfl, h2⟩
      case s56 =>
        intro a w1 hB hdep K hK
        obtain ⟨ca0, e0, h0⟩ := (show KindF.V w (.row ⟨⟨0, 0, [], [], []⟩, false, 7, 0⟩) (a.eval (.tmp 8)) w1 from hdep 1 (by decide))
        obtain ⟨ca1, e1, h1⟩ := (show KindF.V w (.row ⟨⟨1, 0, [], [], []⟩, true, 0, 0⟩) (a.eval (.tmp 10)) w1 from hdep 3 (by decide))
        obtain ⟨ca2, e2, h2⟩ := (show KindF.V w (.row ⟨⟨2, 0, [], (List.replicate 16 0), []⟩, true, 0, 0⟩) (a.eval (.tmp 13)) w1 from hdep 6 (by decide))
        obtain ⟨ca3, e3, h3⟩ := (show KindF.V w (.row ⟨⟨2, 0, [], (List.replicate 17 0), []⟩, true, 1, 0⟩) (a.eval (.tmp 16)) w1 from hdep 9 (by decide))
        obtain ⟨ca4, e4, h4⟩ := (show KindF.V w (.row ⟨⟨2, 0, [], (List.replicate 33 0), []⟩, false, 1, 0⟩) (a.eval (.tmp 19)) w1 from hdep 12 (by decide))
        obtain ⟨ca5, e5, h5⟩ := (show KindF.V w (.row ⟨⟨3, 0, [], [], []⟩, true, 0, 0⟩) (a.eval (.tmp 21)) w1 from hdep 14 (by decide))
        obtain ⟨ca6, e6, h6⟩ := (show KindF.V w (.row ⟨⟨3, 0, [], [], [97]⟩, true, 2, 0⟩) (a.eval (.tmp 25)) w1 from hdep 18 (by decide))
        obtain ⟨ca7, e7, h7⟩ := (show KindF.V w (.row ⟨⟨4, 0, [], [], []⟩, true, 0, 1⟩) (a.eval (.tmp 27)) w1 from hdep 20 (by decide))
        obtain ⟨ca8, e8, h8⟩ := (show KindF.V w (.row ⟨⟨5, 0, [], [], []⟩, true, 4, 0⟩) (a.eval (.tmp 29)) w1 from hdep 22 (by decide))
        obtain ⟨ca9, e9, h9⟩ := (show KindF.V w (.row ⟨⟨6, 0, [], [], []⟩, true, 0, 0⟩) (a.eval (.tmp 31)) w1 from hdep 24 (by decide))
        obtain ⟨ca10, e10, h10⟩ := (show KindF.V w (.row ⟨⟨6, 999, [], [], []⟩, true, 0, 0⟩) (a.eval (.tmp 33)) w1 from hdep 26 (by decide))
        obtain ⟨ca11, e11, h11⟩ := (show KindF.V w (.row ⟨⟨6, 1000, [], [], []⟩, false, 7, 0⟩) (a.eval (.tmp 35)) w1 from hdep 28 (by decide))
        obtain ⟨ca12, e12, h12⟩ := (show KindF.V w (.row ⟨⟨6, (-1), [], [], []⟩, false, 7, 0⟩) (a.eval (.tmp 37)) w1 from hdep 30 (by decide))
        obtain ⟨ca13, e13, h13⟩ := (show KindF.V w (.row ⟨⟨7, 0, [], [], []⟩, true, 5, 0⟩) (a.eval (.tmp 39)) w1 from hdep 32 (by decide))
        obtain ⟨ca14, e14, h14⟩ := (show KindF.V w (.row ⟨⟨7, 1000, [], [], []⟩, false, 7, 0⟩) (a.eval (.tmp 41)) w1 from hdep 34 (by decide))
        obtain ⟨ca15, e15, h15⟩ := (show KindF.V w (.row ⟨⟨8, 0, [], [], []⟩, true, 5, 0⟩) (a.eval (.tmp 43)) w1 from hdep 36 (by decide))
        obtain ⟨ca16, e16, h16⟩ := (show KindF.V w (.row ⟨⟨8, 1000, [], [], []⟩, false, 5, 0⟩) (a.eval (.tmp 45)) w1 from hdep 38 (by decide))
        obtain ⟨ca17, e17, h17⟩ := (show KindF.V w (.row ⟨⟨9, 0, (List.replicate 8 0), [], []⟩, true, 0, 1⟩) (a.eval (.tmp 48)) w1 from hdep 41 (by decide))
        obtain ⟨ca18, e18, h18⟩ := (show KindF.V w (.row ⟨⟨9, 0, (List.replicate 9 0), [], []⟩, true, 1, 0⟩) (a.eval (.tmp 51)) w1 from hdep 44 (by decide))
        obtain ⟨ca19, e19, h19⟩ := (show KindF.V w (.row ⟨⟨10, 0, [], [], []⟩, true, 5, 0⟩) (a.eval (.tmp 53)) w1 from hdep 46 (by decide))
        obtain ⟨ca20, e20, h20⟩ := (show KindF.V w (.row ⟨⟨11, 0, [], [], []⟩, true, 5, 0⟩) (a.eval (.tmp 55)) w1 from hdep 48 (by decide))
        obtain ⟨ca21, e21, h21⟩ := (show KindF.V w (.row ⟨⟨12, 0, [], [], []⟩, false, 7, 0⟩) (a.eval (.tmp 57)) w1 from hdep 50 (by decide))
        obtain ⟨ca22, e22, h22⟩ := (show KindF.V w (.row ⟨⟨(-1), 0, [], [], []⟩, false, 7, 0⟩) (a.eval (.tmp 59)) w1 from hdep 52 (by decide))
        obtain ⟨ca23, e23, h23⟩ := (show KindF.V w (.row ⟨⟨1, 0, (List.replicate 33 0), [], []⟩, false, 0, 0⟩) (a.eval (.tmp 62)) w1 from hdep 55 (by decide))
        obtain ⟨ie, z, g1, g2, g3, g4⟩ : ∃ ie z, (Try.prog).info? 26 = some ie ∧ ie.zero = some z ∧ ie.size = 8 ∧ z = (.agg #[.int .i64 0, .int .i64 0, .slice none 0 0, .slice none 0 0, .slice none 0 0, .bool false, .int .i64 0, .int .i64 0]) := ⟨_, _, rfl, rfl, by kernel_rfl, by kernel_rfl⟩
        subst g4
        refine wp_buildSlice 27 26 24 _ rfl #[.int .i64 0, .int .i64 0, .slice ca0.Ak 0 ca0.ck, .slice ca0.Av 0 ca0.cv, .slice ca0.Ao 0 ca0.co, .bool false, .int .i64 7, .int .i64 0, .int .i64 1, .int .i64 0, .slice ca1.Ak 0 ca1.ck, .slice ca1.Av 0 ca1.cv, .slice ca1.Ao 0 ca1.co, .bool true, .int .i64 0, .int .i64 0, .int .i64 2, .int .i64 0, .slice ca2.Ak 0 ca2.ck, .slice ca2.Av 16 ca2.cv, .slice ca2.Ao 0 ca2.co, .bool true, .int .i64 0, .int .i64 0, .int .i64 2, .int .i64 0, .slice ca3.Ak 0 ca3.ck, .slice ca3.Av 17 ca3.cv, .slice ca3.Ao 0 ca3.co, .bool true, .int .i64 1, .int .i64 0, .int .i64 2, .int .i64 0, .slice ca4.Ak 0 ca4.ck, .slice ca4.Av 33 ca4.cv, .slice ca4.Ao 0 ca4.co, .bool false, .int .i64 1, .int .i64 0, .int .i64 3, .int .i64 0, .slice ca5.Ak 0 ca5.ck, .slice ca5.Av 0 ca5.cv, .slice ca5.Ao 0 ca5.co, .bool true, .int .i64 0, .int .i64 0, .int .i64 3, .int .i64 0, .slice ca6.Ak 0 ca6.ck, .slice ca6.Av 0 ca6.cv, .slice ca6.Ao 1 ca6.co, .bool true, .int .i64 2, .int .i64 0, .int .i64 4, .int .i64 0, .slice ca7.Ak 0 ca7.ck, .slice ca7.Av 0 ca7.cv, .slice ca7.Ao 0 ca7.co, .bool true, .int .i64 0, .int .i64 1, .int .i64 5, .int .i64 0, .slice ca8.Ak 0 ca8.ck, .slice ca8.Av 0 ca8.cv, .slice ca8.Ao 0 ca8.co, .bool true, .int .i64 4, .int .i64 0, .int .i64 6, .int .i64 0, .slice ca9.Ak 0 ca9.ck, .slice ca9.Av 0 ca9.cv, .slice ca9.Ao 0 ca9.co, .bool true, .int .i64 0, .int .i64 0, .int .i64 6, .int .i64 999, .slice ca10.Ak 0 ca10.ck, .slice ca10.Av 0 ca10.cv, .slice ca10.Ao 0 ca10.co, .bool true, .int .i64 0, .int .i64 0, .int .i64 6, .int .i64 1000, .slice ca11.Ak 0 ca11.ck, .slice ca11.Av 0 ca11.cv, .slice ca11.Ao 0 ca11.co, .bool false, .int .i64 7, .int .i64 0, .int .i64 6, .int .i64 (-1), .slice ca12.Ak 0 ca12.ck, .slice ca12.Av 0 ca12.cv, .slice ca12.Ao 0 ca12.co, .bool false, .int .i64 7, .int .i64 0, .int .i64 7, .int .i64 0, .slice ca13.Ak 0 ca13.ck, .slice ca13.Av 0 ca13.cv, .slice ca13.Ao 0 ca13.co, .bool true, .int .i64 5, .int .i64 0, .int .i64 7, .int .i64 1000, .slice ca14.Ak 0 ca14.ck, .slice ca14.Av 0 ca14.cv, .slice ca14.Ao 0 ca14.co, .bool false, .int .i64 7, .int .i64 0, .int .i64 8, .int .i64 0, .slice ca15.Ak 0 ca15.ck, .slice ca15.Av 0 ca15.cv, .slice ca15.Ao 0 ca15.co, .bool true, .int .i64 5, .int .i64 0, .int .i64 8, .int .i64 1000, .slice ca16.Ak 0 ca16.ck, .slice ca16.Av 0 ca16.cv, .slice ca16.Ao 0 ca16.co, .bool false, .int .i64 5, .int .i64 0, .int .i64 9, .int .i64 0, .slice ca17.Ak 8 ca17.ck, .slice ca17.Av 0 ca17.cv, .slice ca17.Ao 0 ca17.co, .bool true, .int .i64 0, .int .i64 1, .int .i64 9, .int .i64 0, .slice ca18.Ak 9 ca18.ck, .slice ca18.Av 0 ca18.cv, .slice ca18.Ao 0 ca18.co, .bool true, .int .i64 1, .int .i64 0, .int .i64 10, .int .i64 0, .slice ca19.Ak 0 ca19.ck, .slice ca19.Av 0 ca19.cv, .slice ca19.Ao 0 ca19.co, .bool true, .int .i64 5, .int .i64 0, .int .i64 11, .int .i64 0, .slice ca20.Ak 0 ca20.ck, .slice ca20.Av 0 ca20.cv, .slice ca20.Ao 0 ca20.co, .bool true, .int .i64 5, .int .i64 0, .int .i64 12, .int .i64 0, .slice ca21.Ak 0 ca21.ck, .slice ca21.Av 0 ca21.cv, .slice ca21.Ao 0 ca21.co, .bool false, .int .i64 7, .int .i64 0, .int .i64 (-1), .int .i64 0, .slice ca22.Ak 0 ca22.ck, .slice ca22.Av 0 ca22.cv, .slice ca22.Ao 0 ca22.co, .bool false, .int .i64 7, .int .i64 0, .int .i64 1, .int .i64 0, .slice ca23.Ak 33 ca23.ck, .slice ca23.Av 0 ca23.cv, .slice ca23.Ao 0 ca23.co, .bool false, .int .i64 0, .int .i64 0] ie _ Try.underlying27 g1 g2 (by rw [g3]; decide) (by rw [g3]; decide) ?_ ?_
        · simp only [List.map_toArray, List.map_cons, List.map_nil, e0, e1, e2, e3, e4, e5, e6, e7, e8, e9, e10, e11, e12, e13, e14, e15, e16, e17, e18, e19, e20, e21, e22, e23]
          rw [g3]
          kernel_rfl
        · refine hK.out _ _ (Ext.of_below ((Below.refl _ _).alloc (Nat.le_refl _) _)) (hB.alloc hB.size _) ⟨w1.heap.size, rfl, by simp, rows24 (fun j hj => ?_)⟩
          intro r hr
          rcases (show j = 0 ∨ j = 1 ∨ j = 2 ∨ j = 3 ∨ j = 4 ∨ j = 5 ∨ j = 6 ∨ j = 7 ∨ j = 8 ∨ j = 9 ∨ j = 10 ∨ j = 11 ∨ j = 12 ∨ j = 13 ∨ j = 14 ∨ j = 15 ∨ j = 16 ∨ j = 17 ∨ j = 18 ∨ j = 19 ∨ j = 20 ∨ j = 21 ∨ j = 22 ∨ j = 23 by omega) with rfl | rfl | rfl | rfl | rfl | rfl | rfl | rfl | rfl | rfl | rfl | rfl | rfl | rfl | rfl | rfl | rfl | rfl | rfl | rfl | rfl | rfl | rfl | rfl
          · rw [show rowsF[0]? = some ⟨⟨0, 0, [], [], []⟩, false, 7, 0⟩ from rfl] at hr; injection hr with hr; subst hr; exact tab_row rfl (eight rfl (by kernel_rfl) (by kernel_rfl) (by kernel_rfl) (by kernel_rfl) (by kernel_rfl) (by kernel_rfl) (by kernel_rfl) (by kernel_rfl)) h0
          · rw [show rowsF[1]? = some ⟨⟨1, 0, [], [], []⟩, true, 0, 0⟩ from rfl] at hr; injection hr with hr; subst hr; exact tab_row rfl (eight rfl (by kernel_rfl) (by kernel_rfl) (by kernel_rfl) (by kernel_rfl) (by kernel_rfl) (by kernel_rfl) (by kernel_rfl) (by kernel_rfl)) h1
          · rw [show rowsF[2]? = some ⟨⟨2, 0, [], (List.replicate 16 0), []⟩, true, 0, 0⟩ from rfl] at hr; injection hr with hr; subst hr; exact tab_row rfl (eight rfl (by kernel_rfl) (by kernel_rfl) (by kernel_rfl) (by kernel_rfl) (by kernel_rfl) (by kernel_rfl) (by kernel_rfl) (by kernel_rfl)) h2
          · rw [show rowsF[3]? = some ⟨⟨2, 0, [], (List.replicate 17 0), []⟩, true, 1, 0⟩ from rfl] at hr; injection hr with hr; subst hr; exact tab_row rfl (eight rfl (by kernel_rfl) (by kernel_rfl) (by kernel_rfl) (by kernel_rfl) (by kernel_rfl) (by kernel_rfl) (by kernel_rfl) (by kernel_rfl)) h3
          · rw [show rowsF[4]? = some ⟨⟨2, 0, [], (List.replicate 33 0), []⟩, false, 1, 0⟩ from rfl] at hr; injection hr with hr; subst hr; exact tab_row rfl (eight rfl (by kernel_rfl) (by kernel_rfl) (by kernel_rfl) (by kernel_rfl) (by kernel_rfl) (by kernel_rfl) (by kernel_rfl) (by kernel_rfl)) h4
          · rw [show rowsF[5]? = some ⟨⟨3, 0, [], [], []⟩, true, 0, 0⟩ from rfl] at hr; injection hr with hr; subst hr; exact tab_row rfl (eight rfl (by kernel_rfl) (by kernel_rfl) (by kernel_rfl) (by kernel_rfl) (by kernel_rfl) (by kernel_rfl) (by kernel_rfl) (by kernel_rfl)) h5
          · rw [show rowsF[6]? = some ⟨⟨3, 0, [], [], [97]⟩, true, 2, 0⟩ from rfl] at hr; injection hr with hr; subst hr; exact tab_row rfl (eight rfl (by kernel_rfl) (by kernel_rfl) (by kernel_rfl) (by kernel_rfl) (by kernel_rfl) (by kernel_rfl) (by kernel_rfl) (by kernel_rfl)) h6
          · rw [show rowsF[7]? = some ⟨⟨4, 0, [], [], []⟩, true, 0, 1⟩ from rfl] at hr; injection hr with hr; subst hr; exact tab_row rfl (eight rfl (by kernel_rfl) (by kernel_rfl) (by kernel_rfl) (by kernel_rfl) (by kernel_rfl) (by kernel_rfl) (by kernel_rfl) (by kernel_rfl)) h7
          · rw [show rowsF[8]? = some ⟨⟨5, 0, [], [], []⟩, true, 4, 0⟩ from rfl] at hr; injection hr with hr; subst hr; exact tab_row rfl (eight rfl (by kernel_rfl) (by kernel_rfl) (by kernel_rfl) (by kernel_rfl) (by kernel_rfl) (by kernel_rfl) (by kernel_rfl) (by kernel_rfl)) h8
          · rw [show rowsF[9]? = some ⟨⟨6, 0, [], [], []⟩, true, 0, 0⟩ from rfl] at hr; injection hr with hr; subst hr; exact tab_row rfl (eight rfl (by kernel_rfl) (by kernel_rfl) (by kernel_rfl) (by kernel_rfl) (by kernel_rfl) (by kernel_rfl) (by kernel_rfl) (by kernel_rfl)) h9
          · rw [show rowsF[10]? = some ⟨⟨6, 999, [], [], []⟩, true, 0, 0⟩ from rfl] at hr; injection hr with hr; subst hr; exact tab_row rfl (eight rfl (by kernel_rfl) (by kernel_rfl) (by kernel_rfl) (by kernel_rfl) (by kernel_rfl) (by kernel_rfl) (by kernel_rfl) (by kernel_rfl)) h10
          · rw [show rowsF[11]? = some ⟨⟨6, 1000, [], [], []⟩, false, 7, 0⟩ from rfl] at hr; injection hr with hr; subst hr; exact tab_row rfl (eight rfl (by kernel_rfl) (by kernel_rfl) (by kernel_rfl) (by kernel_rfl) (by kernel_rfl) (by kernel_rfl) (by kernel_rfl) (by kernel_rfl)) h11
          · rw [show rowsF[12]? = some ⟨⟨6, (-1), [], [], []⟩, false, 7, 0⟩ from rfl] at hr; injection hr with hr; subst hr; exact tab_row rfl (eight rfl (by kernel_rfl) (by kernel_rfl) (by kernel_rfl) (by kernel_rfl) (by kernel_rfl) (by kernel_rfl) (by kernel_rfl) (by kernel_rfl)) h12
          · rw [show rowsF[13]? = some ⟨⟨7, 0, [], [], []⟩, true, 5, 0⟩ from rfl] at hr; injection hr with hr; subst hr; exact tab_row rfl (eight rfl (by kernel_rfl) (by kernel_rfl) (by kernel_rfl) (by kernel_rfl) (by kernel_rfl) (by kernel_rfl) (by kernel_rfl) (by kernel_rfl)) h13
          · rw [show rowsF[14]? = some ⟨⟨7, 1000, [], [], []⟩, false, 7, 0⟩ from rfl] at hr; injection hr with hr; subst hr; exact tab_row rfl (eight rfl (by kernel_rfl) (by kernel_rfl) (by kernel_rfl) (by kernel_rfl) (by kernel_rfl) (by kernel_rfl) (by kernel_rfl) (by kernel_rfl)) h14
          · rw [show rowsF[15]? = some ⟨⟨8, 0, [], [], []⟩, true, 5, 0⟩ from rfl] at hr; injection hr with hr; subst hr; exact tab_row rfl (eight rfl (by kernel_rfl) (by kernel_rfl) (by kernel_rfl) (by kernel_rfl) (by kernel_rfl) (by kernel_rfl) (by kernel_rfl) (by kernel_rfl)) h15
          · rw [show rowsF[16]? = some ⟨⟨8, 1000, [], [], []⟩, false, 5, 0⟩ from rfl] at hr; injection hr with hr; subst hr; exact tab_row rfl (eight rfl (by kernel_rfl) (by kernel_rfl) (by kernel_rfl) (by kernel_rfl) (by kernel_rfl) (by kernel_rfl) (by kernel_rfl) (by kernel_rfl)) h16
          · rw [show rowsF[17]? = some ⟨⟨9, 0, (List.replicate 8 0), [], []⟩, true, 0, 1⟩ from rfl] at hr; injection hr with hr; subst hr; exact tab_row rfl (eight rfl (by kernel_rfl) (by kernel_rfl) (by kernel_rfl) (by kernel_rfl) (by kernel_rfl) (by kernel_rfl) (by kernel_rfl) (by kernel_rfl)) h17
          · rw [show rowsF[18]? = some ⟨⟨9, 0, (List.replicate 9 0), [], []⟩, true, 1, 0⟩ from rfl] at hr; injection hr with hr; subst hr; exact tab_row rfl (eight rfl (by kernel_rfl) (by kernel_rfl) (by kernel_rfl) (by kernel_rfl) (by kernel_rfl) (by kernel_rfl) (by kernel_rfl) (by kernel_rfl)) h18
          · rw [show rowsF[19]? = some ⟨⟨10, 0, [], [], []⟩, true, 5, 0⟩ from rfl] at hr; injection hr with hr; subst hr; exact tab_row rfl (eight rfl (by kernel_rfl) (by kernel_rfl) (by kernel_rfl) (by kernel_rfl) (by kernel_rfl) (by kernel_rfl) (by kernel_rfl) (by kernel_rfl)) h19
          · rw [show rowsF[20]? = some ⟨⟨11, 0, [], [], []⟩, true, 5, 0⟩ from rfl] at hr; injection hr with hr; subst hr; exact tab_row rfl (eight rfl (by kernel_rfl) (by kernel_rfl) (by kernel_rfl) (by kernel_rfl) (by kernel_rfl) (by kernel_rfl) (by kernel_rfl) (by kernel_rfl)) h20
          · rw [show rowsF[21]? = some ⟨⟨12, 0, [], [], []⟩, false, 7, 0⟩ from rfl] at hr; injection hr with hr; subst hr; exact tab_row rfl (eight rfl (by kernel_rfl) (by kernel_rfl) (by kernel_rfl) (by kernel_rfl) (by kernel_rfl) (by kernel_rfl) (by kernel_rfl) (by kernel_rfl)) h21
          · rw [show rowsF[22]? = some ⟨⟨(-1), 0, [], [], []⟩, false, 7, 0⟩ from rfl] at hr; injection hr with hr; subst hr; exact tab_row rfl (eight rfl (by kernel_rfl) (by kernel_rfl) (by kernel_rfl) (by kernel_rfl) (by kernel_rfl) (by kernel_rfl) (by kernel_rfl) (by kernel_rfl)) h22
          · rw [show rowsF[23]? = some ⟨⟨1, 0, (List.replicate 33 0), [], []⟩, false, 0, 0⟩ from rfl] at hr; injection hr with hr; subst hr; exact tab_row rfl (eight rfl (by kernel_rfl) (by kernel_rfl) (by kernel_rfl) (by kernel_rfl) (by kernel_rfl) (by kernel_rfl) (by kernel_rfl) (by kernel_rfl)) h23
      case s57 =>
        intro a w1 hB hdep K hK
        obtain ⟨b, e1, h2⟩ := (show KindF.V w (.big) (a.eval (.tmp 63)) w1 from hdep 56 (by decide))
        have e1 : a.tmps[63]?.getD undef = .slice (some ⟨b, 0, none⟩) 24 24 := ev_tmp e1
        go_simp
        exact hK.out _ _ (Ext.refl _) hB ⟨b, rfl, h2⟩
    case hm => kernel_rfl
    case hb => kernel_rfl
    case inj =>
      intro i j hi hj h
      have h1 : ((List.range 58).all fun i => (List.range 58).all fun j => !(dstF i == dstF j) || (i == j)) = true := by kernel_rfl
      have h2 := List.all_eq_true.1 (List.all_eq_true.1 h1 i (List.mem_range.2 hi)) j (List.mem_range.2 hj)
      simpa [h] using h2
    case dst => exact all_ops (AllFrom.cons ⟨rfl, rfl⟩ (AllFrom.cons ⟨rfl, rfl⟩ (AllFrom.cons ⟨rfl, rfl⟩ (AllFrom.cons ⟨rfl, rfl⟩ (AllFrom.cons ⟨rfl, rfl⟩ (AllFrom.cons ⟨rfl, rfl⟩ (AllFrom.cons ⟨rfl, rfl⟩ (AllFrom.cons ⟨rfl, rfl⟩ (AllFrom.cons ⟨rfl, rfl⟩ (AllFrom.cons ⟨rfl, rfl⟩ (AllFrom.cons ⟨rfl, rfl⟩ (AllFrom.cons ⟨rfl, rfl⟩ (AllFrom.cons ⟨rfl, rfl⟩ (AllFrom.cons ⟨rfl, rfl⟩ (AllFrom.cons ⟨rfl, rfl⟩ (AllFrom.cons ⟨rfl, rfl⟩ (AllFrom.cons ⟨rfl, rfl⟩ (AllFrom.cons ⟨rfl, rfl⟩ (AllFrom.cons ⟨rfl, rfl⟩ (AllFrom.cons ⟨rfl, rfl⟩ (AllFrom.cons ⟨rfl, rfl⟩ (AllFrom.cons ⟨rfl, rfl⟩ (AllFrom.cons ⟨rfl, rfl⟩ (AllFrom.cons ⟨rfl, rfl⟩ (AllFrom.cons ⟨rfl, rfl⟩ (AllFrom.cons ⟨rfl, rfl⟩ (AllFrom.cons ⟨rfl, rfl⟩ (AllFrom.cons ⟨rfl, rfl⟩ (AllFrom.cons ⟨rfl, rfl⟩ (AllFrom.cons ⟨rfl, rfl⟩ (AllFrom.cons ⟨rfl, rfl⟩ (AllFrom.cons ⟨rfl, rfl⟩ (AllFrom.cons ⟨rfl, rfl⟩ (AllFrom.cons ⟨rfl, rfl⟩ (AllFrom.cons ⟨rfl, rfl⟩ (AllFrom.cons ⟨rfl, rfl⟩ (AllFrom.cons ⟨rfl, rfl⟩ (AllFrom.cons ⟨rfl, rfl⟩ (AllFrom.cons ⟨rfl, rfl⟩ (AllFrom.cons ⟨rfl, rfl⟩ (AllFrom.cons ⟨rfl, rfl⟩ (AllFrom.cons ⟨rfl, rfl⟩ (AllFrom.cons ⟨rfl, rfl⟩ (AllFrom.cons ⟨rfl, rfl⟩ (AllFrom.cons ⟨rfl, rfl⟩ (AllFrom.cons ⟨rfl, rfl⟩ (AllFrom.cons ⟨rfl, rfl⟩ (AllFrom.cons ⟨rfl, rfl⟩ (AllFrom.cons ⟨rfl, rfl⟩ (AllFrom.cons ⟨rfl, rfl⟩ (AllFrom.cons ⟨rfl, rfl⟩ (AllFrom.cons ⟨rfl, rfl⟩ (AllFrom.cons ⟨rfl, rfl⟩ (AllFrom.cons ⟨rfl, rfl⟩ (AllFrom.cons ⟨rfl, rfl⟩ (AllFrom.cons ⟨rfl, rfl⟩ (AllFrom.cons ⟨rfl, rfl⟩ (AllFrom.cons ⟨rfl, rfl⟩ AllFrom.nil))))))))))))))))))))))))))))))))))))))))))))))))))))))))))
    case deps =>
      intro i hi j hj
      refine deps_of (deps := depsF) ?_ i hi j hj
      kernel_rfl
    case put => exact all_ops (AllFrom.cons (fun _ _ => by kernel_rfl) (AllFrom.cons (fun _ _ => by kernel_rfl) (AllFrom.cons (fun _ _ => by kernel_rfl) (AllFrom.cons (fun _ _ => by kernel_rfl) (AllFrom.cons (fun _ _ => by kernel_rfl) (AllFrom.cons (fun _ _ => by kernel_rfl) (AllFrom.cons (fun _ _ => by kernel_rfl) (AllFrom.cons (fun _ _ => by kernel_rfl) (AllFrom.cons (fun _ _ => by kernel_rfl) (AllFrom.cons (fun _ _ => by kernel_rfl) (AllFrom.cons (fun _ _ => by kernel_rfl) (AllFrom.cons (fun _ _ => by kernel_rfl) (AllFrom.cons (fun _ _ => by kernel_rfl) (AllFrom.cons (fun _ _ => by kernel_rfl) (AllFrom.cons (fun _ _ => by kernel_rfl) (AllFrom.cons (fun _ _ => by kernel_rfl) (AllFrom.cons (fun _ _ => by kernel_rfl) (AllFrom.cons (fun _ _ => by kernel_rfl) (AllFrom.cons (fun _ _ => by kernel_rfl) (AllFrom.cons (fun _ _ => by kernel_rfl) (AllFrom.cons (fun _ _ => by kernel_rfl) (AllFrom.cons (fun _ _ => by kernel_rfl) (AllFrom.cons (fun _ _ => by kernel_rfl) (AllFrom.cons (fun _ _ => by kernel_rfl) (AllFrom.cons (fun _ _ => by kernel_rfl) (AllFrom.cons (fun _ _ => by kernel_rfl) (AllFrom.cons (fun _ _ => by kernel_rfl) (AllFrom.cons (fun _ _ => by kernel_rfl) (AllFrom.cons (fun _ _ => by kernel_rfl) (AllFrom.cons (fun _ _ => by kernel_rfl) (AllFrom.cons (fun _ _ => by kernel_rfl) (AllFrom.cons (fun _ _ => by kernel_rfl) (AllFrom.cons (fun _ _ => by kernel_rfl) (AllFrom.cons (fun _ _ => by kernel_rfl) (AllFrom.cons (fun _ _ => by kernel_rfl) (AllFrom.cons (fun _ _ => by kernel_rfl) (AllFrom.cons (fun _ _ => by kernel_rfl) (AllFrom.cons (fun _ _ => by kernel_rfl) (AllFrom.cons (fun _ _ => by kernel_rfl) (AllFrom.cons (fun _ _ => by kernel_rfl) (AllFrom.cons (fun _ _ => by kernel_rfl) (AllFrom.cons (fun _ _ => by kernel_rfl) (AllFrom.cons (fun _ _ => by kernel_rfl) (AllFrom.cons (fun _ _ => by kernel_rfl) (AllFrom.cons (fun _ _ => by kernel_rfl) (AllFrom.cons (fun _ _ => by kernel_rfl) (AllFrom.cons (fun _ _ => by kernel_rfl) (AllFrom.cons (fun _ _ => by kernel_rfl) (AllFrom.cons (fun _ _ => by kernel_rfl) (AllFrom.cons (fun _ _ => by kernel_rfl) (AllFrom.cons (fun _ _ => by kernel_rfl) (AllFrom.cons (fun _ _ => by kernel_rfl) (AllFrom.cons (fun _ _ => by kernel_rfl) (AllFrom.cons (fun _ _ => by kernel_rfl) (AllFrom.cons (fun _ _ => by kernel_rfl) (AllFrom.cons (fun _ _ => by kernel_rfl) (AllFrom.cons (fun _ _ => by kernel_rfl) (AllFrom.cons (fun _ _ => by kernel_rfl) AllFrom.nil))))))))))))))))))))))))))))))))))))))))))))))))))))))))))
    case ev => exact all_ops (AllFrom.cons (fun _ => by kernel_rfl) (AllFrom.cons (fun _ => by kernel_rfl) (AllFrom.cons (fun _ => by kernel_rfl) (AllFrom.cons (fun _ => by kernel_rfl) (AllFrom.cons (fun _ => by kernel_rfl) (AllFrom.cons (fun _ => by kernel_rfl) (AllFrom.cons (fun _ => by kernel_rfl) (AllFrom.cons (fun _ => by kernel_rfl) (AllFrom.cons (fun _ => by kernel_rfl) (AllFrom.cons (fun _ => by kernel_rfl) (AllFrom.cons (fun _ => by kernel_rfl) (AllFrom.cons (fun _ => by kernel_rfl) (AllFrom.cons (fun _ => by kernel_rfl) (AllFrom.cons (fun _ => by kernel_rfl) (AllFrom.cons (fun _ => by kernel_rfl) (AllFrom.cons (fun _ => by kernel_rfl) (AllFrom.cons (fun _ => by kernel_rfl) (AllFrom.cons (fun _ => by kernel_rfl) (AllFrom.cons (fun _ => by kernel_rfl) (AllFrom.cons (fun _ => by kernel_rfl) (AllFrom.cons (fun _ => by kernel_rfl) (AllFrom.cons (fun _ => by kernel_rfl) (AllFrom.cons (fun _ => by kernel_rfl) (AllFrom.cons (fun _ => by kernel_rfl) (AllFrom.cons (fun _ => by kernel_rfl) (AllFrom.cons (fun _ => by kernel_rfl) (AllFrom.cons (fun _ => by kernel_rfl) (AllFrom.cons (fun _ => by kernel_rfl) (AllFrom.cons (fun _ => by kernel_rfl) (AllFrom.cons (fun _ => by kernel_rfl) (AllFrom.cons (fun _ => by kernel_rfl) (AllFrom.cons (fun _ => by kernel_rfl) (AllFrom.cons (fun _ => by kernel_rfl) (AllFrom.cons (fun _ => by kernel_rfl) (AllFrom.cons (fun _ => by kernel_rfl) (AllFrom.cons (fun _ => by kernel_rfl) (AllFrom.cons (fun _ => by kernel_rfl) (AllFrom.cons (fun _ => by kernel_rfl) (AllFrom.cons (fun _ => by kernel_rfl) (AllFrom.cons (fun _ => by kernel_rfl) (AllFrom.cons (fun _ => by kernel_rfl) (AllFrom.cons (fun _ => by kernel_rfl) (AllFrom.cons (fun _ => by kernel_rfl) (AllFrom.cons (fun _ => by kernel_rfl) (AllFrom.cons (fun _ => by kernel_rfl) (AllFrom.cons (fun _ => by kernel_rfl) (AllFrom.cons (fun _ => by kernel_rfl) (AllFrom.cons (fun _ => by kernel_rfl) (AllFrom.cons (fun _ => by kernel_rfl) (AllFrom.cons (fun _ => by kernel_rfl) (AllFrom.cons (fun _ => by kernel_rfl) (AllFrom.cons (fun _ => by kernel_rfl) (AllFrom.cons (fun _ => by kernel_rfl) (AllFrom.cons (fun _ => by kernel_rfl) (AllFrom.cons (fun _ => by kernel_rfl) (AllFrom.cons (fun _ => by kernel_rfl) (AllFrom.cons (fun _ => by kernel_rfl) (AllFrom.cons (fun _ => by kernel_rfl) AllFrom.nil))))))))))))))))))))))))))))))))))))))))))))))))))))))))))
    case done =>
      intro U w' hB hV
      obtain ⟨b, e1, h2⟩ := (show KindF.V w (.big) (U 3) w' from hV 57 (by decide))
      unfold frameF
      rw [e1]
      have HT2 := Lib.hid h2
      have HB2 := Lib.hid hB
      clear hV e1 h2 hB
      go_wp2_with fail
      go_meet
      exact ⟨b, rfl, HT2, HB2⟩
  case rest =>
    obtain ⟨b, rfl, HT, HB⟩ := hcut
    rename World => w1
    have e1 := and_255 n
    obtain ⟨j, hj, hj24⟩ : ∃ j : Nat, (n % 256).tmod 24 = (j : Int) ∧ j < 24 := by
      rw [Int.tmod_eq_emod_of_nonneg (by omega)]
      have h1 := Int.emod_nonneg (n % 256) (show (24 : Int) ≠ 0 by omega)
      have h2 := Int.emod_lt_of_pos (n % 256) (show (0 : Int) < 24 by omega)
      exact ⟨(n % 256 % 24).toNat, by omega, by omega⟩
    have hji : (j : Int) < 24 := by omega
    obtain ⟨r, hr⟩ : ∃ r, rowsF[j]? = some r := ⟨_, List.getElem?_eq_getElem (by rw [rowsF_length]; exact hj24)⟩
    have HG := Lib.hid (rowsF_at hr)
    obtain ⟨ca, hcells, hrc⟩ := HT.out.2 j r hr
    have q0 : w1.cell? ⟨b, j * 8 + 0, none⟩ = some (.int .i64 r.c.kind) := hcells 0 _ rfl
    have q1 : w1.cell? ⟨b, j * 8 + 1, none⟩ = some (.int .i64 r.c.who) := hcells 1 _ rfl
    have q2 : w1.cell? ⟨b, j * 8 + 2, none⟩ = some (.slice ca.Ak r.c.key.length ca.ck) := hcells 2 _ rfl
    have q3 : w1.cell? ⟨b, j * 8 + 3, none⟩ = some (.slice ca.Av r.c.val.length ca.cv) := hcells 3 _ rfl
    have q4 : w1.cell? ⟨b, j * 8 + 4, none⟩ = some (.slice ca.Ao r.c.old.length ca.co) := hcells 4 _ rfl
    have q5 : w1.cell? ⟨b, j * 8 + 5, none⟩ = some (.bool r.ok) := hcells 5 _ rfl
    have q6 : w1.cell? ⟨b, j * 8 + 6, none⟩ = some (.int .i64 r.e) := hcells 6 _ rfl
    have q7 : w1.cell? ⟨b, j * 8 + 7, none⟩ = some (.int .i64 r.n) := hcells 7 _ rfl
    rw [Nat.add_zero] at q0
    have HRC := Lib.hid hrc
    clear hcells hrc hr HT
    go_upto_region 3 with fail
    obtain ⟨g, hg⟩ : ∃ g, w1.heap.size = g := ⟨_, rfl⟩
    have b2 : Below w1.heap.size w1 (w1.alloc (.cells #[.int .i64 r.c.kind, .int .i64 r.c.who, .slice ca.Ak r.c.key.length ca.ck, .slice ca.Av r.c.val.length ca.cv, .slice ca.Ao r.c.old.length ca.co, .bool r.ok, .int .i64 r.e, .int .i64 r.n] 26)) := (Below.refl _ _).alloc (Nat.le_refl _) _
    have HB2 := Lib.hid (HB.out.trans (b2.mono HB.out.size))
    have HX : Hid (Blk (w1.alloc (.cells #[.int .i64 r.c.kind, .int .i64 r.c.who, .slice ca.Ak r.c.key.length ca.ck, .slice ca.Av r.c.val.length ca.cv, .slice ca.Ao r.c.old.length ca.co, .bool r.ok, .int .i64 r.e, .int .i64 r.n] 26)) g 26 #[.int .i64 r.c.kind, .int .i64 r.c.who, .slice ca.Ak r.c.key.length ca.ck, .slice ca.Av r.c.val.length ca.cv, .slice ca.Ao r.c.old.length ca.co, .bool r.ok, .int .i64 r.e, .int .i64 r.n]) := Lib.hid (by subst hg; exact Blk.new _ _ _)
    have HRC2 := Lib.hid (HRC.out.below' b2)
    obtain ⟨w2, hw2⟩ : ∃ x, w1.alloc (.cells #[.int .i64 r.c.kind, .int .i64 r.c.who, .slice ca.Ak r.c.key.length ca.ck, .slice ca.Av r.c.val.length ca.cv, .slice ca.Ao r.c.old.length ca.co, .bool r.ok, .int .i64 r.e, .int .i64 r.n] 26) = x := ⟨_, rfl⟩
    rw [hw2] at HB2 HX HRC2
    rw [hw2, hg]
    clear hw2 hg b2 HRC HB q0 q1 q2 q3 q4 q5 q6 q7
    have y0 := HX.out.cell 0
    have y1 := HX.out.cell 1
    have y2 := HX.out.cell 2
    have y3 := HX.out.cell 3
    have y4 := HX.out.cell 4
    have h1 := hC (W := w) (a := ⟨none, 0, none, 0, none, 0, none, 0⟩) (s := ⟨[], [], [], []⟩) Ob.Inv.nil HG.out.fit (RdO.nil _ 0) HRC2.out HB2.out
    obtain ⟨x, hx⟩ : ∃ x, Ob.apply ⟨[], [], [], []⟩ r.c = x := ⟨_, rfl⟩
    have hee : x.e = r.e := by rw [← hx]; exact HG.out.e
    have hnn : x.n = r.n := by rw [← hx]; exact HG.out.n
    rw [hx] at h1
    have H1 : Hid (Calls Try.prog 12 #[.agg #[.slice none 0 0, .slice none 0 0, .slice none 0 0, .slice none 0 0], .agg #[.int .i64 r.c.kind, .int .i64 r.c.who, .slice ca.Ak r.c.key.length ca.ck, .slice ca.Av r.c.val.length ca.cv, .slice ca.Ao r.c.old.length ca.co]] w2 (GotO w w2 x)) := Lib.hid h1
    have HE := Lib.hid hee
    have HN := Lib.hid hnn
    clear h1 hx hee hnn
    go_upto_region 4 with (first
      | (go_at_call 12; refine H1.out.mono ?_; rintro e w3 ⟨d, A3, c3, rfl, ho3, hv3, hB3, hb3⟩; unfold objV resV; simp only [objC]; rw [HE.out, HN.out])
      | fail)
    have b4 : Below w3.heap.size w3 ((w3.alloc (.cells #[.slice d.A0 x.s.reg.length d.c0, .slice d.A1 x.s.q.length d.c1, .slice d.A2 x.s.lk.length d.c2, .slice d.A3 x.s.mp.length d.c3] 32)).alloc (.cells #[.int .i64 r.e, .slice A3 x.v.length c3, .int .i64 r.n] 34)) := ((Below.refl _ _).alloc (Nat.le_refl _) _).alloc (by simp) _
    have hbb := hb3.trans (b4.mono hb3.size)
    have HX4 := Lib.hid (HX.out.below hbb)
    have HB4 := Lib.hid (hB3.trans (b4.mono hB3.size))
    have HR4 : Hid (Blk ((w3.alloc (.cells #[.slice d.A0 x.s.reg.length d.c0, .slice d.A1 x.s.q.length d.c1, .slice d.A2 x.s.lk.length d.c2, .slice d.A3 x.s.mp.length d.c3] 32)).alloc (.cells #[.int .i64 r.e, .slice A3 x.v.length c3, .int .i64 r.n] 34)) (w3.heap.size + 1) 34 #[.int .i64 r.e, .slice A3 x.v.length c3, .int .i64 r.n]) := Lib.hid (by
      have := Blk.new (w3.alloc (.cells #[.slice d.A0 x.s.reg.length d.c0, .slice d.A1 x.s.q.length d.c1, .slice d.A2 x.s.lk.length d.c2, .slice d.A3 x.s.mp.length d.c3] 32)) 34 #[.int .i64 r.e, .slice A3 x.v.length c3, .int .i64 r.n]
      rwa [World.size_alloc] at this)
    obtain ⟨h, hh⟩ : ∃ x, w3.heap.size = x := ⟨_, rfl⟩
    obtain ⟨w4, hw4⟩ : ∃ y, (w3.alloc (.cells #[.slice d.A0 x.s.reg.length d.c0, .slice d.A1 x.s.q.length d.c1, .slice d.A2 x.s.lk.length d.c2, .slice d.A3 x.s.mp.length d.c3] 32)).alloc (.cells #[.int .i64 r.e, .slice A3 x.v.length c3, .int .i64 r.n] 34) = y := ⟨_, rfl⟩
    rw [hw4] at HX4 HB4
    rw [hw4, hh] at HR4
    rw [hw4, hh]
    clear hw4 hh b4 hbb HX HB2 ho3 hv3 hB3 hb3 H1 HE HN HRC2 y0 y1 y2 y3 y4
    have hok : Calls Try.prog 13 #[.agg #[.int .i64 r.c.kind, .int .i64 r.c.who, .slice ca.Ak r.c.key.length ca.ck, .slice ca.Av r.c.val.length ca.cv, .slice ca.Ao r.c.old.length ca.co]] = Calls Try.prog 13 #[cmdV ca r.c] := rfl
    have F1 : Hid (∀ wx, Calls Try.prog 13 #[.agg #[.int .i64 r.c.kind, .int .i64 r.c.who, .slice ca.Ak r.c.key.length ca.ck, .slice ca.Av r.c.val.length ca.cv, .slice ca.Ao r.c.old.length ca.co]] wx fun e w' => e = .returned (.bool r.ok) ∧ Below wx.heap.size wx w') := Lib.hid (fun wx => by
      have := hO wx ca r.c
      rwa [HG.out.ok] at this)
    have L1 : Hid (∀ wx, Below w4.heap.size w4 wx → Blk wx g 26 #[.int .i64 r.c.kind, .int .i64 r.c.who, .slice ca.Ak r.c.key.length ca.ck, .slice ca.Av r.c.val.length ca.cv, .slice ca.Ao r.c.old.length ca.co, .bool r.ok, .int .i64 r.e, .int .i64 r.n]) := Lib.hid (fun wx hb => HX4.out.below hb)
    have L2 : Hid (∀ wx, Below w4.heap.size w4 wx → Blk wx (h + 1) 34 #[.int .i64 r.e, .slice A3 x.v.length c3, .int .i64 r.n]) := Lib.hid (fun wx hb => HR4.out.below hb)
    refine wp_region_held_drew (S := fun w' => Below w4.heap.size w4 w') (by kernel_rfl) (Below.refl _ _).drew (fun _ => ?_)
    have hS0 : Below w4.heap.size w4 w4.drew := (Below.refl _ _).drew
    generalize w4.drew = w5 at hS0 ⊢
    have hS := Lib.hid hS0
    clear hS0 hok
    refine wpAnyH_take (i := 0) (v := .pointer (some ⟨g, 0, none⟩)) rfl (by kernel_rfl) (by kernel_rfl) (by kernel_rfl) (fun _ _ _ h => h) (Or.inl ⟨by kernel_rfl, fun w _ => by go_simp⟩) hS.out ?_
    refine wpAnyH_take (i := 1) (v := .agg #[.int .i64 r.c.kind, .int .i64 r.c.who, .slice ca.Ak r.c.key.length ca.ck, .slice ca.Av r.c.val.length ca.cv, .slice ca.Ao r.c.old.length ca.co]) rfl (by kernel_rfl) (by kernel_rfl) (by kernel_rfl) (fun _ _ _ h => h) (Or.inl ⟨by kernel_rfl, fun w h => by have q0 := (L1.out _ h).cell 0; have q1 := (L1.out _ h).cell 1; have q2 := (L1.out _ h).cell 2; have q3 := (L1.out _ h).cell 3; have q4 := (L1.out _ h).cell 4; go_simp⟩) hS.out ?_
    refine wpAnyH_take (i := 3) (v := .pointer (some ⟨g, 5, none⟩)) rfl (by kernel_rfl) (by kernel_rfl) (by kernel_rfl) (fun _ _ _ h => h) (Or.inl ⟨by kernel_rfl, fun w _ => by go_simp⟩) hS.out ?_
    refine wpAnyH_take (i := 4) (v := .bool r.ok) rfl (by kernel_rfl) (by kernel_rfl) (by kernel_rfl) (fun _ _ _ h => h) (Or.inl ⟨by kernel_rfl, fun w h => by have q := (L1.out _ h).cell 5; go_simp⟩) hS.out ?_
    refine wpAnyH_ready (rs := [2]) (by kernel_rfl) (by simp) ?_
    refine AllReadyH.cons rfl (fun K hK => ?_) AllReadyH.nil
    go_simp
    refine (F1.out _).mono ?_
    rintro en w6 ⟨rfl, hb6⟩
    have hS := Lib.hid (hS.out.trans (hb6.mono hS.out.size))
    go_simp
    refine hK.out _ _ hS.out (fun _ => ?_)
    clear hK K
    refine wpAnyH_take (i := 5) (v := .bool true) rfl (by kernel_rfl) (by kernel_rfl) (by kernel_rfl) (fun _ _ _ h => h) (Or.inl ⟨by kernel_rfl, fun w _ => by go_simp⟩) hS.out ?_
    refine wpAnyH_take (i := 6) (v := .bool true) rfl (by kernel_rfl) (by kernel_rfl) (by kernel_rfl) (fun _ _ _ h => h) (Or.inl ⟨by kernel_rfl, fun w _ => by go_simp⟩) hS.out ?_
    refine wpAnyH_take (i := 7) (v := .pointer (some ⟨h + 1, 0, none⟩)) rfl (by kernel_rfl) (by kernel_rfl) (by kernel_rfl) (fun _ _ _ h => h) (Or.inl ⟨by kernel_rfl, fun w _ => by go_simp⟩) hS.out ?_
    refine wpAnyH_take (i := 8) (v := .int .i64 r.e) rfl (by kernel_rfl) (by kernel_rfl) (by kernel_rfl) (fun _ _ _ h => h) (Or.inl ⟨by kernel_rfl, fun w h => by have q := (L2.out _ h).cell 0; go_simp⟩) hS.out ?_
    refine wpAnyH_take (i := 9) (v := .pointer (some ⟨g, 6, none⟩)) rfl (by kernel_rfl) (by kernel_rfl) (by kernel_rfl) (fun _ _ _ h => h) (Or.inl ⟨by kernel_rfl, fun w _ => by go_simp⟩) hS.out ?_
    refine wpAnyH_take (i := 10) (v := .int .i64 r.e) rfl (by kernel_rfl) (by kernel_rfl) (by kernel_rfl) (fun _ _ _ h => h) (Or.inl ⟨by kernel_rfl, fun w h => by have q := (L1.out _ h).cell 6; go_simp⟩) hS.out ?_
    refine wpAnyH_take (i := 11) (v := .bool true) rfl (by kernel_rfl) (by kernel_rfl) (by kernel_rfl) (fun _ _ _ h => h) (Or.inl ⟨by kernel_rfl, fun w _ => by go_simp⟩) hS.out ?_
    refine wpAnyH_take (i := 12) (v := .bool true) rfl (by kernel_rfl) (by kernel_rfl) (by kernel_rfl) (fun _ _ _ h => h) (Or.inl ⟨by kernel_rfl, fun w _ => by go_simp⟩) hS.out ?_
    refine wpAnyH_take (i := 13) (v := .bool true) rfl (by kernel_rfl) (by kernel_rfl) (by kernel_rfl) (fun _ _ _ h => h) (Or.inl ⟨by kernel_rfl, fun w _ => by go_simp⟩) hS.out ?_
    refine wpAnyH_take (i := 14) (v := .pointer (some ⟨h + 1, 2, none⟩)) rfl (by kernel_rfl) (by kernel_rfl) (by kernel_rfl) (fun _ _ _ h => h) (Or.inl ⟨by kernel_rfl, fun w _ => by go_simp⟩) hS.out ?_
    refine wpAnyH_take (i := 15) (v := .int .i64 r.n) rfl (by kernel_rfl) (by kernel_rfl) (by kernel_rfl) (fun _ _ _ h => h) (Or.inl ⟨by kernel_rfl, fun w h => by have q := (L2.out _ h).cell 2; go_simp⟩) hS.out ?_
    refine wpAnyH_take (i := 16) (v := .pointer (some ⟨g, 7, none⟩)) rfl (by kernel_rfl) (by kernel_rfl) (by kernel_rfl) (fun _ _ _ h => h) (Or.inl ⟨by kernel_rfl, fun w _ => by go_simp⟩) hS.out ?_
    refine wpAnyH_take (i := 17) (v := .int .i64 r.n) rfl (by kernel_rfl) (by kernel_rfl) (by kernel_rfl) (fun _ _ _ h => h) (Or.inl ⟨by kernel_rfl, fun w h => by have q := (L1.out _ h).cell 7; go_simp⟩) hS.out ?_
    refine wpAnyH_take (i := 18) (v := .bool true) rfl (by kernel_rfl) (by kernel_rfl) (by kernel_rfl) (fun _ _ _ h => h) (Or.inl ⟨by kernel_rfl, fun w _ => by go_simp⟩) hS.out ?_
    refine wpAnyH_take (i := 19) (v := .bool true) rfl (by kernel_rfl) (by kernel_rfl) (by kernel_rfl) (fun _ _ _ h => h) (Or.inl ⟨by kernel_rfl, fun w _ => by go_simp⟩) hS.out ?_
    refine wpAnyH_take (i := 20) (v := .bool true) rfl (by kernel_rfl) (by kernel_rfl) (by kernel_rfl) (fun _ _ _ h => h) (Or.inl ⟨by kernel_rfl, fun w _ => by go_simp⟩) hS.out ?_
    refine wpAnyH_ready (rs := [21]) (by kernel_rfl) (by simp) ?_
    refine AllReadyH.cons rfl (fun K hK => ?_) AllReadyH.nil
    go_simp
    refine (hA _).mono ?_
    rintro en w7 ⟨rfl, hb7⟩
    have hS := Lib.hid (hS.out.trans (hb7.mono hS.out.size))
    go_simp
    refine hK.out _ _ hS.out (fun _ => ?_)
    clear hK K
    refine wpAnyH_take (i := 22) (v := .bool true) rfl (by kernel_rfl) (by kernel_rfl) (by kernel_rfl) (fun _ _ _ h => h) (Or.inl ⟨by kernel_rfl, fun w _ => by go_simp⟩) hS.out ?_
    refine wpAnyH_take (i := 23) (v := .bool true) rfl (by kernel_rfl) (by kernel_rfl) (by kernel_rfl) (fun _ _ _ h => h) (Or.inl ⟨by kernel_rfl, fun w _ => by go_simp⟩) hS.out ?_
    refine wpAnyH_done (by kernel_rfl) ?_ _
    have HEND := Lib.hid (HB4.out.trans (hS.out.mono HB4.out.size))
    clear e1 hj hji
    go_wp2_with fail
    go_ret
    exact ⟨rfl, HEND.out⟩
end Go.Proofs.Ytcmjpjhaaookfaa
