/- WindAll: the walk. -/
import Derived.Test.YtomiobnjllaalaaWindMI
import Derived.Test.YtomiobnjllaalaaWindAwake
import Derived.Test.YtomiobnjllaalaaBitsKit
namespace Go.Proofs.Ytomiobnjllaalaa
open Go.RowKit
set_option linter.unusedVariables false
attribute [local go_sem] Oper.semAt_some
theorem intC : CellT Try.prog 22 3 (.int .i64 0) 8 := ⟨Try.underlying22, by kernel_rfl, rfl⟩
/-- append at one operation, of one-cell elements: for a region whose order is drawn -/
theorem wp_append_cells {P : Program} {t e : TypeId} {z : Value} {bytes : Nat} {W w : World} (hT : CellT P t e z bytes) {o : Oper} {a : Act} {next : Act → World → Prop} {Q : Exit → Act → World → Prop} (s x : Operand)
    (ho : o.op = .call { callee := .builtin .append, args := #[s, x], argTypes := #[t, t] })
    {A : Option Addr} {n c : Nat} {vs : List Value} (hs : a.eval s = .slice A n c) (hown : w.ownsRow W.heap.size e 1 (.slice A n c) n vs)
    {B : Nat} {A' : Option Addr} {m c' : Nat} {ws : List Value} (hx : a.eval x = .slice A' m c') (hr : Rd w B A' m ws) (h1 : ∀ u ∈ ws, u.oneCell' = true) (hnm : n + m ≤ 1099511627776) (hby : bytes ≤ 64) (hB : Below W.heap.size W w)
    {N : Nat} (hN : n + m = N) {us : List Value} (hus : vs ++ ws = us) (h : ∀ A2 c2 w2, w2.ownsRow W.heap.size e 1 (.slice A2 N c2) N us → Below W.heap.size W w2 → w.grownBy w2 (Value.slice A n c).ownBlock → next (a.put o.dst (.slice A2 N c2)) w2) :
    o.wp P a w next Q := by
  subst hN hus
  obtain ⟨i, hi, hz, hsz, hbi⟩ := info_parts hT.info
  obtain ⟨v', w', hrun, h2, h3, h4⟩ := run_append_rd (P := P) w W.heap.size t o.type e i z bytes hT.under hi hz hsz hbi hT.one _ n vs hown B A' m c' ws hr h1
    (by unfold maxLen; omega) (by have := Nat.mul_le_mul hnm hby; omega) hB.size
  have hlt := hown.lt
  have hB2 : Below W.heap.size W w' := hB.grown h3 hB.size (fun k hk => (hlt k hk).1)
  obtain ⟨A2, c2, rfl, hr2⟩ := Rd.of_own h2
  have hgo := h A2 c2 w' h2 hB2 h3
  unfold Oper.wp execOp
  simp only [ho, resolve, invoke, builtin, Sem.run_bind, Sem.run_pure, Result.andThen_ok, List.map_toArray, List.map_cons, List.map_nil, hs, hx, hrun]
  exact hgo
theorem own_of_blk0 {w : World} {base E : Nat} {e : TypeId} (hb : Blk w E e #[]) (h : base ≤ E) : w.ownsRow base e 1 (.slice (some ⟨E, 0, none⟩) 0 0) 0 (iv []) :=
  ⟨rfl, .inr ⟨E, 0, #[], rfl, h, hb, Nat.le_refl _, by unfold maxLen; omega, rfl, rfl⟩⟩
theorem rd_of_blk1 {w : World} {F : Nat} {e : TypeId} {z : Int} (hb : Blk w F e #[.int .i64 z]) : Rd w w.heap.size (some ⟨F, 0, none⟩) 1 (iv [z]) :=
  ⟨rfl, fun _ => ⟨F, 0, rfl, hb.lt, fun i hi => by
    obtain rfl : i = 0 := by omega
    rw [hb.cell]; rfl⟩⟩
/-- the window of numbers from one to thirty-two -/
def AllS (W w : World) (p : Nat) (ss : List (Option Int)) : Prop :=
  WI.WinR w W.heap.size p 0 (0 + Wd.lead ss) ss ∧ Below W.heap.size W w ∧ Wd.Ends ss ∧ ss.length ≤ 32
theorem all_put {W w : World} {p : Nat} {ss : List (Option Int)} (h : AllS W w p ss) (q : Nat) (hq : q < 32) (x : Int) :
    Calls Try.prog 9 #[.pointer (some ⟨p, 0, none⟩), .int .i64 ((q : Int) + 1), .int .i64 x] w fun e w' => (∃ r, e = .returned (.bool r)) ∧ ∃ tt, AllS W w' p tt := by
  obtain ⟨h1, h2, h3, h4⟩ := h
  have hll := Wd.lead_le ss
  cases hj : ss[q]?.join with
  | some v =>
    refine (WI.put_not h1 (by unfold WI.Fit; omega) _ x (.inr (.inr ?_))).mono fun e w' ⟨g1, g2, g3⟩ => ⟨⟨_, g1⟩, ss, g2, h2.trans (g3.below h2.size), h3, h4⟩
    have hlt : q < ss.length := by
      rcases Nat.lt_or_ge q ss.length with h | h
      · exact h
      · rw [List.getElem?_eq_none h] at hj; cases hj
    have e : ((q : Int) + 1) = ((0 + 1 + q : Nat) : Int) := by omega
    rw [e, Wd.hasB_at hlt]
    rw [List.getElem?_eq_getElem hlt] at hj
    simp at hj
    rw [hj]; rfl
  | none =>
    exact (WI.put_is h1 h2.size rfl _ q x _ _ (by omega) (by omega) hj (by unfold WI.Fit; omega) rfl rfl).mono fun e w' ⟨g1, g2, g3⟩ => ⟨⟨_, g1⟩, _, g2, h2.trans (g3.below h2.size), Wd.ends_laid _ _ _ h3, by rw [Wd.laid_length]; omega⟩
theorem allS_below {W w w2 : World} {p : Nat} {ss : List (Option Int)} (h : AllS W w p ss) (hB : Below w.heap.size w w2) : AllS W w2 p ss :=
  ⟨h.1.below hB, h.2.1.trans (hB.mono h.2.1.size), h.2.2⟩
theorem allS_grown {W w w2 : World} {p B : Nat} {ss : List (Option Int)} {cs : Array Value} (h : AllS W w p ss) (hg : w.grownBy w2 (some B)) (hb : Blk w B 22 cs) (hB : W.heap.size ≤ B) : AllS W w2 p ss :=
  ⟨h.1.grown hg hb (by decide) (by decide), h.2.1.trans (grown_below hg hB h.2.1.size), h.2.2⟩
/-- a box that holds a slice of integers -/
def BoxA (w : World) (B : Nat) (zs : List Int) : Prop := ∃ A n c, Blk w B 22 #[.slice A n c] ∧ RdT w 3 A n (iv zs) ∧ n ≤ c ∧ c ≤ maxLen
theorem boxA_below {w w2 : World} {B : Nat} {zs : List Int} (h : BoxA w B zs) (hB : Below w.heap.size w w2) : BoxA w2 B zs := by
  obtain ⟨A, n, c, h1, h2, h3⟩ := h
  exact ⟨A, n, c, h1.below hB, h2.below hB, h3⟩
theorem boxA_grown {w w2 : World} {B B' : Nat} {zs : List Int} {cs : Array Value} (h : BoxA w B zs) (hg : w.grownBy w2 (some B')) (hb : Blk w B' 22 cs) (hne : B ≠ B') : BoxA w2 B zs := by
  obtain ⟨A, n, c, h1, h2, h3⟩ := h
  exact ⟨A, n, c, h1.grown hg (fun e => hne (by injection e)), h2.grown hg hb (by decide), h3⟩
theorem boxA_turns {w w2 : World} {base B : Nat} {zs : List Int} (h : BoxA w B zs) (ht : WI.Turns base w w2) : BoxA w2 B zs := by
  obtain ⟨A, n, c, h1, h2, h3⟩ := h
  exact ⟨A, n, c, ht.blk h1 (by decide) (by decide), ht.rdT h2 (by decide) (by decide), h3⟩
theorem boxA_col {wl W : World} {B : Nat} {zs : List Int} (h : ColI wl B 22 3 zs W) : BoxA W B zs := by
  obtain ⟨⟨A, n, c, h1, h2⟩, _⟩ := h
  exact ⟨A, n, c, h1, RdT.own h2, own_cap h2⟩
set_option maxRecDepth 100000 in
set_option maxHeartbeats 4000000 in
theorem windAll_walk (a0 : Option Addr) (len0 cap0 : Nat) (z0 : List Int) (w : World) (w0 : IsRow .i64 w a0 len0 cap0 z0) :
    Calls Try.prog 7 #[.slice a0 len0 cap0] w fun e w' => e = .returned (.bool true) ∧ Below w.heap.size w w' := by
  obtain ⟨hz1, hzl1, hle1, hcap1⟩ := w0.ints
  obtain ⟨zs, hzs⟩ : ∃ zs, zs = z0.take len0 := ⟨_, rfl⟩
  rw [← hzs] at hz1 hzl1
  have hn1 : len0 ≤ 9223372036854775807 := Nat.le_trans hle1 hcap1
  have H1 := Lib.hid hz1
  have HL1 := Lib.hid hzl1
  obtain ⟨i1, hi1, hi2, hi3, hi4⟩ := info_parts WI.intT
  have HJ1 := Lib.hid hi1
  have HJ2 := Lib.hid hi2
  have HJ3 := Lib.hid hi3
  have HJ4 := Lib.hid hi4
  clear hz1 hzl1 hle1 hcap1 w0 hzs hi1 hi2 hi3 hi4
  refine calls_of_wp_marks Try.func7 rfl ?_
  simp only [Try.ntmps7, List.size_toArray, List.length_cons, List.length_nil, Nat.reduceAdd, Nat.reduceSub, Array.replicate_succ, Array.replicate_zero, List.push_toArray, List.append_toArray, List.nil_append, List.cons_append]
  go_wp2_with fail
  refine (WI.new_any w 0).mono ?_
  rintro e w3 ⟨p, rfl, hw3, hB3⟩
  have hh : WI.Wd.held 0 = 0 := by decide
  rw [hh] at hw3
  have HS3 := Lib.hid (show AllS w w3 p [] from ⟨hw3, hB3, Wd.ends_nil, by simp⟩)
  clear hh hw3 hB3
  go_upto_block 0 with fail
  go_cut [4] from 15 to 33 (fun _ wx => ∃ ss, AllS w wx p ss)
  case first =>
    go_wp2_with fail
    go_loopw [4] (fun i wr => ∃ (k : Nat) (ss : List (Option Int)), k ≤ 30 ∧ i = .int .i64 k ∧ AllS w wr p ss) (fun i _ => 30 - (intOf i).toNat)
    case atStart => exact ⟨0, _, by omega, rfl, HS3.out⟩
    case round =>
      obtain ⟨k, ss, hk, rfl, hS⟩ := hrel
      have HS := Lib.hid hS
      clear hS
      by_cases hlt : k < len0 ∧ k < 30
      · obtain ⟨hk1, hk30⟩ := hlt
        obtain ⟨gz, oz, rfl, _⟩ := H1.out.int_at hk1
        obtain ⟨z, hzk⟩ : ∃ z, zs[k]? = some z := ⟨_, List.getElem?_eq_getElem (by have := HL1.out; omega)⟩
        have hc1 := (H1.out.below HS.out.2.1).int_cell hk1 hzk
        have hk0 : (k : Int) < (len0 : Int) := by omega
        have hk3 : (k : Int) < 30 := by omega
        have e31 := and_31 z
        obtain ⟨q, hq, hqn⟩ : ∃ q : Nat, z % 32 = (q : Int) ∧ q < 32 := ⟨(z % 32).toNat, by omega, by omega⟩
        rw [hq] at e31
        have hqi : (q : Int) < 32 := by omega
        have HP := Lib.hid (all_put HS.out q hqn (k : Int))
        clear hzk hq
        go_wp2_with fail
        refine HP.out.mono ?_
        rintro e w5 ⟨⟨r, rfl⟩, tt, hS5⟩
        have HS5 := Lib.hid hS5
        clear hS5 hc1
        go_wp2
        go_roundw
        case rel => exact ⟨k + 1, tt, by omega, by go_num, HS5.out⟩
        case measure => simp [intOf]; omega
      · by_cases hk1 : k < len0
        · have hk0 : (k : Int) < (len0 : Int) := by omega
          have hk3 : ¬ (k : Int) < 30 := by omega
          clear hlt
          go_wp2_with fail
          go_meet
          exact ⟨ss, HS.out⟩
        · have hk0 : ¬ (k : Int) < (len0 : Int) := by omega
          clear hlt
          go_wp2_with fail
          go_meet
          exact ⟨ss, HS.out⟩
  case rest =>
    obtain ⟨ss, hS⟩ := hcut
    clear HS3 H1 HL1
    have hS0 := hS
    go_wp2_with fail
    have hBq : Below wc.heap.size wc ((wc.alloc (.cells #[.slice none 0 0] 22)).alloc (.cells #[.slice none 0 0] 22)) := ((Below.refl _ wc).alloc (Nat.le_refl _) _).alloc (by simp) _
    have hba := (Blk.new wc 22 #[.slice none 0 0]).alloc (.cells #[.slice none 0 0] 22)
    have hbb := Blk.new (wc.alloc (.cells #[.slice none 0 0] 22)) 22 #[.slice none 0 0]
    rw [World.size_alloc] at hbb
    have hsq : ((wc.alloc (.cells #[.slice none 0 0] 22)).alloc (.cells #[.slice none 0 0] 22)).heap.size = wc.heap.size + 2 := by simp [World.size_alloc]
    obtain ⟨wq, hwq⟩ : ∃ wq, wq = (wc.alloc (.cells #[.slice none 0 0] 22)).alloc (.cells #[.slice none 0 0] 22) := ⟨_, rfl⟩
    rw [← hwq] at hBq hba hbb hsq ⊢
    obtain ⟨Ba, hBa⟩ : ∃ B, B = wc.heap.size := ⟨_, rfl⟩
    obtain ⟨Bb, hBb⟩ : ∃ B, B = wc.heap.size + 1 := ⟨_, rfl⟩
    rw [← hBa] at hba
    rw [← hBb] at hbb
    rw [← hBb, ← hBa]
    have hSwq := allS_below hS hBq
    have hwB : w.heap.size ≤ Ba := by have := hS.2.1.size; omega
    have hab : Ba < Bb := by omega
    have hbq : Bb < wq.heap.size := by omega
    clear hwq hBq hsq hBa hBb hS hS0
    refine (WI.all_any wq _ p 0 _ ss hSwq.1).mono ?_
    rintro e y1 ⟨Bs, Bf, ks, rfl, hseq, _, _, _, hBy1⟩
    have hSy1 := allS_below hSwq hBy1
    have hks : ∀ k ∈ ks, k < y1.heap.size ∧ wq.heap.size ≤ k := by
      obtain ⟨_, _, _, _, _, _, _, _, hk⟩ := hseq
      intro k hk'
      have := hk k hk'
      omega
    have hsy1 : wq.heap.size ≤ y1.heap.size := hBy1.size
    have hba1 := hba.below hBy1
    have hbb1 := hbb.below hBy1
    clear hSwq hBy1 hba hbb
    go_wp2_with fail
    refine wp_marked (fun D W => ColI y1 Ba 22 3 ((Wd.pairs (((0 : Nat) : Int) + 1) ss).map Prod.fst) W) ?_ ?_
    · refine (wpIn_wide (n := 20)).1 ?_
      refine wpIn_rangeFunc_ownG (α := { x : Int × Int // True }) rfl (by omega) (gf := 53) (lb := #[.pointer (some ⟨Bs, 0, none⟩), .pointer (some ⟨Bf, 0, none⟩)]) rfl trivial (Go.Proofs.enters_of Try.func53 (by kernel_rfl) rfl)
        (WI.rising_stops Fence.wide 19 trivial rfl (by omega) (fun _ => True) wq.heap.size _ ss Bs Bf ks y1 hseq (fun _ _ => trivial) (by decide) (by decide) (by have := hSy1.2.2.2; unfold WI.Fit; omega))
        keepsK_t (keepsK_b (fun k hk => (hks k hk).1)) (Below.refl _ _) (fun _ => rfl)
        (fun pre W => ColI y1 Ba 22 3 (pre.map fun x => x.1.1) W)
        (fun _ _ _ => False)
        (colI_own y1 Ba _ _ _)
        (fun _ _ _ _ _ hs _ _ => hs)
        (colI_start hba1)
        ?a₁ ?assign ?body ?done ?stop
      case assign =>
        intro l x W K hK
        gi_wp2
        exact hK
      case body =>
        rintro l pre x W ⟨⟨A, n, c, hb, ho⟩, hg⟩ hlen
        have hnl : pre.length = n := by have := ho.1; rw [iv_length, List.length_map] at this; omega
        have hn40 : n ≤ 40 := by have := hSy1.2.2.2; omega
        have hcc := hb.cell 0
        simp at hcc
        have HBx := Lib.hid hb
        have HOx := Lib.hid ho
        have HGx := Lib.hid hg
        have hszz : y1.heap.size ≤ W.heap.size := hg.size
        clear hb ho hg hnl
        gi_wp2_with (gi_at_builtin; refine wpListIn_append_own _ rfl (.tmp 38) (.tmp 40) 22 rfl y1.heap.size 3 i1 (.int .i64 0) 1 8 Try.underlying22 HJ1.out HJ2.out HJ3.out HJ4.out rfl (by decide) (.slice A n c) n _ rfl (HOx.out.alloc _) ⟨W.heap.size, 0, none⟩ 1 1 [.int .i64 x.1.1] rfl rfl (fun q u hu => by
            rw [addr_add, Nat.zero_add, World.cell?_alloc_mark]; simpa using hu) (by intro u hu; simp at hu; subst hu; rfl) (by unfold maxLen; omega) (by omega) (by simp; omega) ?_; intro v' w3 hown3 hgrow3 hnil3; obtain ⟨g', cap', rfl⟩ := ownsRow_succ hown3; obtain ⟨t5, t6, t7, t8⟩ := colI_step HBx.out HOx.out HGx.out (by omega) hown3 hgrow3; have d5 := t5.cell 0; have e5 := t5.frozen 0; simp at d5; have T6 := Lib.hid t6; have T7 := Lib.hid t7; have T8 := Lib.hid (t8 ks (fun k hk => ⟨(hks k hk).1, by have := (hks k hk).2; omega⟩)); clear t5 t6 t7 t8 hown3 hgrow3 hnil3 hcc)
        refine ⟨T7.out, T8.out, ?_⟩
        show ColI y1 Ba 22 3 ((pre ++ [x]).map fun x => x.1.1) _
        rw [List.map_append]
        exact T6.out
      case done =>
        rintro D ys W hD hys hI hK
        refine ⟨rfl, D, rfl, hK, hD, ?_⟩
        have e1 : (ys.map fun x => x.1.1) = (Wd.pairs (((0 : Nat) : Int) + 1) ss).map Prod.fst := by rw [← hys, List.map_map]; rfl
        rw [← e1]; exact hI
      case stop =>
        rintro D c pre W _ _ h _
        exact h.elim
    intro D1 x1 hK1 hD1 hI1
    have hbA1 := boxA_col hI1
    have hS1x := allS_grown hSy1 hI1.2 hba1 (by omega)
    have hbbx := hbb1.grown hI1.2 (by intro e; injection e with e; omega)
    have hszx1 : y1.heap.size ≤ x1.heap.size := hI1.2.size
    clear hSy1 hba1 hbb1 hks hseq hI1
    go_wp2_with fail
    refine (WI.all_any x1 _ p 0 _ ss hS1x.1).mono ?_
    rintro e y2 ⟨Bs, Bf, ks, rfl, hseq, _, _, _, hBy2⟩
    have hSy2 := allS_below hS1x hBy2
    have hks : ∀ k ∈ ks, k < y2.heap.size ∧ x1.heap.size ≤ k := by
      obtain ⟨_, _, _, _, _, _, _, _, hk⟩ := hseq
      intro k hk'
      have := hk k hk'
      omega
    have hsy2 : x1.heap.size ≤ y2.heap.size := hBy2.size
    have hbA2 := boxA_below hbA1 hBy2
    have hbb2 := hbbx.below hBy2
    have hK2 : y2.heap[D1]? = some (.deferred (some [])) := (hBy2.block D1 (Array.getElem?_eq_some_iff.1 hK1).1).trans hK1
    obtain ⟨ka, hka⟩ : ∃ ka, ka = (Wd.pairs (((0 : Nat) : Int) + 1) ss).map Prod.fst := ⟨_, rfl⟩
    rw [← hka] at hbA2
    have hkal : ka.length ≤ 32 := by
      have h1 := Wd.pairs_length (((0 : Nat) : Int) + 1) ss
      have h2 := hSy2.2.2.2
      rw [hka, List.length_map]; omega
    have HKA := Lib.hid hka
    clear hS1x hBy2 hbA1 hbbx hK1 hka
    go_upto_block 4 with fail
    refine wp_marked (fun D W => ColI y2 Bb 22 3 (ka.take (ka.length / 2)) W) ?_ ?_
    · obtain ⟨Aa, na, ca, ha1, ha2, ha3, ha4⟩ := hbA2
      have hnak : ka.length = na := by have := ha2.1; rw [iv_length] at this; omega
      refine (wpIn_wide (n := 20)).1 ?_
      refine wpIn_wide.2 ?_
      go_wp2_with fail
      refine (wpIn_wide (n := 20)).1 ?_
      refine wpIn_rangeFunc_ownG (α := { x : Int × Int // True }) rfl (by omega) (gf := 53) (lb := #[.pointer (some ⟨Bs, 0, none⟩), .pointer (some ⟨Bf, 0, none⟩)]) rfl trivial (Go.Proofs.enters_of Try.func53 (by kernel_rfl) rfl)
        (WI.rising_stops Fence.wide 19 trivial rfl (by omega) (fun _ => True) x1.heap.size _ ss Bs Bf ks y2 hseq (fun _ _ => trivial) (by decide) (by decide) (by have := hSy2.2.2.2; unfold WI.Fit; omega))
        keepsK_t (keepsK_b (fun k hk => (hks k hk).1)) (Below.refl _ _) (fun _ => rfl)
        (fun pre W => ColI y2 Bb 22 3 (pre.map fun x => x.1.1) W ∧ pre.length ≤ na / 2)
        (fun c pre W => ColI y2 Bb 22 3 (pre.dropLast.map fun x => x.1.1) W ∧ (c = .exit 4 ∧ pre.length = na / 2 + 1))
        (OwnFrom.and (colI_own y2 Bb _ _ _) (ownFrom_pure _ _))
        (fun c => OwnFrom.and (colI_own y2 Bb _ _ _) (ownFrom_pure _ _))
        ⟨colI_start hbb2, Nat.zero_le _⟩
        ?a₂ ?assign2 ?body2 ?done2 ?stop2
      case assign2 =>
        intro l x W K hK
        gi_wp2
        exact hK
      case body2 =>
        rintro l pre x W ⟨⟨⟨A, n, c, hb, ho⟩, hg⟩, hhalf⟩ hlen
        have hnl : pre.length = n := by have := ho.1; rw [iv_length, List.length_map] at this; omega
        have hn40 : n ≤ 40 := by have := hSy2.2.2.2; omega
        have hcc := hb.cell 0
        have hba := ha1.grown hg (by intro e; injection e with e; omega)
        have hca := hba.cell 0
        simp at hcc hca
        have HBx := Lib.hid hb
        have HOx := Lib.hid ho
        have HGx := Lib.hid hg
        have hszz : y2.heap.size ≤ W.heap.size := hg.size
        have HNL := Lib.hid hnl
        have na0 : (na : Int) ≤ 32 := by omega
        clear hb ho hg hba
        by_cases hj : n = na / 2
        · have hd : ((n : Int) == (na : Int) / 2) = true := by simp; omega
          have hColI := Lib.hid (show ColI y2 Bb 22 3 ((pre ++ [x]).dropLast.map fun x => x.1.1) W by
            rw [List.dropLast_concat]; exact ⟨⟨A, n, c, HBx.out, HOx.out⟩, HGx.out⟩)
          have HJx := Lib.hid hj
          clear hnl hj
          gi_wp2
          refine ⟨KeepsFrom.refl _ _, hColI.out, rfl, ?_⟩
          have h1 := HNL.out
          have h2 := HJx.out
          rw [List.length_append, List.length_singleton]; omega
        · have hd : ((n : Int) == (na : Int) / 2) = false := by simp; omega
          have HJx := Lib.hid hj
          clear hnl hj
          gi_wp2_with (gi_at_builtin; refine wpListIn_append_own _ rfl (.tmp 52) (.tmp 54) 22 rfl y2.heap.size 3 i1 (.int .i64 0) 1 8 Try.underlying22 HJ1.out HJ2.out HJ3.out HJ4.out rfl (by decide) (.slice A n c) n _ rfl (HOx.out.alloc _) ⟨W.heap.size, 0, none⟩ 1 1 [.int .i64 x.1.1] rfl rfl (fun q u hu => by
              rw [addr_add, Nat.zero_add, World.cell?_alloc_mark]; simpa using hu) (by intro u hu; simp at hu; subst hu; rfl) (by unfold maxLen; omega) (by omega) (by simp; omega) ?_; intro v' w3 hown3 hgrow3 hnil3; obtain ⟨g', cap', rfl⟩ := ownsRow_succ hown3; obtain ⟨t5, t6, t7, t8⟩ := colI_step HBx.out HOx.out HGx.out (by omega) hown3 hgrow3; have d5 := t5.cell 0; have e5 := t5.frozen 0; simp at d5; have T6 := Lib.hid t6; have T7 := Lib.hid t7; have T8 := Lib.hid (t8 ks (fun k hk => ⟨(hks k hk).1, by have := (hks k hk).2; omega⟩)); clear t5 t6 t7 t8 hown3 hgrow3 hnil3 hcc)
          refine ⟨T7.out, T8.out, ?_, ?_⟩
          · show ColI y2 Bb 22 3 ((pre ++ [x]).map fun x => x.1.1) _
            rw [List.map_append]
            exact T6.out
          · have h1 := HNL.out
            have h2 := HJx.out
            rw [List.length_append, List.length_singleton]; omega
      case done2 =>
        rintro D ys W hD hys ⟨hI, hhalf⟩ hK
        refine ⟨rfl, D, rfl, hK, hD, ?_⟩
        have e1 : (ys.map fun x => x.1.1) = ka := by rw [HKA.out, ← hys, List.map_map]; rfl
        have e2 : ys.length = ka.length := by rw [← e1, List.length_map]
        have e3 : ka.take (ka.length / 2) = ka := by rw [List.take_of_length_le (by omega)]
        rw [e3, ← e1]; exact hI
      case stop2 =>
        rintro D c pre W hD hpre ⟨hI, rfl, hhalf⟩ hK
        have e1 : (pre.map fun x => x.1.1) <+: ka := by
          rw [HKA.out]
          have := hpre.map Prod.fst
          rw [List.map_map] at this
          exact this
        have e2 : (pre.map fun x => x.1.1) = ka.take (na / 2 + 1) := by
          have := List.prefix_iff_eq_take.1 e1
          rw [List.length_map, hhalf] at this
          exact this
        have e3 : (pre.dropLast.map fun x => x.1.1) = ka.take (ka.length / 2) := by
          rw [List.dropLast_eq_take, List.map_take, e2, List.take_take, hhalf, hnak]
          congr 1
          omega
        rw [e3] at hI
        have HIx := Lib.hid hI
        clear hI e1 e2 e3 hpre
        gi_wp2
        have h9 := HIx.out
        rw [hnak] at h9
        exact h9
    intro D2 x2 hK2' hD2 hI2
    have hbB2 := boxA_col hI2
    have hbAx := boxA_grown hbA2 hI2.2 hbb2 (by omega)
    have hS2x := allS_grown hSy2 hI2.2 hbb2 (by omega)
    have hD1x : D1 < y2.heap.size := (Array.getElem?_eq_some_iff.1 hK2).1
    have hK1x : x2.heap[D1]? = some (.deferred (some [])) := (hI2.2.block D1 hD1x (by
      intro e
      injection e with e
      subst e
      rw [show y2.heap[D1]? = _ from hbb2] at hK2
      cases hK2)).trans hK2
    have hszx2 : y2.heap.size ≤ x2.heap.size := hI2.2.size
    have hD12 : D1 < D2 := by omega
    clear hSy2 hbA2 hbb2 hks hseq hI2 hK2
    have hll := Wd.lead_le ss
    have hno : ss[39]?.join = none := by rw [List.getElem?_eq_none (by have := hS2x.2.2.2; omega)]; rfl
    have HP := Lib.hid (WI.put_is hS2x.1 hS2x.2.1.size rfl (40 : Int) 39 (7 : Int) (Wd.laid ss 39 7) (0 + Wd.lead (Wd.laid ss 39 7)) (by omega) (by omega) hno (by unfold WI.Fit; omega) rfl rfl)
    have hl40 : (Wd.laid ss 39 (7 : Int)).length = 40 := by rw [Wd.laid_length]; have := hS2x.2.2.2; omega
    have hka2 : (Wd.pairs (((0 : Nat) : Int) + 1) (Wd.laid ss 39 (7 : Int))).map Prod.fst = ka ++ [40] := by
      rw [Wd.pairs_laid _ _ _ _ (by have := hS2x.2.2.2; omega), List.map_append, HKA.out]
      rfl
    have HKA2 := Lib.hid hka2
    clear hno hka2
    go_wp2_with fail
    refine HP.out.mono ?_
    rintro e x3 ⟨rfl, hw3, t3⟩
    obtain ⟨tt, htt⟩ : ∃ tt, tt = Wd.laid ss 39 (7 : Int) := ⟨_, rfl⟩
    rw [← htt] at hw3 hl40 HKA2
    have hbA3 := boxA_turns hbAx t3
    have hbB3 := boxA_turns hbB2 t3
    have hK13 := t3.block D1 _ hK1x (.inr rfl)
    have hK23 := t3.block D2 _ hK2' (.inr rfl)
    have hT3 : Below w.heap.size w x3 := hS2x.2.1.trans (t3.below hS2x.2.1.size)
    have hszx3 : x2.heap.size ≤ x3.heap.size := t3.size
    clear htt t3 hbAx hbB2 hK1x hK2' hS2x HP
    go_wp2_with fail
    have hB3q : Below x3.heap.size x3 (x3.alloc (.cells #[.slice none 0 0] 22)) := (Below.refl _ x3).alloc (Nat.le_refl _) _
    have hbc := Blk.new x3 22 #[.slice none 0 0]
    have hs4q : (x3.alloc (.cells #[.slice none 0 0] 22)).heap.size = x3.heap.size + 1 := by simp [World.size_alloc]
    obtain ⟨x4, hx4⟩ : ∃ x4, x4 = x3.alloc (.cells #[.slice none 0 0] 22) := ⟨_, rfl⟩
    rw [← hx4] at hB3q hbc hs4q ⊢
    obtain ⟨Bc, hBc⟩ : ∃ B, B = x3.heap.size := ⟨_, rfl⟩
    rw [← hBc] at hbc ⊢
    have hw4 := hw3.below hB3q
    have hbA4 := boxA_below hbA3 hB3q
    have hbB4 := boxA_below hbB3 hB3q
    have hK14 : x4.heap[D1]? = some (.deferred (some [])) := (hB3q.block D1 (Array.getElem?_eq_some_iff.1 hK13).1).trans hK13
    have hK24 : x4.heap[D2]? = some (.deferred (some [])) := (hB3q.block D2 (Array.getElem?_eq_some_iff.1 hK23).1).trans hK23
    have hD2x : D2 < x3.heap.size := (Array.getElem?_eq_some_iff.1 hK23).1
    have hT4 := hT3.trans (hB3q.mono hT3.size)
    have hac : Ba < Bc := by have := hbB3.choose_spec; omega
    have hbc0 : Bb < Bc := by
      obtain ⟨_, _, _, hq, _⟩ := hbB3
      have := hq.lt
      omega
    have hcc4 : Bc < x4.heap.size := by omega
    have hwc : w.heap.size ≤ Bc := by omega
    clear hx4 hB3q hs4q hBc hw3 hbA3 hbB3 hK13 hK23 hT3
    refine (WI.all_any x4 _ p 0 _ tt hw4).mono ?_
    rintro e y5 ⟨Bs, Bf, ks, rfl, hseq, _, _, _, hBy5⟩
    have hks : ∀ k ∈ ks, k < y5.heap.size ∧ x4.heap.size ≤ k := by
      obtain ⟨_, _, _, _, _, _, _, _, hk⟩ := hseq
      intro k hk'
      have := hk k hk'
      omega
    have hsy5 : x4.heap.size ≤ y5.heap.size := hBy5.size
    have hbA5 := boxA_below hbA4 hBy5
    have hbB5 := boxA_below hbB4 hBy5
    have hbc5 := hbc.below hBy5
    have hK15 : y5.heap[D1]? = some (.deferred (some [])) := (hBy5.block D1 (Array.getElem?_eq_some_iff.1 hK14).1).trans hK14
    have hK25 : y5.heap[D2]? = some (.deferred (some [])) := (hBy5.block D2 (Array.getElem?_eq_some_iff.1 hK24).1).trans hK24
    have hT5 := hT4.trans (hBy5.mono hT4.size)
    clear hw4 hbA4 hbB4 hbc hK14 hK24 hT4 hBy5
    go_upto_block 6 with fail
    refine wp_marked (fun D W => ColI y5 Bc 22 3 (ka ++ [40]) W) ?_ ?_
    · go_wp2_with fail
      refine (wpIn_wide (n := 20)).1 ?_
      refine wpIn_rangeFunc_ownG (α := { x : Int × Int // True }) rfl (by omega) (gf := 53) (lb := #[.pointer (some ⟨Bs, 0, none⟩), .pointer (some ⟨Bf, 0, none⟩)]) rfl trivial (Go.Proofs.enters_of Try.func53 (by kernel_rfl) rfl)
        (WI.rising_stops Fence.wide 19 trivial rfl (by omega) (fun _ => True) x4.heap.size _ tt Bs Bf ks y5 hseq (fun _ _ => trivial) (by decide) (by decide) (by have := hl40; unfold WI.Fit; omega))
        keepsK_t (keepsK_b (fun k hk => (hks k hk).1)) (Below.refl _ _) (fun _ => rfl)
        (fun pre W => ColI y5 Bc 22 3 (pre.map fun x => x.1.1) W)
        (fun _ _ _ => False)
        (colI_own y5 Bc _ _ _)
        (fun _ _ _ _ _ hs _ _ => hs)
        (colI_start hbc5)
        ?a₃ ?assign3 ?body3 ?done3 ?stop3
      case assign3 =>
        intro l x W K hK
        gi_wp2
        exact hK
      case body3 =>
        rintro l pre x W ⟨⟨A, n, c, hb, ho⟩, hg⟩ hlen
        have hnl : pre.length = n := by have := ho.1; rw [iv_length, List.length_map] at this; omega
        have hn40 : n ≤ 40 := by have := hl40; omega
        have hcc := hb.cell 0
        simp at hcc
        have HBx := Lib.hid hb
        have HOx := Lib.hid ho
        have HGx := Lib.hid hg
        have hszz : y5.heap.size ≤ W.heap.size := hg.size
        clear hb ho hg hnl
        gi_wp2_with (gi_at_builtin; refine wpListIn_append_own _ rfl (.tmp 62) (.tmp 64) 22 rfl y5.heap.size 3 i1 (.int .i64 0) 1 8 Try.underlying22 HJ1.out HJ2.out HJ3.out HJ4.out rfl (by decide) (.slice A n c) n _ rfl (HOx.out.alloc _) ⟨W.heap.size, 0, none⟩ 1 1 [.int .i64 x.1.1] rfl rfl (fun q u hu => by
            rw [addr_add, Nat.zero_add, World.cell?_alloc_mark]; simpa using hu) (by intro u hu; simp at hu; subst hu; rfl) (by unfold maxLen; omega) (by omega) (by simp; omega) ?_; intro v' w3 hown3 hgrow3 hnil3; obtain ⟨g', cap', rfl⟩ := ownsRow_succ hown3; obtain ⟨t5, t6, t7, t8⟩ := colI_step HBx.out HOx.out HGx.out (by omega) hown3 hgrow3; have d5 := t5.cell 0; have e5 := t5.frozen 0; simp at d5; have T6 := Lib.hid t6; have T7 := Lib.hid t7; have T8 := Lib.hid (t8 ks (fun k hk => ⟨(hks k hk).1, by have := (hks k hk).2; omega⟩)); clear t5 t6 t7 t8 hown3 hgrow3 hnil3 hcc)
        refine ⟨T7.out, T8.out, ?_⟩
        show ColI y5 Bc 22 3 ((pre ++ [x]).map fun x => x.1.1) _
        rw [List.map_append]
        exact T6.out
      case done3 =>
        rintro D ys W hD hys hI hK
        refine ⟨rfl, D, rfl, hK, hD, ?_⟩
        have e1 : (ys.map fun x => x.1.1) = ka ++ [40] := by rw [← HKA2.out, ← hys, List.map_map]; rfl
        rw [← e1]; exact hI
      case stop3 =>
        rintro D c pre W _ _ h _
        exact h.elim
    intro D3 x5 hK3 hD3 hI5
    have hbC6 := boxA_col hI5
    have hbA6 := boxA_grown hbA5 hI5.2 hbc5 (by omega)
    have hbB6 := boxA_grown hbB5 hI5.2 hbc5 (by omega)
    have hT6 := hT5.trans (grown_below hI5.2 hwc hT5.size)
    have hd15 : D1 < y5.heap.size := (Array.getElem?_eq_some_iff.1 hK15).1
    have hd25 : D2 < y5.heap.size := (Array.getElem?_eq_some_iff.1 hK25).1
    have hK16 : x5.heap[D1]? = some (.deferred (some [])) := (hI5.2.block D1 hd15 (by
      intro e
      injection e with e
      subst e
      rw [show y5.heap[D1]? = _ from hbc5] at hK15
      cases hK15)).trans hK15
    have hK26 : x5.heap[D2]? = some (.deferred (some [])) := (hI5.2.block D2 hd25 (by
      intro e
      injection e with e
      subst e
      rw [show y5.heap[D2]? = _ from hbc5] at hK25
      cases hK25)).trans hK25
    have hD23 : D2 < D3 := by omega
    have hwD1 : w.heap.size ≤ D1 := by omega
    clear hbA5 hbB5 hbc5 hI5 hT5 hK15 hK25 hks hseq
    obtain ⟨Aa, na, ca, ha1, ha2, ha3, ha4⟩ := hbA6
    obtain ⟨Ab, nb, cb, hb1, hb2, hb3, hb4⟩ := hbB6
    obtain ⟨Ac, nc, cc, hc1, hc2, hc3, hc4⟩ := hbC6
    have hnak : ka.length = na := by have := ha2.1; rw [iv_length] at this; omega
    have hrise : ka.Pairwise (· < ·) := by rw [HKA.out]; exact Wd.pairs_rise _ _
    go_wp2_with fail
    have hac0 := ha1.cell 0
    have HA1 := Lib.hid ha1
    have HA2 := Lib.hid ha2
    have HB1 := Lib.hid hb1
    have HB2 := Lib.hid hb2
    have HC1 := Lib.hid hc1
    have HC2 := Lib.hid hc2
    have HNK := Lib.hid hnak
    have HRI := Lib.hid hrise
    have HT6 := Lib.hid hT6
    have HK1 := Lib.hid hK16
    have HK2 := Lib.hid hK26
    have HK3 := Lib.hid hK3
    have hna32 : (na : Int) ≤ 32 := by omega
    simp at hac0
    clear ha1 ha2 hb1 hb2 hc1 hc2 hnak hrise hT6 hK16 hK26 hK3
    go_loopw [11] (fun i wr => ∃ j : Nat, j + 1 ≤ max 1 na ∧ i = .int .i64 ((j + 1 : Nat) : Int) ∧ ∃ m, wr = x5.drewN m) (fun i _ => 40 - (intOf i).toNat)
    case atStart => exact ⟨0, by omega, rfl, 0, rfl⟩
    case round =>
      obtain ⟨j, hj, rfl, m, hm⟩ := hrel
      have hac1 : wr.cell? ⟨Ba, 0, none⟩ = some (.slice Aa na ca) := by rw [hm]; exact hac0
      have HM := Lib.hid hm
      by_cases hlt : j + 1 < na
      · have hjn : (j : Int) + 1 < (na : Int) := by omega
        obtain ⟨xv, hxv⟩ : ∃ v, ka[j]? = some v := ⟨_, List.getElem?_eq_getElem (by have := HNK.out; omega)⟩
        obtain ⟨yv, hyv⟩ : ∃ v, ka[j + 1]? = some v := ⟨_, List.getElem?_eq_getElem (by have := HNK.out; omega)⟩
        have hxy : xv < yv := Wd.rise_at HRI.out hxv hyv
        have hge : decide (yv ≤ xv) = false := by simp; omega
        obtain ⟨ga, oa, rfl, _⟩ := HA2.out.rd.int_at (show j < na by omega)
        have hcx : wr.cell? ⟨ga, oa + j, none⟩ = some (.int .i64 xv) := by rw [hm]; exact HA2.out.rd.int_cell (by omega) hxv
        have hcy : wr.cell? ⟨ga, oa + (j + 1), none⟩ = some (.int .i64 yv) := by rw [hm]; exact HA2.out.rd.int_cell (by omega) hyv
        have hj0 : ¬ (j : Int) + 1 < 0 := by omega
        have hjw : IntKind.i64.wrap ((j : Int) + 1 - 1) = (j : Int) := by rw [IntWalk.i64_in _ (by omega)]; omega
        have hjn2 : (j : Int) < (na : Int) := by omega
        clear hxv hyv hm
        go_upto_region 24 with fail
        refine wp_calm ?_
        go_quiet (fail)
        refine calm_normal ?_
        go_wp2
        go_roundw
        case rel => exact ⟨j + 1, by omega, by go_num, m + nq, by rw [HM.out, World.drewN_drewN]⟩
        case measure => simp [intOf]; omega
      · have hjn : ¬ (j : Int) + 1 < (na : Int) := by omega
        have hB6 : Below x5.heap.size x5 wr.drew := by rw [hm]; exact (below_drewN (Below.refl _ _) m).drew
        have HB6 := Lib.hid hB6
        clear hm hlt hB6
        go_upto_region 26 with fail
        clear hac1
        obtain ⟨x6, hx6⟩ : ∃ x6, x6 = wr.drew := ⟨_, rfl⟩
        rw [← hx6] at HB6
        have ha6 := (HA1.out.below HB6.out).cell 0
        have hb6 := (HB1.out.below HB6.out).cell 0
        have hc6 := (HC1.out.below HB6.out).cell 0
        have hla : Ba < x6.heap.size := (HA1.out.below HB6.out).lt
        have hlb : Bb < x6.heap.size := (HB1.out.below HB6.out).lt
        have hlc : Bc < x6.heap.size := (HC1.out.below HB6.out).lt
        simp at ha6 hb6 hc6
        have hra := Lib.hid ((HA2.out.below HB6.out).rd)
        have hrb := Lib.hid ((HB2.out.below HB6.out).rd)
        have hrc := Lib.hid ((HC2.out.below HB6.out).rd)
        obtain ⟨i9, hi1, hi2, hi3, hi4⟩ := info_parts WI.intT
        have hsl := run_slice_to (P := Try.prog) (t := 22) Try.underlying22 hi1 Aa na ca (na / 2) (by omega)
        have ecast : ((na / 2 : Nat) : Int) = (na : Int) / 2 := by omega
        rw [ecast] at hsl
        clear hi1 hi2 hi3 hi4 ecast
        refine wp_calm ?_
        refine wp_region_held_drew (S := fun wq => Below x6.heap.size x6 wq) (by kernel_rfl) (by rw [← hx6]; exact Below.refl _ _) (fun _ => ?_)
        rw [← hx6]
        clear hx6
        have HS := Lib.hid (Below.refl x6.heap.size x6)
        refine wpAnyH_take (i := 0) (v := .slice Ab nb cb) rfl (by kernel_rfl) (by kernel_rfl) (by kernel_rfl) (fun _ _ _ h => h) (Or.inl ⟨by kernel_rfl, fun wq h => by have hf := (h.cell (p := ⟨Bb, 0, none⟩) hlb).trans hb6; go_simp⟩) HS.out ?_
        refine wpAnyH_take (i := 1) (v := .slice Aa na ca) rfl (by kernel_rfl) (by kernel_rfl) (by kernel_rfl) (fun _ _ _ h => h) (Or.inl ⟨by kernel_rfl, fun wq h => by have hf := (h.cell (p := ⟨Ba, 0, none⟩) hla).trans ha6; go_simp⟩) HS.out ?_
        refine wpAnyH_take (i := 2) (v := .slice Aa na ca) rfl (by kernel_rfl) (by kernel_rfl) (by kernel_rfl) (fun _ _ _ h => h) (Or.inl ⟨by kernel_rfl, fun wq h => by have hf := (h.cell (p := ⟨Ba, 0, none⟩) hla).trans ha6; go_simp⟩) HS.out ?_
        refine wpAnyH_take (i := 3) (v := .int .i64 (na : Int)) rfl (by kernel_rfl) (by kernel_rfl) (by kernel_rfl) (fun _ _ _ h => h) (Or.inl ⟨by kernel_rfl, fun w _ => by go_simp⟩) HS.out ?_
        refine wpAnyH_take (i := 4) (v := .int .i64 ((na : Int) / 2)) rfl (by kernel_rfl) (by kernel_rfl) (by kernel_rfl) (fun _ _ _ h => h) (Or.inl ⟨by kernel_rfl, fun w _ => by go_simp; exact IntWalk.i64_in _ (by omega)⟩) HS.out ?_
        refine wpAnyH_take (i := 5) (v := .slice Aa (na / 2) ca) rfl (by kernel_rfl) (by kernel_rfl) (by kernel_rfl) (fun _ _ _ h => h) (Or.inl ⟨by kernel_rfl, fun w _ => by go_simp⟩) HS.out ?_
        have hbl : (ka.take (ka.length / 2)).length = nb := by have := HB2.out.1; rw [iv_length] at this; omega
        have hrt : Rd x6 x6.heap.size Aa (na / 2) (iv (ka.take (ka.length / 2))) := by
          have h1 := hra.out.take (k := na / 2) (by omega)
          have h2 : (iv ka).take (na / 2) = iv (ka.take (ka.length / 2)) := by rw [HNK.out]; unfold iv; rw [List.map_take]
          rw [h2] at h1
          exact h1
        have HSM := Lib.hid (same_any x6 Ab Aa nb cb (na / 2) ca _ _ _ _ hrb.out hrt (Nat.le_trans hb3 hb4) (by omega))
        clear hrt hbl
        refine wpAnyH_ready (rs := [6]) (by kernel_rfl) (by simp) ?_
        refine AllReadyH.cons rfl (fun K hK => ?_) AllReadyH.nil
        go_simp
        refine HSM.out.mono ?_
        rintro e x7 ⟨rfl, m7, hm7⟩
        have HB7 := Lib.hid (show Below x6.heap.size x6 x7 by rw [hm7]; exact below_drewN (Below.refl _ _) m7)
        clear hm7
        go_simp
        refine hK.out _ _ HB7.out (fun _ => ?_)
        clear hK K
        refine wpAnyH_take (i := 7) (v := .bool true) rfl (by kernel_rfl) (by kernel_rfl) (by kernel_rfl) (fun _ _ _ h => h) (Or.inl ⟨by kernel_rfl, fun w _ => by go_simp⟩) HB7.out ?_
        refine wpAnyH_take (i := 8) (v := .slice Ac nc cc) rfl (by kernel_rfl) (by kernel_rfl) (by kernel_rfl) (fun _ _ _ h => h) (Or.inl ⟨by kernel_rfl, fun wq h => by have hf := (h.cell (p := ⟨Bc, 0, none⟩) hlc).trans hc6; go_simp⟩) HB7.out ?_
        refine wpAnyH_take (i := 10) (v := .slice Aa na ca) rfl (by kernel_rfl) (by kernel_rfl) (by kernel_rfl) (fun _ _ _ h => h) (Or.inl ⟨by kernel_rfl, fun wq h => by have hf := (h.cell (p := ⟨Ba, 0, none⟩) hla).trans ha6; go_simp⟩) HB7.out ?_
        have hfinal : ∀ (X : World), Below x6.heap.size x6 X → ∀ (tm : Array Value), tm.getD 2 undef = .bool true → LeavesInM Fence.wide 20 Try.prog Try.f7 tm (fun e w' => e = .returned (.bool true) ∧ Below w.heap.size w w') [{ target := .collected D3, args := #[] }, { target := .collected D2, args := #[] }, { target := .collected D1, args := #[] }] .returning X := by
          intro X hX tm htm
          have hB : Below x5.heap.size x5 X := HB6.out.trans (hX.mono HB6.out.size)
          have k1 : X.heap[D1]? = some (.deferred (some [])) := (hB.block D1 (Array.getElem?_eq_some_iff.1 HK1.out).1).trans HK1.out
          have k2 : X.heap[D2]? = some (.deferred (some [])) := (hB.block D2 (Array.getElem?_eq_some_iff.1 HK2.out).1).trans HK2.out
          have k3 : X.heap[D3]? = some (.deferred (some [])) := (hB.block D3 (Array.getElem?_eq_some_iff.1 HK3.out).1).trans HK3.out
          have hT : Below w.heap.size w X := HT6.out.trans (hB.mono HT6.out.size)
          have k2' : (X.putObj D3 (.deferred none)).heap[D2]? = some (.deferred (some [])) := (World.putObj_heap_other (by omega)).trans k2
          have k1' : ((X.putObj D3 (.deferred none)).putObj D2 (.deferred none)).heap[D1]? = some (.deferred (some [])) := (World.putObj_heap_other (by omega)).trans ((World.putObj_heap_other (by omega)).trans k1)
          refine ⟨by simp, .inl ⟨_, _, rfl, run_takeDeferred k3, ?_⟩⟩
          refine ⟨by simp, .inl ⟨_, _, rfl, run_takeDeferred k2', ?_⟩⟩
          refine ⟨by simp, .inl ⟨_, _, rfl, run_takeDeferred k1', ?_⟩⟩
          refine ⟨_, results_tmp rfl _ _ _, by rw [htm], ?_⟩
          exact ((hT.trans (belowK_b (w := w) (Nat.le_refl _) X D3 _ _ (by omega) k3 rfl rfl)).trans (belowK_b (w := w) (Nat.le_refl _) _ D2 _ _ (by omega) k2' rfl rfl)).trans (belowK_b (w := w) (Nat.le_refl _) _ D1 _ _ (by omega) k1' rfl rfl)
        refine wpAnyH_ready (rs := [9, 12]) (by kernel_rfl) (by simp) ?_
        refine AllReadyH.cons rfl (fun K hK => ?_) ?_
        · -- the empty one first
          have HB8 := Lib.hid (HB7.out.alloc HB7.out.size (.cells #[] 3))
          have BE := Lib.hid (Blk.new x7 3 #[])
          go_simp
          refine hK.out _ _ HB8.out (fun _ => ?_)
          clear hK K
          obtain ⟨E, hE⟩ : ∃ E, E = x7.heap.size := ⟨_, rfl⟩
          have hE6 : x6.heap.size ≤ E := by rw [hE]; exact HB7.out.size
          rw [← hE] at BE ⊢
          clear hE
          generalize x7.alloc (.cells #[] 3) = x8 at HB8 BE ⊢
          refine wpAnyH_ready (rs := [11, 12]) (by kernel_rfl) (by simp) ?_
          refine AllReadyH.cons rfl (fun K hK => ?_) ?_
          · -- then the append
            rw [if_pos (by kernel_rfl)]
            refine wp_append_cells (W := x6) (A := some ⟨E, 0, none⟩) (n := 0) (c := 0) (vs := iv []) (A' := Aa) (m := na) (c' := ca) (ws := iv ka) intC (.tmp 91) (.tmp 92) rfl (by kernel_rfl) (own_of_blk0 BE.out hE6) (by kernel_rfl) (hra.out.below HB8.out) (iv_one _) (by omega) (by omega) HB8.out (N := na) (Nat.zero_add _) (us := iv ka) (by rfl) ?_
            rintro A93 c93 x9 ho93 hb93 hg93
            have HO9 := Lib.hid ho93
            have HB9 := Lib.hid hb93
            refine hK.out _ _ HB9.out (fun _ => ?_)
            clear hK K ho93 hb93 hg93
            refine wpAnyH_ready (rs := [12]) (by kernel_rfl) (by simp) ?_
            refine AllReadyH.cons rfl (fun K hK => ?_) AllReadyH.nil
            have HB10 := Lib.hid (HB9.out.alloc HB9.out.size (.cells #[.int .i64 40] 3))
            have BF := Lib.hid (Blk.new x9 3 #[.int .i64 40])
            go_simp
            refine hK.out _ _ HB10.out (fun _ => ?_)
            clear hK K
            have HO10 := Lib.hid (HO9.out.alloc (.cells #[.int .i64 40] 3))
            obtain ⟨F, hF⟩ : ∃ E, E = x9.heap.size := ⟨_, rfl⟩
            have hF6 : x6.heap.size ≤ F := by rw [hF]; exact HB9.out.size
            rw [← hF] at BF ⊢
            clear hF
            generalize x9.alloc (.cells #[.int .i64 40] 3) = x10 at HB10 BF HO10 ⊢
            refine wpAnyH_ready (rs := [13]) (by kernel_rfl) (by simp) ?_
            refine AllReadyH.cons rfl (fun K hK => ?_) AllReadyH.nil
            rw [if_pos (by kernel_rfl)]
            refine wp_append_cells (W := x6) (A := A93) (n := na) (c := c93) (vs := iv ka) (A' := some ⟨F, 0, none⟩) (m := 1) (c' := 1) (ws := iv [40]) intC (.tmp 93) (.tmp 94) rfl (by kernel_rfl) HO10.out (by kernel_rfl) (rd_of_blk1 BF.out) (iv_one _) (by omega) (by omega) HB10.out (N := na + 1) rfl (us := iv (ka ++ [40])) (iv_append _ _).symm ?_
            rintro A95 c95 xz ho95 hb95 hg95
            have HOz := Lib.hid ho95
            have HBz := Lib.hid hb95
            clear ho95 hb95 hg95
            refine hK.out _ _ HBz.out (fun _ => ?_)
            clear hK K
            have hfin := Rd.own_ HOz.out
            have HS2 := Lib.hid (same_any xz Ac A95 nc cc (na + 1) c95 _ _ _ _ (hrc.out.below HBz.out) hfin (Nat.le_trans hc3 hc4) (by unfold maxLen; omega))
            clear hfin
            refine wpAnyH_ready (rs := [14]) (by kernel_rfl) (by simp) ?_
            refine AllReadyH.cons rfl (fun K hK => ?_) AllReadyH.nil
            go_simp
            with_reducible refine HS2.out.mono ?_
            rintro e xy ⟨rfl, my, hmy⟩
            have HBy := Lib.hid (show Below x6.heap.size x6 xy from HBz.out.trans (by rw [hmy]; exact below_drewN (Below.refl _ _) my))
            clear hmy
            go_simp
            refine hK.out _ _ HBy.out (fun _ => ?_)
            clear hK K
            refine wpAnyH_ready (rs := [15]) (by kernel_rfl) (by simp) ?_
            refine AllReadyH.cons rfl (fun K hK => ?_) AllReadyH.nil
            go_simp
            refine hK.out _ _ HBy.out (fun _ => ?_)
            clear hK K
            refine wpAnyH_ready (rs := [16]) (by kernel_rfl) (by simp) ?_
            refine AllReadyH.cons rfl (fun K hK => ?_) AllReadyH.nil
            go_simp
            refine hK.out _ _ HBy.out (fun _ => ?_)
            clear hK K
            refine wpAnyH_ready (rs := [17]) (by kernel_rfl) (by simp) ?_
            refine AllReadyH.cons rfl (fun K hK => ?_) AllReadyH.nil
            go_simp
            refine (awake_any xy).mono ?_
            rintro e xx ⟨rfl, hbx⟩
            have HBx := Lib.hid (HBy.out.trans (hbx.mono HBy.out.size))
            clear hbx
            go_simp
            refine hK.out _ _ HBx.out (fun _ => ?_)
            clear hK K
            refine wpAnyH_ready (rs := [18]) (by kernel_rfl) (by simp) ?_
            refine AllReadyH.cons rfl (fun K hK => ?_) AllReadyH.nil
            go_simp
            refine hK.out _ _ HBx.out (fun _ => ?_)
            clear hK K
            refine wpAnyH_ready (rs := [19]) (by kernel_rfl) (by simp) ?_
            refine AllReadyH.cons rfl (fun K hK => ?_) AllReadyH.nil
            go_simp
            refine hK.out _ _ HBx.out (fun _ => ?_)
            clear hK K
            refine wpAnyH_done (by kernel_rfl) ?_ _
            refine calm_normal ?_
            go_wp2
            exact hfinal xx HBx.out _ (by rfl)
          · -- then the other one
            refine AllReadyH.cons rfl (fun K hK => ?_) AllReadyH.nil
            have HB9 := Lib.hid (HB8.out.alloc HB8.out.size (.cells #[.int .i64 40] 3))
            have BF := Lib.hid (Blk.new x8 3 #[.int .i64 40])
            go_simp
            refine hK.out _ _ HB9.out (fun _ => ?_)
            clear hK K
            have BE9 := Lib.hid (BE.out.alloc (.cells #[.int .i64 40] 3))
            obtain ⟨F, hF⟩ : ∃ E, E = x8.heap.size := ⟨_, rfl⟩
            have hF6 : x6.heap.size ≤ F := by rw [hF]; exact HB8.out.size
            have hEF : E < F := by rw [hF]; exact BE.out.lt
            rw [← hF] at BF ⊢
            clear hF
            generalize x8.alloc (.cells #[.int .i64 40] 3) = x9 at HB9 BF BE9 ⊢
            refine wpAnyH_ready (rs := [11]) (by kernel_rfl) (by simp) ?_
            refine AllReadyH.cons rfl (fun K hK => ?_) AllReadyH.nil
            rw [if_pos (by kernel_rfl)]
            refine wp_append_cells (W := x6) (A := some ⟨E, 0, none⟩) (n := 0) (c := 0) (vs := iv []) (A' := Aa) (m := na) (c' := ca) (ws := iv ka) intC (.tmp 91) (.tmp 92) rfl (by kernel_rfl) (own_of_blk0 BE9.out hE6) (by kernel_rfl) (hra.out.below HB9.out) (iv_one _) (by omega) (by omega) HB9.out (N := na) (Nat.zero_add _) (us := iv ka) (by rfl) ?_
            rintro A93 c93 x10 ho93 hb93 hg93
            have HO10 := Lib.hid ho93
            have HB10 := Lib.hid hb93
            have BF10 := Lib.hid (BF.out.grown hg93 (by intro e; exact absurd (show F = E by simpa [Value.ownBlock] using e) (by omega)))
            refine hK.out _ _ HB10.out (fun _ => ?_)
            clear hK K ho93 hb93 hg93
            refine wpAnyH_ready (rs := [13]) (by kernel_rfl) (by simp) ?_
            refine AllReadyH.cons rfl (fun K hK => ?_) AllReadyH.nil
            rw [if_pos (by kernel_rfl)]
            refine wp_append_cells (W := x6) (A := A93) (n := na) (c := c93) (vs := iv ka) (A' := some ⟨F, 0, none⟩) (m := 1) (c' := 1) (ws := iv [40]) intC (.tmp 93) (.tmp 94) rfl (by kernel_rfl) HO10.out (by kernel_rfl) (rd_of_blk1 BF10.out) (iv_one _) (by omega) (by omega) HB10.out (N := na + 1) rfl (us := iv (ka ++ [40])) (iv_append _ _).symm ?_
            rintro A95 c95 xz ho95 hb95 hg95
            have HOz := Lib.hid ho95
            have HBz := Lib.hid hb95
            clear ho95 hb95 hg95
            refine hK.out _ _ HBz.out (fun _ => ?_)
            clear hK K
            have hfin := Rd.own_ HOz.out
            have HS2 := Lib.hid (same_any xz Ac A95 nc cc (na + 1) c95 _ _ _ _ (hrc.out.below HBz.out) hfin (Nat.le_trans hc3 hc4) (by unfold maxLen; omega))
            clear hfin
            refine wpAnyH_ready (rs := [14]) (by kernel_rfl) (by simp) ?_
            refine AllReadyH.cons rfl (fun K hK => ?_) AllReadyH.nil
            go_simp
            with_reducible refine HS2.out.mono ?_
            rintro e xy ⟨rfl, my, hmy⟩
            have HBy := Lib.hid (show Below x6.heap.size x6 xy from HBz.out.trans (by rw [hmy]; exact below_drewN (Below.refl _ _) my))
            clear hmy
            go_simp
            refine hK.out _ _ HBy.out (fun _ => ?_)
            clear hK K
            refine wpAnyH_ready (rs := [15]) (by kernel_rfl) (by simp) ?_
            refine AllReadyH.cons rfl (fun K hK => ?_) AllReadyH.nil
            go_simp
            refine hK.out _ _ HBy.out (fun _ => ?_)
            clear hK K
            refine wpAnyH_ready (rs := [16]) (by kernel_rfl) (by simp) ?_
            refine AllReadyH.cons rfl (fun K hK => ?_) AllReadyH.nil
            go_simp
            refine hK.out _ _ HBy.out (fun _ => ?_)
            clear hK K
            refine wpAnyH_ready (rs := [17]) (by kernel_rfl) (by simp) ?_
            refine AllReadyH.cons rfl (fun K hK => ?_) AllReadyH.nil
            go_simp
            refine (awake_any xy).mono ?_
            rintro e xx ⟨rfl, hbx⟩
            have HBx := Lib.hid (HBy.out.trans (hbx.mono HBy.out.size))
            clear hbx
            go_simp
            refine hK.out _ _ HBx.out (fun _ => ?_)
            clear hK K
            refine wpAnyH_ready (rs := [18]) (by kernel_rfl) (by simp) ?_
            refine AllReadyH.cons rfl (fun K hK => ?_) AllReadyH.nil
            go_simp
            refine hK.out _ _ HBx.out (fun _ => ?_)
            clear hK K
            refine wpAnyH_ready (rs := [19]) (by kernel_rfl) (by simp) ?_
            refine AllReadyH.cons rfl (fun K hK => ?_) AllReadyH.nil
            go_simp
            refine hK.out _ _ HBx.out (fun _ => ?_)
            clear hK K
            refine wpAnyH_done (by kernel_rfl) ?_ _
            refine calm_normal ?_
            go_wp2
            exact hfinal xx HBx.out _ (by rfl)
        · -- the other one first
          refine AllReadyH.cons rfl (fun K hK => ?_) AllReadyH.nil
          have HB8 := Lib.hid (HB7.out.alloc HB7.out.size (.cells #[.int .i64 40] 3))
          have BF := Lib.hid (Blk.new x7 3 #[.int .i64 40])
          go_simp
          refine hK.out _ _ HB8.out (fun _ => ?_)
          clear hK K
          obtain ⟨F, hF⟩ : ∃ E, E = x7.heap.size := ⟨_, rfl⟩
          have hF6 : x6.heap.size ≤ F := by rw [hF]; exact HB7.out.size
          rw [← hF] at BF ⊢
          clear hF
          generalize x7.alloc (.cells #[.int .i64 40] 3) = x8 at HB8 BF ⊢
          refine wpAnyH_ready (rs := [9]) (by kernel_rfl) (by simp) ?_
          refine AllReadyH.cons rfl (fun K hK => ?_) AllReadyH.nil
          have HB9 := Lib.hid (HB8.out.alloc HB8.out.size (.cells #[] 3))
          have BE := Lib.hid (Blk.new x8 3 #[])
          go_simp
          refine hK.out _ _ HB9.out (fun _ => ?_)
          clear hK K
          have BF9 := Lib.hid (BF.out.alloc (.cells #[] 3))
          obtain ⟨E, hE⟩ : ∃ E, E = x8.heap.size := ⟨_, rfl⟩
          have hE6 : x6.heap.size ≤ E := by rw [hE]; exact HB8.out.size
          have hEF : F < E := by rw [hE]; exact BF.out.lt
          rw [← hE] at BE ⊢
          clear hE
          generalize x8.alloc (.cells #[] 3) = x9 at HB9 BE BF9 ⊢
          refine wpAnyH_ready (rs := [11]) (by kernel_rfl) (by simp) ?_
          refine AllReadyH.cons rfl (fun K hK => ?_) AllReadyH.nil
          rw [if_pos (by kernel_rfl)]
          refine wp_append_cells (W := x6) (A := some ⟨E, 0, none⟩) (n := 0) (c := 0) (vs := iv []) (A' := Aa) (m := na) (c' := ca) (ws := iv ka) intC (.tmp 91) (.tmp 92) rfl (by kernel_rfl) (own_of_blk0 BE.out hE6) (by kernel_rfl) (hra.out.below HB9.out) (iv_one _) (by omega) (by omega) HB9.out (N := na) (Nat.zero_add _) (us := iv ka) (by rfl) ?_
          rintro A93 c93 x10 ho93 hb93 hg93
          have HO10 := Lib.hid ho93
          have HB10 := Lib.hid hb93
          have BF10 := Lib.hid (BF9.out.grown hg93 (by intro e; exact absurd (show F = E by simpa [Value.ownBlock] using e) (by omega)))
          refine hK.out _ _ HB10.out (fun _ => ?_)
          clear hK K ho93 hb93 hg93
          refine wpAnyH_ready (rs := [13]) (by kernel_rfl) (by simp) ?_
          refine AllReadyH.cons rfl (fun K hK => ?_) AllReadyH.nil
          rw [if_pos (by kernel_rfl)]
          refine wp_append_cells (W := x6) (A := A93) (n := na) (c := c93) (vs := iv ka) (A' := some ⟨F, 0, none⟩) (m := 1) (c' := 1) (ws := iv [40]) intC (.tmp 93) (.tmp 94) rfl (by kernel_rfl) HO10.out (by kernel_rfl) (rd_of_blk1 BF10.out) (iv_one _) (by omega) (by omega) HB10.out (N := na + 1) rfl (us := iv (ka ++ [40])) (iv_append _ _).symm ?_
          rintro A95 c95 xz ho95 hb95 hg95
          have HOz := Lib.hid ho95
          have HBz := Lib.hid hb95
          clear ho95 hb95 hg95
          refine hK.out _ _ HBz.out (fun _ => ?_)
          clear hK K
          have hfin := Rd.own_ HOz.out
          have HS2 := Lib.hid (same_any xz Ac A95 nc cc (na + 1) c95 _ _ _ _ (hrc.out.below HBz.out) hfin (Nat.le_trans hc3 hc4) (by unfold maxLen; omega))
          clear hfin
          refine wpAnyH_ready (rs := [14]) (by kernel_rfl) (by simp) ?_
          refine AllReadyH.cons rfl (fun K hK => ?_) AllReadyH.nil
          go_simp
          with_reducible refine HS2.out.mono ?_
          rintro e xy ⟨rfl, my, hmy⟩
          have HBy := Lib.hid (show Below x6.heap.size x6 xy from HBz.out.trans (by rw [hmy]; exact below_drewN (Below.refl _ _) my))
          clear hmy
          go_simp
          refine hK.out _ _ HBy.out (fun _ => ?_)
          clear hK K
          refine wpAnyH_ready (rs := [15]) (by kernel_rfl) (by simp) ?_
          refine AllReadyH.cons rfl (fun K hK => ?_) AllReadyH.nil
          go_simp
          refine hK.out _ _ HBy.out (fun _ => ?_)
          clear hK K
          refine wpAnyH_ready (rs := [16]) (by kernel_rfl) (by simp) ?_
          refine AllReadyH.cons rfl (fun K hK => ?_) AllReadyH.nil
          go_simp
          refine hK.out _ _ HBy.out (fun _ => ?_)
          clear hK K
          refine wpAnyH_ready (rs := [17]) (by kernel_rfl) (by simp) ?_
          refine AllReadyH.cons rfl (fun K hK => ?_) AllReadyH.nil
          go_simp
          refine (awake_any xy).mono ?_
          rintro e xx ⟨rfl, hbx⟩
          have HBx := Lib.hid (HBy.out.trans (hbx.mono HBy.out.size))
          clear hbx
          go_simp
          refine hK.out _ _ HBx.out (fun _ => ?_)
          clear hK K
          refine wpAnyH_ready (rs := [18]) (by kernel_rfl) (by simp) ?_
          refine AllReadyH.cons rfl (fun K hK => ?_) AllReadyH.nil
          go_simp
          refine hK.out _ _ HBx.out (fun _ => ?_)
          clear hK K
          refine wpAnyH_ready (rs := [19]) (by kernel_rfl) (by simp) ?_
          refine AllReadyH.cons rfl (fun K hK => ?_) AllReadyH.nil
          go_simp
          refine hK.out _ _ HBx.out (fun _ => ?_)
          clear hK K
          refine wpAnyH_done (by kernel_rfl) ?_ _
          refine calm_normal ?_
          go_wp2
          exact hfinal xx HBx.out _ (by rfl)
end Go.Proofs.Ytomiobnjllaalaa
