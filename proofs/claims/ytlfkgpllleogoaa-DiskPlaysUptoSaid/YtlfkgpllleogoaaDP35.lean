/- DiskCode2 -/
import Derived.Test.YtlfkgpllleogoaaDP11
import Derived.Test.YtlfkgpllleogoaaDP34
namespace Go.Proofs.Ytlfkgpllleogoaa
open Go.RowKit
set_option linter.unusedVariables false
/-- a record's cells -/
def recC (r : Option Dk.Rc) : Array Value := #[.int .i64 ((r.getD Dk.Rc.zero).i : Nat), .int .i64 ((r.getD Dk.Rc.zero).p : Nat), .int .i64 ((r.getD Dk.Rc.zero).q : Nat)]
def GotRc (W w : World) (r : Option Dk.Rc) (e : Ending) (w' : World) : Prop := e = .returned (.tuple #[.agg (recC r), .bool r.isSome]) ∧ Below W.heap.size W w' ∧ Below w.heap.size w w'
abbrev recZ : Array Value := #[.int .i64 0, .int .i64 0, .int .i64 0]
set_option maxHeartbeats 1000000 in
set_option maxRecDepth 100000 in
theorem dread_raw {w : World} {A1 A2 : Option Addr} {n1 c1 n2 c2 B1 B2 : Nat} {a b : List Nat} (ha : Dk.Fine a) (hb : Dk.Fine b) (hc1 : n1 ≤ c1) (hc2 : n2 ≤ c2) (h1 : Rd w B1 A1 n1 (bv a)) (h2 : Rd w B2 A2 n2 (bv b)) :
    Calls Try.prog 27 #[.agg #[.slice A1 n1 c1, .slice A2 n2 c2]] w (GotRc w w (Dk.read a b)) := by
  obtain ⟨R, hR⟩ : ∃ x, Dk.pick (Dk.parse a) (Dk.parse b) = x := ⟨_, rfl⟩
  have hrd : Dk.read a b = R.1 := by rw [← hR]; rfl
  obtain ⟨g1, hg1⟩ : ∃ g, w.heap.size = g := ⟨_, rfl⟩
  obtain ⟨g2, hg2⟩ : ∃ g, w.heap.size + 1 = g := ⟨_, rfl⟩
  obtain ⟨wz, hwz⟩ : ∃ x, (w.alloc (.cells #[.slice A1 n1 c1, .slice A2 n2 c2] 44)).alloc (.cells recZ 46) = x := ⟨_, rfl⟩
  have bb : Below w.heap.size w wz := by rw [← hwz]; exact ((Below.refl _ _).alloc (Nat.le_refl _) _).alloc (by simp) _
  have k1 : Blk wz g1 44 #[.slice A1 n1 c1, .slice A2 n2 c2] := by rw [← hwz, ← hg1]; exact (Blk.new _ _ _).alloc _
  have k2 : Blk wz g2 46 recZ := by
    rw [← hwz, ← hg2]
    have := Blk.new (w.alloc (.cells #[.slice A1 n1 c1, .slice A2 n2 c2] 44)) 46 recZ
    rw [World.size_alloc] at this
    exact this
  have hgl : w.heap.size ≤ g2 := by omega
  have CL : Hid (Calls Try.prog 56 #[.agg #[.slice A1 n1 c1, .slice A2 n2 c2]] wz (GotLat wz wz R)) := Lib.hid (dlatest hR ha hb hc1 hc2 (h1.fit.below bb) (h2.fit.below bb) (Below.refl _ _))
  have HBB := Lib.hid bb
  have HGL := Lib.hid hgl
  have HWZ := Lib.hid hwz
  have HG1 := Lib.hid hg1
  have HG2 := Lib.hid hg2
  have HK1 := Lib.hid k1
  have HK2 := Lib.hid k2
  rw [hrd]
  clear ha hb hc1 hc2 h1 h2 bb k1 k2 hgl hwz hg1 hg2 hR hrd
  obtain ⟨L, inB⟩ := R
  obtain ⟨X, hX⟩ : ∃ x, L.getD Dk.Rc.zero = x := ⟨_, rfl⟩
  have HX := Lib.hid hX
  clear hX
  obtain ⟨s, hs⟩ : ∃ x, L.isSome = x := ⟨_, rfl⟩
  have HS := Lib.hid hs
  clear hs
  go_enter Try.func27, Try.ntmps27
  go_upto_region 1 with fail
  rw [HG2.out, HG1.out, HWZ.out]
  clear HWZ HG1 HG2
  go_upto_region 2 with (first
    | (refine wpList_load_row rfl 44 (.tmp 1) rfl g1 rfl 44 #[.slice A1 n1 c1, .slice A2 n2 c2] (0, 0) _ HK1.out Try.underlying44 rfl (by kernel_rfl) ?_)
    | (go_at_call 56; refine CL.out.mono ?_; rintro en w1 ⟨he, hB, hb⟩
       have he2 : en = .returned (.tuple #[.agg #[.int .i64 (X.n : Nat), .int .i64 (X.i : Nat), .int .i64 (X.p : Nat), .int .i64 (X.q : Nat), .bool s], .bool inB]) := by rw [he]; unfold slotC; simp only; rw [HX.out, HS.out]
       clear he
       subst he2
       have HB1 := Lib.hid hB
       have HZ := Lib.hid (Blk.new w1 84 #[.int .i64 0, .int .i64 0, .int .i64 0, .int .i64 0, .bool false])
       clear hB hb CL)
    | (refine wpList_store_row rfl 84 (.tmp 4) (.tmp 9) rfl w1.heap.size #[.int .i64 (X.n : Nat), .int .i64 (X.i : Nat), .int .i64 (X.p : Nat), .int .i64 (X.q : Nat), .bool s] rfl rfl 84 #[.int .i64 0, .int .i64 0, .int .i64 0, .int .i64 0, .bool false] HZ.out (by kernel_rfl) rfl (by kernel_rfl) ?_)
    | fail)
  have b2 : Below w1.heap.size w1 ((w1.alloc (.cells #[.int .i64 0, .int .i64 0, .int .i64 0, .int .i64 0, .bool false] 84)).setRow w1.heap.size #[.int .i64 (X.n : Nat), .int .i64 (X.i : Nat), .int .i64 (X.p : Nat), .int .i64 (X.q : Nat), .bool s]) := below_setRow ((Below.refl _ _).alloc (Nat.le_refl _) _) (Nat.le_refl _) _
  have k3 := HZ.out.row #[.int .i64 (X.n : Nat), .int .i64 (X.i : Nat), .int .i64 (X.p : Nat), .int .i64 (X.q : Nat), .bool s]
  obtain ⟨g3, hg3⟩ : ∃ h, w1.heap.size = h := ⟨_, rfl⟩
  have hbz : Below wz.heap.size wz ((w1.alloc (.cells #[.int .i64 0, .int .i64 0, .int .i64 0, .int .i64 0, .bool false] 84)).setRow w1.heap.size #[.int .i64 (X.n : Nat), .int .i64 (X.i : Nat), .int .i64 (X.p : Nat), .int .i64 (X.q : Nat), .bool s]) := HB1.out.trans (b2.mono HB1.out.size)
  rw [hg3] at k3 hbz ⊢
  generalize (w1.alloc (.cells #[.int .i64 0, .int .i64 0, .int .i64 0, .int .i64 0, .bool false] 84)).setRow g3 #[.int .i64 (X.n : Nat), .int .i64 (X.i : Nat), .int .i64 (X.p : Nat), .int .i64 (X.q : Nat), .bool s] = w2 at k3 hbz ⊢
  have HB2 := Lib.hid hbz
  have HK2 := Lib.hid (HK2.out.below hbz)
  have x1 : w2.cell? ⟨g3, 1, none⟩ = some (.int .i64 (X.i : Nat)) := k3.cell 1
  have x2 : w2.cell? ⟨g3, 2, none⟩ = some (.int .i64 (X.p : Nat)) := k3.cell 2
  have x3 : w2.cell? ⟨g3, 3, none⟩ = some (.int .i64 (X.q : Nat)) := k3.cell 3
  have x4 : w2.cell? ⟨g3, 4, none⟩ = some (.bool s) := k3.cell 4
  obtain ⟨y0, y1, y2, f0, f1, f2⟩ := three HK2.out
  clear b2 k3 hg3 hbz HZ HB1
  go_region
  all_goals
    go_wp2
    obtain ⟨p1, p2, _⟩ := put3 HK2.out (.int .i64 (X.i : Nat)) (.int .i64 (X.p : Nat)) (.int .i64 (X.q : Nat))
    have HP1 := Lib.hid p1
    have HP2 := Lib.hid (p2 w HGL.out (HBB.out.trans (HB2.out.mono HBB.out.size)))
    clear p1 p2 x1 x2 x3 x4 y0 y1 y2 f0 f1 f2
    generalize ((w2.setCell ⟨g2, 0, none⟩ (.int .i64 (X.i : Nat))).setCell ⟨g2, 1, none⟩ (.int .i64 (X.p : Nat))).setCell ⟨g2, 2, none⟩ (.int .i64 (X.q : Nat)) = w3 at HP1 HP2 ⊢
    refine bodyPost_ret (results_cell_tmp rfl _ _ _ _ _ _ rfl HP1.out.drew Try.underlying46 rfl (by kernel_rfl)) rfl ?_
    have q : Below w.heap.size w w3.drew := HP2.out.trans ⟨rfl, rfl, rfl, Nat.le_refl _, fun _ _ => rfl⟩
    exact ⟨by unfold recC; simp only; rw [HX.out, HS.out]; rfl, q, q⟩
theorem dread {W w : World} {A1 A2 : Option Addr} {n1 c1 n2 c2 B1 B2 : Nat} {a b : List Nat} {r : Option Dk.Rc} (he : Dk.read a b = r) (ha : Dk.Fine a) (hb : Dk.Fine b) (hc1 : n1 ≤ c1) (hc2 : n2 ≤ c2) (h1 : Rd w B1 A1 n1 (bv a)) (h2 : Rd w B2 A2 n2 (bv b)) (hB : Below W.heap.size W w) :
    Calls Try.prog 27 #[.agg #[.slice A1 n1 c1, .slice A2 n2 c2]] w (GotRc W w r) := by
  subst he
  exact (dread_raw ha hb hc1 hc2 h1 h2).mono fun e w' ⟨k1, k2, k3⟩ => ⟨k1, hB.trans (k2.mono hB.size), k3⟩
/-- a disk of the call's own -/
def GotD (W w : World) (x : List Nat × List Nat) (e : Ending) (w' : World) : Prop := ∃ A c A' c', e = .returned (.agg #[.slice A x.1.length c, .slice A' x.2.length c']) ∧ OwnB W w' A x.1.length c x.1 ∧ OwnB W w' A' x.2.length c' x.2 ∧ Below W.heap.size W w' ∧ Below w.heap.size w w'
abbrev diskZ : Array Value := #[.slice none 0 0, .slice none 0 0]
theorem Dk.keeps_pick {a b : List Nat} {L : Option Dk.Rc} {inB : Bool} (h : Dk.pick (Dk.parse a) (Dk.parse b) = (L, inB)) : Dk.keeps a b = (L.isSome && !inB) ∧ Dk.next a b = (L.getD Dk.Rc.zero).n + 1 := by
  unfold Dk.keeps Dk.next Dk.read
  rw [h]
  refine ⟨rfl, ?_⟩
  cases L <;> rfl
set_option maxHeartbeats 2000000 in
set_option maxRecDepth 100000 in
theorem dwrite_raw {w : World} {A1 A2 : Option Addr} {n1 c1 n2 c2 B1 B2 : Nat} {a b : List Nat} (i p q cut : Int) (ha : Dk.Fine a) (hb : Dk.Fine b) (hc1 : n1 ≤ c1) (hc2 : n2 ≤ c2) (h1 : Rd w B1 A1 n1 (bv a)) (h2 : Rd w B2 A2 n2 (bv b)) :
    Calls Try.prog 26 #[.agg #[.slice A1 n1 c1, .slice A2 n2 c2], .agg #[.int .i64 i, .int .i64 p, .int .i64 q], .int .i64 cut] w (GotD w w (Dk.write a b i p q cut)) := by
  obtain ⟨R, hR⟩ : ∃ x, Dk.pick (Dk.parse a) (Dk.parse b) = x := ⟨_, rfl⟩
  have hn1 := h1.length
  have hn2 := h2.length
  obtain ⟨g1, hg1⟩ : ∃ g, w.heap.size = g := ⟨_, rfl⟩
  obtain ⟨g2, hg2⟩ : ∃ g, w.heap.size + 1 = g := ⟨_, rfl⟩
  obtain ⟨g3, hg3⟩ : ∃ g, w.heap.size + 1 + 1 = g := ⟨_, rfl⟩
  obtain ⟨wz, hwz⟩ : ∃ x, ((w.alloc (.cells #[.slice A1 n1 c1, .slice A2 n2 c2] 44)).alloc (.cells #[.int .i64 i, .int .i64 p, .int .i64 q] 46)).alloc (.cells diskZ 44) = x := ⟨_, rfl⟩
  have bb : Below w.heap.size w wz := by rw [← hwz]; exact (((Below.refl _ _).alloc (Nat.le_refl _) _).alloc (by simp) _).alloc (by simp; omega) _
  have k1 : Blk wz g1 44 #[.slice A1 n1 c1, .slice A2 n2 c2] := by rw [← hwz, ← hg1]; exact ((Blk.new _ _ _).alloc _).alloc _
  have k2 : Blk wz g2 46 #[.int .i64 i, .int .i64 p, .int .i64 q] := by
    rw [← hwz, ← hg2]
    have := Blk.new (w.alloc (.cells #[.slice A1 n1 c1, .slice A2 n2 c2] 44)) 46 #[.int .i64 i, .int .i64 p, .int .i64 q]
    rw [World.size_alloc] at this
    exact this.alloc _
  have k3 : Blk wz g3 44 diskZ := by
    rw [← hwz, ← hg3]
    have := Blk.new ((w.alloc (.cells #[.slice A1 n1 c1, .slice A2 n2 c2] 44)).alloc (.cells #[.int .i64 i, .int .i64 p, .int .i64 q] 46)) 44 diskZ
    rw [World.size_alloc, World.size_alloc] at this
    exact this
  have hgl : w.heap.size ≤ g3 := by omega
  have CL : Hid (Calls Try.prog 56 #[.agg #[.slice A1 n1 c1, .slice A2 n2 c2]] wz (GotLat w wz R)) := Lib.hid (dlatest hR ha hb hc1 hc2 (h1.fit.below bb) (h2.fit.below bb) bb)
  have C1 : Hid (∀ wx, Below w.heap.size w wx → Calls Try.prog 58 #[.slice A1 n1 c1] wx (GotIn w wx a)) := Lib.hid fun wx hx => clone_any (by have := ha.2; unfold Lim; omega) (h1.fit.below hx) hx
  have C2 : Hid (∀ wx, Below w.heap.size w wx → Calls Try.prog 58 #[.slice A2 n2 c2] wx (GotIn w wx b)) := Lib.hid fun wx hx => clone_any (by have := hb.2; unfold Lim; omega) (h2.fit.below hx) hx
  have HEND : Hid (∀ wx (A A' : Option Addr) (c c' : Nat) (x y : List Nat), Blk wx g3 44 diskZ → OwnB w wx A x.length c x → OwnB w wx A' y.length c' y → Below w.heap.size w wx → GotD w w (x, y) (.returned (.agg #[.slice A x.length c, .slice A' y.length c'])) (wx.setRow g3 #[.slice A x.length c, .slice A' y.length c'])) := Lib.hid fun wx A A' c c' x y hk ho ho' hx => by
    have q := below_setRow hx hgl #[.slice A x.length c, .slice A' y.length c']
    exact ⟨A, c, A', c', rfl, own_row_t ho hk (by decide), own_row_t ho' hk (by decide), q, q⟩
  have HWZ := Lib.hid hwz
  have HG1 := Lib.hid hg1
  have HG2 := Lib.hid hg2
  have HG3 := Lib.hid hg3
  have HK1 := Lib.hid k1
  have HK2 := Lib.hid k2
  have HK3 := Lib.hid k3
  have HBB := Lib.hid bb
  obtain ⟨L, inB⟩ := R
  obtain ⟨hkp, hnx⟩ := Dk.keeps_pick hR
  have hnl := Dk.next_le a b
  have HWR : Hid (Dk.write a b i p q cut = if (L.isSome && !inB) = true then (a, Dk.new a b i p q cut) else (Dk.new a b i p q cut, b)) := Lib.hid (by unfold Dk.write; rw [hkp])
  obtain ⟨X, hX⟩ : ∃ x, L.getD Dk.Rc.zero = x := ⟨_, rfl⟩
  rw [hX] at hnx
  have HX := Lib.hid hX
  obtain ⟨s, hs⟩ : ∃ x, L.isSome = x := ⟨_, rfl⟩
  rw [hs] at HWR
  have HS := Lib.hid hs
  obtain ⟨Y, hY⟩ : ∃ x, Dk.new a b i p q cut = x := ⟨_, rfl⟩
  have hYs : Dk.head (Dk.slot ((X.n : Int) + 1) i p q) cut = Y := by rw [← hY]; unfold Dk.new; rw [hnx]; rfl
  rw [hY] at HWR
  have hX1 : (X.n : Int) ≤ 1099511627776 := by omega
  obtain ⟨SL, hSL⟩ : ∃ x, Dk.slot ((X.n : Int) + 1) i p q = x := ⟨_, rfl⟩
  rw [hSL] at hYs
  have hsl : SL.length ≤ 40 := by rw [← hSL]; exact (Dk.slotR_len _).2
  have HYS := Lib.hid hYs
  have HSL := Lib.hid hSL
  have HSN := Lib.hid hsl
  clear ha hb hc1 hc2 h1 h2 bb k1 k2 k3 hgl hwz hg1 hg2 hg3 hR hkp hnx hnl hX hs hY hYs hSL hsl hn1 hn2
  go_enter Try.func26, Try.ntmps26
  go_upto_region 1 with fail
  rw [HG3.out, HG2.out, HG1.out, HWZ.out]
  clear HWZ HG1 HG2 HG3
  go_upto_region 2 with (first
    | (refine wpList_load_row rfl 44 (.tmp 3) rfl g1 rfl 44 #[.slice A1 n1 c1, .slice A2 n2 c2] (0, 0) _ HK1.out Try.underlying44 rfl (by kernel_rfl) ?_)
    | (go_at_call 56; refine CL.out.mono ?_; rintro en w1 ⟨he, hB, hb⟩
       have he2 : en = .returned (.tuple #[.agg #[.int .i64 (X.n : Nat), .int .i64 (X.i : Nat), .int .i64 (X.p : Nat), .int .i64 (X.q : Nat), .bool s], .bool inB]) := by rw [he]; unfold slotC; simp only; rw [HX.out, HS.out]
       clear he
       subst he2
       have HB1 := Lib.hid hB
       have HBZ := Lib.hid hb
       have HZ := Lib.hid (Blk.new w1 84 #[.int .i64 0, .int .i64 0, .int .i64 0, .int .i64 0, .bool false])
       clear hB hb CL)
    | (refine wpList_store_row rfl 84 (.tmp 7) (.tmp 13) rfl w1.heap.size #[.int .i64 (X.n : Nat), .int .i64 (X.i : Nat), .int .i64 (X.p : Nat), .int .i64 (X.q : Nat), .bool s] rfl rfl 84 #[.int .i64 0, .int .i64 0, .int .i64 0, .int .i64 0, .bool false] HZ.out (by kernel_rfl) rfl (by kernel_rfl) ?_)
    | fail)
  have b2 : Below w1.heap.size w1 ((w1.alloc (.cells #[.int .i64 0, .int .i64 0, .int .i64 0, .int .i64 0, .bool false] 84)).setRow w1.heap.size #[.int .i64 (X.n : Nat), .int .i64 (X.i : Nat), .int .i64 (X.p : Nat), .int .i64 (X.q : Nat), .bool s]) := below_setRow ((Below.refl _ _).alloc (Nat.le_refl _) _) (Nat.le_refl _) _
  have k3 := HZ.out.row #[.int .i64 (X.n : Nat), .int .i64 (X.i : Nat), .int .i64 (X.p : Nat), .int .i64 (X.q : Nat), .bool s]
  obtain ⟨g4, hg4⟩ : ∃ h, w1.heap.size = h := ⟨_, rfl⟩
  have hbz : Below w.heap.size w ((w1.alloc (.cells #[.int .i64 0, .int .i64 0, .int .i64 0, .int .i64 0, .bool false] 84)).setRow w1.heap.size #[.int .i64 (X.n : Nat), .int .i64 (X.i : Nat), .int .i64 (X.p : Nat), .int .i64 (X.q : Nat), .bool s]) := HB1.out.trans (b2.mono HB1.out.size)
  have hbq := HBZ.out.trans (b2.mono HBZ.out.size)
  rw [hg4] at k3 hbz hbq ⊢
  generalize (w1.alloc (.cells #[.int .i64 0, .int .i64 0, .int .i64 0, .int .i64 0, .bool false] 84)).setRow g4 #[.int .i64 (X.n : Nat), .int .i64 (X.i : Nat), .int .i64 (X.p : Nat), .int .i64 (X.q : Nat), .bool s] = w2 at k3 hbz hbq ⊢
  have HB2 := Lib.hid hbz
  have HK1 := Lib.hid (HK1.out.below hbq)
  have HK2 := Lib.hid (HK2.out.below hbq)
  have HK3 := Lib.hid (HK3.out.below hbq)
  have HK4 := Lib.hid k3
  have x0 : w2.cell? ⟨g4, 0, none⟩ = some (.int .i64 (X.n : Nat)) := k3.cell 0
  clear b2 k3 hg4 hbz hbq HZ HB1 HBZ
  go_upto_region 3 with (first
    | (refine wpList_load_row rfl 46 (.tmp 4) rfl g2 rfl 46 #[.int .i64 i, .int .i64 p, .int .i64 q] (0, 0) _ HK2.out Try.underlying46 rfl (by kernel_rfl) ?_)
    | (go_at_call 29; refine (dslot HSL.out HB2.out).mono ?_; rintro en w3 ⟨A3, c3, rfl, ho, hB, hb⟩
       have HO3 := Lib.hid ho
       have HB3 := Lib.hid hB
       have HBB3 := Lib.hid hb
       clear ho hB hb)
    | (go_at_call 57; refine (dhead HYS.out (by have := HSN.out; omega) HO3.out HB3.out).mono ?_; rintro en w4 ⟨A4, c4, rfl, ho, hB, hb⟩
       have HO4 := Lib.hid ho
       have HB4 := Lib.hid hB
       have HBB4 := Lib.hid (HBB3.out.trans (hb.mono HBB3.out.size))
       clear ho hB hb)
    | fail)
  have HK1 := Lib.hid (HK1.out.below HBB4.out)
  have HK3 := Lib.hid (HK3.out.below HBB4.out)
  have HK4 := Lib.hid (HK4.out.below HBB4.out)
  have z4 : w4.cell? ⟨g4, 4, none⟩ = some (.bool s) := HK4.out.cell 4
  have y0 : w4.cell? ⟨g1, 0, none⟩ = some (.slice A1 n1 c1) := HK1.out.cell 0
  have y1 : w4.cell? ⟨g1, 1, none⟩ = some (.slice A2 n2 c2) := HK1.out.cell 1
  clear x0 HO3 HB3 HBB3 HBB4 HK2
  by_cases hkeep : (s && !inB) = true
  · obtain ⟨rfl, rfl⟩ : s = true ∧ inB = false := by cases s <;> cases inB <;> simp_all
    rw [if_pos hkeep] at HWR
    clear hkeep
    go_upto_region 4 with fail
    go_wp2_with (first
      | (go_at_call 58; refine (C1.out _ HB4.out).mono ?_; rintro en w5 ⟨A5, c5, rfl, ho, hB, hb⟩
         have HO5 := Lib.hid ho
         have HB5 := Lib.hid hB
         have HO4 := Lib.hid (own_below HO4.out hb)
         have HK3 := Lib.hid (HK3.out.below hb)
         clear ho hB hb)
      | (refine wpList_store_row rfl 44 (.tmp 6) (.tmp 32) rfl g3 #[.slice A5 a.length c5, .slice A4 Y.length c4] rfl rfl 44 diskZ HK3.out (by kernel_rfl) rfl (by kernel_rfl) ?_)
      | fail)
    refine bodyPost_ret (results_cell_row rfl _ _ _ _ _ _ _ rfl (HK3.out.row #[.slice A5 a.length c5, .slice A4 Y.length c4]) Try.underlying44 rfl (by kernel_rfl)) rfl ?_
    rw [HWR.out]
    exact HEND.out _ _ _ _ _ _ _ HK3.out HO5.out HO4.out HB5.out
  · rw [if_neg hkeep] at HWR
    have hcase : (s = false) ∨ (s = true ∧ inB = true) := by cases s <;> cases inB <;> simp_all
    clear hkeep
    rcases hcase with rfl | ⟨rfl, rfl⟩
    all_goals
      go_upto_region 5 with fail
      go_wp2_with (first
        | (go_at_call 58; refine (C2.out _ HB4.out).mono ?_; rintro en w5 ⟨A5, c5, rfl, ho, hB, hb⟩
           have HO5 := Lib.hid ho
           have HB5 := Lib.hid hB
           have HO4 := Lib.hid (own_below HO4.out hb)
           have HK3 := Lib.hid (HK3.out.below hb)
           clear ho hB hb)
        | (refine wpList_store_row rfl 44 (.tmp 6) (.tmp 37) rfl g3 #[.slice A4 Y.length c4, .slice A5 b.length c5] rfl rfl 44 diskZ HK3.out (by kernel_rfl) rfl (by kernel_rfl) ?_)
        | fail)
      refine bodyPost_ret (results_cell_row rfl _ _ _ _ _ _ _ rfl (HK3.out.row #[.slice A4 Y.length c4, .slice A5 b.length c5]) Try.underlying44 rfl (by kernel_rfl)) rfl ?_
      rw [HWR.out]
      exact HEND.out _ _ _ _ _ _ _ HK3.out HO4.out HO5.out HB5.out
theorem dwrite {W w : World} {A1 A2 : Option Addr} {n1 c1 n2 c2 B1 B2 : Nat} {a b : List Nat} {i p q cut : Int} {x : List Nat × List Nat} (he : Dk.write a b i p q cut = x) (ha : Dk.Fine a) (hb : Dk.Fine b) (hc1 : n1 ≤ c1) (hc2 : n2 ≤ c2) (h1 : Rd w B1 A1 n1 (bv a)) (h2 : Rd w B2 A2 n2 (bv b)) (hB : Below W.heap.size W w) :
    Calls Try.prog 26 #[.agg #[.slice A1 n1 c1, .slice A2 n2 c2], .agg #[.int .i64 i, .int .i64 p, .int .i64 q], .int .i64 cut] w (GotD W w x) := by
  subst he
  exact (dwrite_raw i p q cut ha hb hc1 hc2 h1 h2).mono fun e w' ⟨A, c, A', c', k1, k2, k3, k4, k5⟩ => ⟨A, c, A', c', k1, own_of hB.size k2, own_of hB.size k3, hB.trans (k4.mono hB.size), k5⟩
end Go.Proofs.Ytlfkgpllleogoaa

