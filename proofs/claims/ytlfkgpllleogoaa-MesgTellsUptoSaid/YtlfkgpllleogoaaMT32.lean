/- MesgAW -/
import Derived.Test.YtlfkgpllleogoaaMT26
namespace Go.Proofs.Ytlfkgpllleogoaa
open Go.RowKit
set_option linter.unusedVariables false
/-- what is left: kind, bytes -/
def AlongW (W : World) (b : Nat) (m : Mg) (e : Ending) (w' : World) : Prop :=
  ∃ (c1 c2 c3 c4 c5 c6 c7 c8 c9 c10 c11 c12 c13 c14 c15 c16 c17 c18 c19 c20 c21 c22 c23 : Value) (L : List Nat) (f : Bool), e = .returned (.agg #[.int .i64 (if wi 8 m.kind = true then m.kind else 0), c1, c2, c3, c4, c5, c6, c7, c8, c9, c10, c11, c12, c13, c14, c15, c16, c17, c18, c19, c20, c21, c22, c23]) ∧ WrAt W w' b L f ∧ m.ok = (decide ((if wi 8 m.kind = true then m.kind else 0) ≠ 0) && !f) ∧ (m.ok = true → L = m.enc)
theorem AlongW.of {W w' : World} {b : Nat} {m : Mg} {c1 c2 c3 c4 c5 c6 c7 c8 c9 c10 c11 c12 c13 c14 c15 c16 c17 c18 c19 c20 c21 c22 c23 : Value} {v : Int} {L X : List Nat} {f ok : Bool} (hv : (if wi 8 m.kind = true then m.kind else 0) = v) (hw : WrAt W w' b L f) (hf : f = !ok) (hL : ok = true → L = X) (hok : m.ok = (decide (v ≠ 0) && ok)) (hX : m.ok = true → X = m.enc) : AlongW W b m (.returned (.agg #[.int .i64 v, c1, c2, c3, c4, c5, c6, c7, c8, c9, c10, c11, c12, c13, c14, c15, c16, c17, c18, c19, c20, c21, c22, c23])) w' := by
  subst hv
  refine ⟨c1, c2, c3, c4, c5, c6, c7, c8, c9, c10, c11, c12, c13, c14, c15, c16, c17, c18, c19, c20, c21, c22, c23, L, f, rfl, hw, by rw [hok, hf]; cases ok <;> simp, fun h => ?_⟩
  have h2 := h
  rw [hok, Bool.and_eq_true] at h2
  rw [hL h2.2, hX h]
theorem kind_of {k v : Int} (h : (if wi 8 k = true then k else 0) = v) (hv : v ≠ 0) : k = v ∧ wi 8 k = true := by
  split at h
  · exact ⟨h, by assumption⟩
  · exact absurd h.symm hv
theorem kind_no {k v : Int} (h : (if wi 8 k = true then k else 0) = v) (hv : v = 0) : k = 0 ∨ wi 8 k = false := by
  split at h
  · left; omega
  · right; simpa using ‹¬ wi 8 k = true›
set_option maxHeartbeats 8000000 in
set_option maxRecDepth 100000 in
theorem walong_any {W w : World} {b : Nat} {a : GA} {m : Mg} (h : WrAt W w b [] false) (hM : m.Wide) (hr : RdG W W.heap.size a m) :
    Calls Try.prog 39 #[.iface 62 (.pointer (some ⟨b, 0, none⟩)), msgV a m] w (AlongW W b m) := by
  have hm1 := m_wnum b
  have hm2 := m_wnums b
  have hm3 := m_wdata b
  have hm4 := m_wentry b
  have HRD := Lib.hid hr
  have HM := Lib.hid hM
  obtain ⟨g, hg⟩ : ∃ g, w.heap.size = g := ⟨_, rfl⟩
  obtain ⟨wx, hwx⟩ : ∃ wx, (w.alloc (.cells #[.int .i64 m.kind, .int .i64 m.frm, .int .i64 m.dst, .int .i64 m.view, .int .i64 m.inst, .int .i64 m.len, .bool m.has, .int .i64 m.mem, .int .i64 m.src, .int .i64 m.pos, .int .i64 m.tot, .slice a.Ad m.data.length a.cd, .int .i64 m.hop, .int .i64 m.seq, .slice a.Ah m.hav.length a.ch, .slice a.An m.nee.length a.cn, .int .i64 m.idx, .int .i64 m.ent.s, .int .i64 m.ent.q, .int .i64 m.ent.c.kind, .int .i64 m.ent.c.who, .slice a.c.Ak m.ent.c.key.length a.c.ck, .slice a.c.Av m.ent.c.val.length a.c.cv, .slice a.c.Ao m.ent.c.old.length a.c.co] 29)).alloc (.cells #[.int .i64 0, .int .i64 0, .int .i64 0, .int .i64 0, .int .i64 0, .int .i64 0, .bool false, .int .i64 0, .int .i64 0, .int .i64 0, .int .i64 0, .slice none 0 0, .int .i64 0, .int .i64 0, .slice none 0 0, .slice none 0 0, .int .i64 0, .int .i64 0, .int .i64 0, .int .i64 0, .int .i64 0, .slice none 0 0, .slice none 0 0, .slice none 0 0] 29) = wx := ⟨_, rfl⟩
  have hbb : Below w.heap.size w wx := by rw [← hwx]; exact ((Below.refl _ _).alloc (Nat.le_refl _) _).alloc (by rw [World.size_alloc]; omega) _
  have hbl := h.lt
  have hWs : W.heap.size ≤ g := by obtain ⟨_, _, _, _, q, _⟩ := h; have := q.size; omega
  have hk : Blk wx g 29 #[.int .i64 m.kind, .int .i64 m.frm, .int .i64 m.dst, .int .i64 m.view, .int .i64 m.inst, .int .i64 m.len, .bool m.has, .int .i64 m.mem, .int .i64 m.src, .int .i64 m.pos, .int .i64 m.tot, .slice a.Ad m.data.length a.cd, .int .i64 m.hop, .int .i64 m.seq, .slice a.Ah m.hav.length a.ch, .slice a.An m.nee.length a.cn, .int .i64 m.idx, .int .i64 m.ent.s, .int .i64 m.ent.q, .int .i64 m.ent.c.kind, .int .i64 m.ent.c.who, .slice a.c.Ak m.ent.c.key.length a.c.ck, .slice a.c.Av m.ent.c.val.length a.c.cv, .slice a.c.Ao m.ent.c.old.length a.c.co] := by rw [← hwx, ← hg]; exact (Blk.new _ _ _).alloc _
  have hz : Blk wx (g + 1) 29 msgZ := by
    rw [← hwx, ← hg]
    have := Blk.new (w.alloc (.cells #[.int .i64 m.kind, .int .i64 m.frm, .int .i64 m.dst, .int .i64 m.view, .int .i64 m.inst, .int .i64 m.len, .bool m.has, .int .i64 m.mem, .int .i64 m.src, .int .i64 m.pos, .int .i64 m.tot, .slice a.Ad m.data.length a.cd, .int .i64 m.hop, .int .i64 m.seq, .slice a.Ah m.hav.length a.ch, .slice a.An m.nee.length a.cn, .int .i64 m.idx, .int .i64 m.ent.s, .int .i64 m.ent.q, .int .i64 m.ent.c.kind, .int .i64 m.ent.c.who, .slice a.c.Ak m.ent.c.key.length a.c.ck, .slice a.c.Av m.ent.c.val.length a.c.cv, .slice a.c.Ao m.ent.c.old.length a.c.co] 29)) 29 #[.int .i64 0, .int .i64 0, .int .i64 0, .int .i64 0, .int .i64 0, .int .i64 0, .bool false, .int .i64 0, .int .i64 0, .int .i64 0, .int .i64 0, .slice none 0 0, .int .i64 0, .int .i64 0, .slice none 0 0, .slice none 0 0, .int .i64 0, .int .i64 0, .int .i64 0, .int .i64 0, .int .i64 0, .slice none 0 0, .slice none 0 0, .slice none 0 0]
    rwa [World.size_alloc] at this
  have HS : Hid (WaSt W wx b g #[.int .i64 m.kind, .int .i64 m.frm, .int .i64 m.dst, .int .i64 m.view, .int .i64 m.inst, .int .i64 m.len, .bool m.has, .int .i64 m.mem, .int .i64 m.src, .int .i64 m.pos, .int .i64 m.tot, .slice a.Ad m.data.length a.cd, .int .i64 m.hop, .int .i64 m.seq, .slice a.Ah m.hav.length a.ch, .slice a.An m.nee.length a.cn, .int .i64 m.idx, .int .i64 m.ent.s, .int .i64 m.ent.q, .int .i64 m.ent.c.kind, .int .i64 m.ent.c.who, .slice a.c.Ak m.ent.c.key.length a.c.ck, .slice a.c.Av m.ent.c.val.length a.c.cv, .slice a.c.Ao m.ent.c.old.length a.c.co] true [] 0) := Lib.hid ⟨⟨[], false, h.below hbb, rfl, fun _ => rfl, by simp⟩, hk, hz, by omega, hWs⟩
  have HWX := Lib.hid hwx
  have HG := Lib.hid hg
  clear h hM hr hbb hbl hWs hk hz hwx hg
  unfold msgV msgC
  go_enter Try.func39, Try.ntmps39
  go_upto_region 1 with fail
  rw [HG.out, HWX.out]
  clear HWX
  have C := Lib.hid (HS.out.num (by omega) (m.kind) 8)
  obtain ⟨v0, hv⟩ : ∃ v : Int, (if wi 8 (m.kind) = true then (m.kind) else 0) = v := ⟨_, rfl⟩
  rw [hv] at C
  have HV0 := Lib.hid hv
  clear hv
  have x0 : wx.cell? ⟨g, 0, none⟩ = some (.int .i64 m.kind) := HS.out.blk.cell 0
  go_upto_region 2 with (first
    | (go_at_call 101; refine C.out.mono ?_; rintro en w1 ⟨rfl, hs⟩
       have HS := Lib.hid hs
       have x0 : w1.cell? ⟨g, 0, none⟩ = some (.int .i64 m.kind) := hs.blk.cell 0
       have f0 := hs.blk.frozen 0
       clear hs C)
    | fail)
  clear x0 f0
  have HS : Hid (WaSt W (w1.setCell ⟨g, 0, none⟩ (.int .i64 v0)) b g #[.int .i64 v0, .int .i64 m.frm, .int .i64 m.dst, .int .i64 m.view, .int .i64 m.inst, .int .i64 m.len, .bool m.has, .int .i64 m.mem, .int .i64 m.src, .int .i64 m.pos, .int .i64 m.tot, .slice a.Ad m.data.length a.cd, .int .i64 m.hop, .int .i64 m.seq, .slice a.Ah m.hav.length a.ch, .slice a.An m.nee.length a.cn, .int .i64 m.idx, .int .i64 m.ent.s, .int .i64 m.ent.q, .int .i64 m.ent.c.kind, .int .i64 m.ent.c.who, .slice a.c.Ak m.ent.c.key.length a.c.ck, .slice a.c.Av m.ent.c.val.length a.c.cv, .slice a.c.Ao m.ent.c.old.length a.c.co] _ _ _) := Lib.hid (HS.out.put 0 (.int .i64 v0))
  generalize w1.setCell ⟨g, 0, none⟩ (.int .i64 v0) = wx at HS ⊢
  have C := Lib.hid (HS.out.num (by omega) (m.frm) 6)
  obtain ⟨v1, hv⟩ : ∃ v : Int, (if wi 6 (m.frm) = true then (m.frm) else 0) = v := ⟨_, rfl⟩
  rw [hv] at C
  clear hv
  have x0 : wx.cell? ⟨g, 1, none⟩ = some (.int .i64 m.frm) := HS.out.blk.cell 1
  go_upto_region 3 with (first
    | (go_at_call 101; refine C.out.mono ?_; rintro en w1 ⟨rfl, hs⟩
       have HS := Lib.hid hs
       have x0 : w1.cell? ⟨g, 1, none⟩ = some (.int .i64 m.frm) := hs.blk.cell 1
       have f0 := hs.blk.frozen 1
       clear hs C)
    | fail)
  clear x0 f0
  have HS : Hid (WaSt W (w1.setCell ⟨g, 1, none⟩ (.int .i64 v1)) b g #[.int .i64 v0, .int .i64 v1, .int .i64 m.dst, .int .i64 m.view, .int .i64 m.inst, .int .i64 m.len, .bool m.has, .int .i64 m.mem, .int .i64 m.src, .int .i64 m.pos, .int .i64 m.tot, .slice a.Ad m.data.length a.cd, .int .i64 m.hop, .int .i64 m.seq, .slice a.Ah m.hav.length a.ch, .slice a.An m.nee.length a.cn, .int .i64 m.idx, .int .i64 m.ent.s, .int .i64 m.ent.q, .int .i64 m.ent.c.kind, .int .i64 m.ent.c.who, .slice a.c.Ak m.ent.c.key.length a.c.ck, .slice a.c.Av m.ent.c.val.length a.c.cv, .slice a.c.Ao m.ent.c.old.length a.c.co] _ _ _) := Lib.hid (HS.out.put 1 (.int .i64 v1))
  generalize w1.setCell ⟨g, 1, none⟩ (.int .i64 v1) = wx at HS ⊢
  have C := Lib.hid (HS.out.num (by omega) (m.dst) 6)
  obtain ⟨v2, hv⟩ : ∃ v : Int, (if wi 6 (m.dst) = true then (m.dst) else 0) = v := ⟨_, rfl⟩
  rw [hv] at C
  clear hv
  have x0 : wx.cell? ⟨g, 2, none⟩ = some (.int .i64 m.dst) := HS.out.blk.cell 2
  go_upto_region 4 with (first
    | (go_at_call 101; refine C.out.mono ?_; rintro en w1 ⟨rfl, hs⟩
       have HS := Lib.hid hs
       have x0 : w1.cell? ⟨g, 2, none⟩ = some (.int .i64 m.dst) := hs.blk.cell 2
       have f0 := hs.blk.frozen 2
       clear hs C)
    | fail)
  clear x0 f0
  have HS : Hid (WaSt W (w1.setCell ⟨g, 2, none⟩ (.int .i64 v2)) b g #[.int .i64 v0, .int .i64 v1, .int .i64 v2, .int .i64 m.view, .int .i64 m.inst, .int .i64 m.len, .bool m.has, .int .i64 m.mem, .int .i64 m.src, .int .i64 m.pos, .int .i64 m.tot, .slice a.Ad m.data.length a.cd, .int .i64 m.hop, .int .i64 m.seq, .slice a.Ah m.hav.length a.ch, .slice a.An m.nee.length a.cn, .int .i64 m.idx, .int .i64 m.ent.s, .int .i64 m.ent.q, .int .i64 m.ent.c.kind, .int .i64 m.ent.c.who, .slice a.c.Ak m.ent.c.key.length a.c.ck, .slice a.c.Av m.ent.c.val.length a.c.cv, .slice a.c.Ao m.ent.c.old.length a.c.co] _ _ _) := Lib.hid (HS.out.put 2 (.int .i64 v2))
  generalize w1.setCell ⟨g, 2, none⟩ (.int .i64 v2) = wx at HS ⊢
  have C := Lib.hid (HS.out.num (by omega) (m.view) 1099511627776)
  obtain ⟨v3, hv⟩ : ∃ v : Int, (if wi 1099511627776 (m.view) = true then (m.view) else 0) = v := ⟨_, rfl⟩
  rw [hv] at C
  clear hv
  have x0 : wx.cell? ⟨g, 3, none⟩ = some (.int .i64 m.view) := HS.out.blk.cell 3
  go_upto_region 5 with (first
    | (go_at_call 101; refine C.out.mono ?_; rintro en w1 ⟨rfl, hs⟩
       have HS := Lib.hid hs
       have x0 : w1.cell? ⟨g, 3, none⟩ = some (.int .i64 m.view) := hs.blk.cell 3
       have f0 := hs.blk.frozen 3
       clear hs C)
    | fail)
  clear x0 f0
  have HS : Hid (WaSt W (w1.setCell ⟨g, 3, none⟩ (.int .i64 v3)) b g #[.int .i64 v0, .int .i64 v1, .int .i64 v2, .int .i64 v3, .int .i64 m.inst, .int .i64 m.len, .bool m.has, .int .i64 m.mem, .int .i64 m.src, .int .i64 m.pos, .int .i64 m.tot, .slice a.Ad m.data.length a.cd, .int .i64 m.hop, .int .i64 m.seq, .slice a.Ah m.hav.length a.ch, .slice a.An m.nee.length a.cn, .int .i64 m.idx, .int .i64 m.ent.s, .int .i64 m.ent.q, .int .i64 m.ent.c.kind, .int .i64 m.ent.c.who, .slice a.c.Ak m.ent.c.key.length a.c.ck, .slice a.c.Av m.ent.c.val.length a.c.cv, .slice a.c.Ao m.ent.c.old.length a.c.co] _ _ _) := Lib.hid (HS.out.put 3 (.int .i64 v3))
  generalize w1.setCell ⟨g, 3, none⟩ (.int .i64 v3) = wx at HS ⊢
  by_cases c2 : v0 = 2
  · have r2 : (v0 == 2) = true := by simpa using c2
    have HCK := Lib.hid c2
    clear c2
    have x0 : wx.cell? ⟨g, 0, none⟩ = some (.int .i64 v0) := HS.out.blk.cell 0
    go_upto_region 7 with fail
    clear x0
    have C := Lib.hid (HS.out.num (by omega) (m.inst) 1099511627776)
    obtain ⟨v4, hv⟩ : ∃ v : Int, (if wi 1099511627776 (m.inst) = true then (m.inst) else 0) = v := ⟨_, rfl⟩
    rw [hv] at C
    clear hv
    have x0 : wx.cell? ⟨g, 4, none⟩ = some (.int .i64 m.inst) := HS.out.blk.cell 4
    go_upto_region 8 with (first
      | (go_at_call 101; refine C.out.mono ?_; rintro en w1 ⟨rfl, hs⟩
         have HS := Lib.hid hs
         have x0 : w1.cell? ⟨g, 4, none⟩ = some (.int .i64 m.inst) := hs.blk.cell 4
         have f0 := hs.blk.frozen 4
         clear hs C)
      | fail)
    clear x0 f0
    have HS : Hid (WaSt W (w1.setCell ⟨g, 4, none⟩ (.int .i64 v4)) b g #[.int .i64 v0, .int .i64 v1, .int .i64 v2, .int .i64 v3, .int .i64 v4, .int .i64 m.len, .bool m.has, .int .i64 m.mem, .int .i64 m.src, .int .i64 m.pos, .int .i64 m.tot, .slice a.Ad m.data.length a.cd, .int .i64 m.hop, .int .i64 m.seq, .slice a.Ah m.hav.length a.ch, .slice a.An m.nee.length a.cn, .int .i64 m.idx, .int .i64 m.ent.s, .int .i64 m.ent.q, .int .i64 m.ent.c.kind, .int .i64 m.ent.c.who, .slice a.c.Ak m.ent.c.key.length a.c.ck, .slice a.c.Av m.ent.c.val.length a.c.cv, .slice a.c.Ao m.ent.c.old.length a.c.co] _ _ _) := Lib.hid (HS.out.put 4 (.int .i64 v4))
    generalize w1.setCell ⟨g, 4, none⟩ (.int .i64 v4) = wx at HS ⊢
    have C := Lib.hid (HS.out.num (by omega) (m.len) 1099511627776)
    obtain ⟨v5, hv⟩ : ∃ v : Int, (if wi 1099511627776 (m.len) = true then (m.len) else 0) = v := ⟨_, rfl⟩
    rw [hv] at C
    clear hv
    have x0 : wx.cell? ⟨g, 5, none⟩ = some (.int .i64 m.len) := HS.out.blk.cell 5
    go_upto_region 9 with (first
      | (go_at_call 101; refine C.out.mono ?_; rintro en w1 ⟨rfl, hs⟩
         have HS := Lib.hid hs
         have x0 : w1.cell? ⟨g, 5, none⟩ = some (.int .i64 m.len) := hs.blk.cell 5
         have f0 := hs.blk.frozen 5
         clear hs C)
      | fail)
    clear x0 f0
    have HS : Hid (WaSt W (w1.setCell ⟨g, 5, none⟩ (.int .i64 v5)) b g #[.int .i64 v0, .int .i64 v1, .int .i64 v2, .int .i64 v3, .int .i64 v4, .int .i64 v5, .bool m.has, .int .i64 m.mem, .int .i64 m.src, .int .i64 m.pos, .int .i64 m.tot, .slice a.Ad m.data.length a.cd, .int .i64 m.hop, .int .i64 m.seq, .slice a.Ah m.hav.length a.ch, .slice a.An m.nee.length a.cn, .int .i64 m.idx, .int .i64 m.ent.s, .int .i64 m.ent.q, .int .i64 m.ent.c.kind, .int .i64 m.ent.c.who, .slice a.c.Ak m.ent.c.key.length a.c.ck, .slice a.c.Av m.ent.c.val.length a.c.cv, .slice a.c.Ao m.ent.c.old.length a.c.co] _ _ _) := Lib.hid (HS.out.put 5 (.int .i64 v5))
    generalize w1.setCell ⟨g, 5, none⟩ (.int .i64 v5) = wx at HS ⊢
    have C := Lib.hid (HS.out.flag (by omega) m.has)
    have x0 : wx.cell? ⟨g, 6, none⟩ = some (.bool m.has) := HS.out.blk.cell 6
    go_upto_region 28 with (first
      | (go_at_call 67; refine C.out.mono ?_; rintro en w1 ⟨rfl, hs⟩
         have HS := Lib.hid hs
         have x0 : w1.cell? ⟨g, 6, none⟩ = some (.bool m.has) := hs.blk.cell 6
         have f0 := hs.blk.frozen 6
         clear hs C)
      | fail)
    clear x0 f0
    have HS : Hid (WaSt W (w1.setCell ⟨g, 6, none⟩ (.bool m.has)) b g #[.int .i64 v0, .int .i64 v1, .int .i64 v2, .int .i64 v3, .int .i64 v4, .int .i64 v5, .bool m.has, .int .i64 m.mem, .int .i64 m.src, .int .i64 m.pos, .int .i64 m.tot, .slice a.Ad m.data.length a.cd, .int .i64 m.hop, .int .i64 m.seq, .slice a.Ah m.hav.length a.ch, .slice a.An m.nee.length a.cn, .int .i64 m.idx, .int .i64 m.ent.s, .int .i64 m.ent.q, .int .i64 m.ent.c.kind, .int .i64 m.ent.c.who, .slice a.c.Ak m.ent.c.key.length a.c.ck, .slice a.c.Av m.ent.c.val.length a.c.cv, .slice a.c.Ao m.ent.c.old.length a.c.co] _ _ _) := Lib.hid (HS.out.put 6 (.bool m.has))
    generalize w1.setCell ⟨g, 6, none⟩ (.bool m.has) = wx at HS ⊢
    go_wp2_with (first
      | (refine wpList_load_row rfl 29 (.tmp 3) rfl g rfl 29 #[.int .i64 v0, .int .i64 v1, .int .i64 v2, .int .i64 v3, .int .i64 v4, .int .i64 v5, .bool m.has, .int .i64 m.mem, .int .i64 m.src, .int .i64 m.pos, .int .i64 m.tot, .slice a.Ad m.data.length a.cd, .int .i64 m.hop, .int .i64 m.seq, .slice a.Ah m.hav.length a.ch, .slice a.An m.nee.length a.cn, .int .i64 m.idx, .int .i64 m.ent.s, .int .i64 m.ent.q, .int .i64 m.ent.c.kind, .int .i64 m.ent.c.who, .slice a.c.Ak m.ent.c.key.length a.c.ck, .slice a.c.Av m.ent.c.val.length a.c.cv, .slice a.c.Ao m.ent.c.old.length a.c.co] (0, 0) _ HS.out.blk Try.underlying29 rfl (by kernel_rfl) ?_)
      | (refine wpList_store_row rfl 29 (.tmp 4) (.tmp 119) rfl (g + 1) #[.int .i64 v0, .int .i64 v1, .int .i64 v2, .int .i64 v3, .int .i64 v4, .int .i64 v5, .bool m.has, .int .i64 m.mem, .int .i64 m.src, .int .i64 m.pos, .int .i64 m.tot, .slice a.Ad m.data.length a.cd, .int .i64 m.hop, .int .i64 m.seq, .slice a.Ah m.hav.length a.ch, .slice a.An m.nee.length a.cn, .int .i64 m.idx, .int .i64 m.ent.s, .int .i64 m.ent.q, .int .i64 m.ent.c.kind, .int .i64 m.ent.c.who, .slice a.c.Ak m.ent.c.key.length a.c.ck, .slice a.c.Av m.ent.c.val.length a.c.cv, .slice a.c.Ao m.ent.c.old.length a.c.co] rfl rfl 29 msgZ HS.out.res (by kernel_rfl) rfl (by kernel_rfl) ?_)
      | fail)
    refine bodyPost_ret (results_cell_row rfl _ _ _ _ _ _ _ rfl (HS.out.res.row #[.int .i64 v0, .int .i64 v1, .int .i64 v2, .int .i64 v3, .int .i64 v4, .int .i64 v5, .bool m.has, .int .i64 m.mem, .int .i64 m.src, .int .i64 m.pos, .int .i64 m.tot, .slice a.Ad m.data.length a.cd, .int .i64 m.hop, .int .i64 m.seq, .slice a.Ah m.hav.length a.ch, .slice a.An m.nee.length a.cn, .int .i64 m.idx, .int .i64 m.ent.s, .int .i64 m.ent.q, .int .i64 m.ent.c.kind, .int .i64 m.ent.c.who, .slice a.c.Ak m.ent.c.key.length a.c.ck, .slice a.c.Av m.ent.c.val.length a.c.cv, .slice a.c.Ao m.ent.c.old.length a.c.co]) Try.underlying29 rfl (by kernel_rfl)) rfl ?_
    obtain ⟨L, f, e1, e2, e3⟩ := HS.out.rowS #[.int .i64 v0, .int .i64 v1, .int .i64 v2, .int .i64 v3, .int .i64 v4, .int .i64 v5, .bool m.has, .int .i64 m.mem, .int .i64 m.src, .int .i64 m.pos, .int .i64 m.tot, .slice a.Ad m.data.length a.cd, .int .i64 m.hop, .int .i64 m.seq, .slice a.Ah m.hav.length a.ch, .slice a.An m.nee.length a.cn, .int .i64 m.idx, .int .i64 m.ent.s, .int .i64 m.ent.q, .int .i64 m.ent.c.kind, .int .i64 m.ent.c.who, .slice a.c.Ak m.ent.c.key.length a.c.ck, .slice a.c.Av m.ent.c.val.length a.c.cv, .slice a.c.Ao m.ent.c.old.length a.c.co]
    have cK := HCK.out
    obtain ⟨hk, hw⟩ := kind_of HV0.out (by omega)
    rw [cK] at hk
    refine AlongW.of (v := v0) HV0.out e1 e2 e3 ?_ ?_
    · unfold Mg.ok Mg.headOk Mg.tailOk
      rw [hw, cK]
      simp [hk, Bool.and_assoc]
    · intro hok
      unfold Mg.enc Mg.head Mg.tail
      rw [if_pos hok]
      simp [hk, Mg.has01]
  by_cases c3 : v0 = 3
  · have r2 : (v0 == 2) = false := by simpa using c2
    have r3 : (v0 == 3) = true := by simpa using c3
    have HCK := Lib.hid c3
    clear c3
    have x0 : wx.cell? ⟨g, 0, none⟩ = some (.int .i64 v0) := HS.out.blk.cell 0
    go_upto_region 11 with fail
    clear x0
    have C := Lib.hid (HS.out.num (by omega) (m.mem) 127)
    obtain ⟨v4, hv⟩ : ∃ v : Int, (if wi 127 (m.mem) = true then (m.mem) else 0) = v := ⟨_, rfl⟩
    rw [hv] at C
    clear hv
    have x0 : wx.cell? ⟨g, 7, none⟩ = some (.int .i64 m.mem) := HS.out.blk.cell 7
    go_upto_region 12 with (first
      | (go_at_call 101; refine C.out.mono ?_; rintro en w1 ⟨rfl, hs⟩
         have HS := Lib.hid hs
         have x0 : w1.cell? ⟨g, 7, none⟩ = some (.int .i64 m.mem) := hs.blk.cell 7
         have f0 := hs.blk.frozen 7
         clear hs C)
      | fail)
    clear x0 f0
    have HS : Hid (WaSt W (w1.setCell ⟨g, 7, none⟩ (.int .i64 v4)) b g #[.int .i64 v0, .int .i64 v1, .int .i64 v2, .int .i64 v3, .int .i64 m.inst, .int .i64 m.len, .bool m.has, .int .i64 v4, .int .i64 m.src, .int .i64 m.pos, .int .i64 m.tot, .slice a.Ad m.data.length a.cd, .int .i64 m.hop, .int .i64 m.seq, .slice a.Ah m.hav.length a.ch, .slice a.An m.nee.length a.cn, .int .i64 m.idx, .int .i64 m.ent.s, .int .i64 m.ent.q, .int .i64 m.ent.c.kind, .int .i64 m.ent.c.who, .slice a.c.Ak m.ent.c.key.length a.c.ck, .slice a.c.Av m.ent.c.val.length a.c.cv, .slice a.c.Ao m.ent.c.old.length a.c.co] _ _ _) := Lib.hid (HS.out.put 7 (.int .i64 v4))
    generalize w1.setCell ⟨g, 7, none⟩ (.int .i64 v4) = wx at HS ⊢
    have C := Lib.hid (HS.out.num (by omega) (m.src) 6)
    obtain ⟨v5, hv⟩ : ∃ v : Int, (if wi 6 (m.src) = true then (m.src) else 0) = v := ⟨_, rfl⟩
    rw [hv] at C
    clear hv
    have x0 : wx.cell? ⟨g, 8, none⟩ = some (.int .i64 m.src) := HS.out.blk.cell 8
    go_upto_region 13 with (first
      | (go_at_call 101; refine C.out.mono ?_; rintro en w1 ⟨rfl, hs⟩
         have HS := Lib.hid hs
         have x0 : w1.cell? ⟨g, 8, none⟩ = some (.int .i64 m.src) := hs.blk.cell 8
         have f0 := hs.blk.frozen 8
         clear hs C)
      | fail)
    clear x0 f0
    have HS : Hid (WaSt W (w1.setCell ⟨g, 8, none⟩ (.int .i64 v5)) b g #[.int .i64 v0, .int .i64 v1, .int .i64 v2, .int .i64 v3, .int .i64 m.inst, .int .i64 m.len, .bool m.has, .int .i64 v4, .int .i64 v5, .int .i64 m.pos, .int .i64 m.tot, .slice a.Ad m.data.length a.cd, .int .i64 m.hop, .int .i64 m.seq, .slice a.Ah m.hav.length a.ch, .slice a.An m.nee.length a.cn, .int .i64 m.idx, .int .i64 m.ent.s, .int .i64 m.ent.q, .int .i64 m.ent.c.kind, .int .i64 m.ent.c.who, .slice a.c.Ak m.ent.c.key.length a.c.ck, .slice a.c.Av m.ent.c.val.length a.c.cv, .slice a.c.Ao m.ent.c.old.length a.c.co] _ _ _) := Lib.hid (HS.out.put 8 (.int .i64 v5))
    generalize w1.setCell ⟨g, 8, none⟩ (.int .i64 v5) = wx at HS ⊢
    have C := Lib.hid (HS.out.num (by omega) (m.len) 1099511627776)
    obtain ⟨v6, hv⟩ : ∃ v : Int, (if wi 1099511627776 (m.len) = true then (m.len) else 0) = v := ⟨_, rfl⟩
    rw [hv] at C
    clear hv
    have x0 : wx.cell? ⟨g, 5, none⟩ = some (.int .i64 m.len) := HS.out.blk.cell 5
    go_upto_region 28 with (first
      | (go_at_call 101; refine C.out.mono ?_; rintro en w1 ⟨rfl, hs⟩
         have HS := Lib.hid hs
         have x0 : w1.cell? ⟨g, 5, none⟩ = some (.int .i64 m.len) := hs.blk.cell 5
         have f0 := hs.blk.frozen 5
         clear hs C)
      | fail)
    clear x0 f0
    have HS : Hid (WaSt W (w1.setCell ⟨g, 5, none⟩ (.int .i64 v6)) b g #[.int .i64 v0, .int .i64 v1, .int .i64 v2, .int .i64 v3, .int .i64 m.inst, .int .i64 v6, .bool m.has, .int .i64 v4, .int .i64 v5, .int .i64 m.pos, .int .i64 m.tot, .slice a.Ad m.data.length a.cd, .int .i64 m.hop, .int .i64 m.seq, .slice a.Ah m.hav.length a.ch, .slice a.An m.nee.length a.cn, .int .i64 m.idx, .int .i64 m.ent.s, .int .i64 m.ent.q, .int .i64 m.ent.c.kind, .int .i64 m.ent.c.who, .slice a.c.Ak m.ent.c.key.length a.c.ck, .slice a.c.Av m.ent.c.val.length a.c.cv, .slice a.c.Ao m.ent.c.old.length a.c.co] _ _ _) := Lib.hid (HS.out.put 5 (.int .i64 v6))
    generalize w1.setCell ⟨g, 5, none⟩ (.int .i64 v6) = wx at HS ⊢
    go_wp2_with (first
      | (refine wpList_load_row rfl 29 (.tmp 3) rfl g rfl 29 #[.int .i64 v0, .int .i64 v1, .int .i64 v2, .int .i64 v3, .int .i64 m.inst, .int .i64 v6, .bool m.has, .int .i64 v4, .int .i64 v5, .int .i64 m.pos, .int .i64 m.tot, .slice a.Ad m.data.length a.cd, .int .i64 m.hop, .int .i64 m.seq, .slice a.Ah m.hav.length a.ch, .slice a.An m.nee.length a.cn, .int .i64 m.idx, .int .i64 m.ent.s, .int .i64 m.ent.q, .int .i64 m.ent.c.kind, .int .i64 m.ent.c.who, .slice a.c.Ak m.ent.c.key.length a.c.ck, .slice a.c.Av m.ent.c.val.length a.c.cv, .slice a.c.Ao m.ent.c.old.length a.c.co] (0, 0) _ HS.out.blk Try.underlying29 rfl (by kernel_rfl) ?_)
      | (refine wpList_store_row rfl 29 (.tmp 4) (.tmp 119) rfl (g + 1) #[.int .i64 v0, .int .i64 v1, .int .i64 v2, .int .i64 v3, .int .i64 m.inst, .int .i64 v6, .bool m.has, .int .i64 v4, .int .i64 v5, .int .i64 m.pos, .int .i64 m.tot, .slice a.Ad m.data.length a.cd, .int .i64 m.hop, .int .i64 m.seq, .slice a.Ah m.hav.length a.ch, .slice a.An m.nee.length a.cn, .int .i64 m.idx, .int .i64 m.ent.s, .int .i64 m.ent.q, .int .i64 m.ent.c.kind, .int .i64 m.ent.c.who, .slice a.c.Ak m.ent.c.key.length a.c.ck, .slice a.c.Av m.ent.c.val.length a.c.cv, .slice a.c.Ao m.ent.c.old.length a.c.co] rfl rfl 29 msgZ HS.out.res (by kernel_rfl) rfl (by kernel_rfl) ?_)
      | fail)
    refine bodyPost_ret (results_cell_row rfl _ _ _ _ _ _ _ rfl (HS.out.res.row #[.int .i64 v0, .int .i64 v1, .int .i64 v2, .int .i64 v3, .int .i64 m.inst, .int .i64 v6, .bool m.has, .int .i64 v4, .int .i64 v5, .int .i64 m.pos, .int .i64 m.tot, .slice a.Ad m.data.length a.cd, .int .i64 m.hop, .int .i64 m.seq, .slice a.Ah m.hav.length a.ch, .slice a.An m.nee.length a.cn, .int .i64 m.idx, .int .i64 m.ent.s, .int .i64 m.ent.q, .int .i64 m.ent.c.kind, .int .i64 m.ent.c.who, .slice a.c.Ak m.ent.c.key.length a.c.ck, .slice a.c.Av m.ent.c.val.length a.c.cv, .slice a.c.Ao m.ent.c.old.length a.c.co]) Try.underlying29 rfl (by kernel_rfl)) rfl ?_
    obtain ⟨L, f, e1, e2, e3⟩ := HS.out.rowS #[.int .i64 v0, .int .i64 v1, .int .i64 v2, .int .i64 v3, .int .i64 m.inst, .int .i64 v6, .bool m.has, .int .i64 v4, .int .i64 v5, .int .i64 m.pos, .int .i64 m.tot, .slice a.Ad m.data.length a.cd, .int .i64 m.hop, .int .i64 m.seq, .slice a.Ah m.hav.length a.ch, .slice a.An m.nee.length a.cn, .int .i64 m.idx, .int .i64 m.ent.s, .int .i64 m.ent.q, .int .i64 m.ent.c.kind, .int .i64 m.ent.c.who, .slice a.c.Ak m.ent.c.key.length a.c.ck, .slice a.c.Av m.ent.c.val.length a.c.cv, .slice a.c.Ao m.ent.c.old.length a.c.co]
    have cK := HCK.out
    obtain ⟨hk, hw⟩ := kind_of HV0.out (by omega)
    rw [cK] at hk
    refine AlongW.of (v := v0) HV0.out e1 e2 e3 ?_ ?_
    · unfold Mg.ok Mg.headOk Mg.tailOk
      rw [hw, cK]
      simp [hk, Bool.and_assoc]
    · intro hok
      unfold Mg.enc Mg.head Mg.tail
      rw [if_pos hok]
      simp [hk]
  by_cases c4 : v0 = 4
  · have r2 : (v0 == 2) = false := by simpa using c2
    have r3 : (v0 == 3) = false := by simpa using c3
    have r4 : (v0 == 4) = true := by simpa using c4
    have HCK := Lib.hid c4
    clear c4
    have x0 : wx.cell? ⟨g, 0, none⟩ = some (.int .i64 v0) := HS.out.blk.cell 0
    go_upto_region 15 with fail
    clear x0
    have C := Lib.hid (HS.out.num (by omega) (m.pos) 1099511627776)
    obtain ⟨v4, hv⟩ : ∃ v : Int, (if wi 1099511627776 (m.pos) = true then (m.pos) else 0) = v := ⟨_, rfl⟩
    rw [hv] at C
    clear hv
    have x0 : wx.cell? ⟨g, 9, none⟩ = some (.int .i64 m.pos) := HS.out.blk.cell 9
    go_upto_region 28 with (first
      | (go_at_call 101; refine C.out.mono ?_; rintro en w1 ⟨rfl, hs⟩
         have HS := Lib.hid hs
         have x0 : w1.cell? ⟨g, 9, none⟩ = some (.int .i64 m.pos) := hs.blk.cell 9
         have f0 := hs.blk.frozen 9
         clear hs C)
      | fail)
    clear x0 f0
    have HS : Hid (WaSt W (w1.setCell ⟨g, 9, none⟩ (.int .i64 v4)) b g #[.int .i64 v0, .int .i64 v1, .int .i64 v2, .int .i64 v3, .int .i64 m.inst, .int .i64 m.len, .bool m.has, .int .i64 m.mem, .int .i64 m.src, .int .i64 v4, .int .i64 m.tot, .slice a.Ad m.data.length a.cd, .int .i64 m.hop, .int .i64 m.seq, .slice a.Ah m.hav.length a.ch, .slice a.An m.nee.length a.cn, .int .i64 m.idx, .int .i64 m.ent.s, .int .i64 m.ent.q, .int .i64 m.ent.c.kind, .int .i64 m.ent.c.who, .slice a.c.Ak m.ent.c.key.length a.c.ck, .slice a.c.Av m.ent.c.val.length a.c.cv, .slice a.c.Ao m.ent.c.old.length a.c.co] _ _ _) := Lib.hid (HS.out.put 9 (.int .i64 v4))
    generalize w1.setCell ⟨g, 9, none⟩ (.int .i64 v4) = wx at HS ⊢
    go_wp2_with (first
      | (refine wpList_load_row rfl 29 (.tmp 3) rfl g rfl 29 #[.int .i64 v0, .int .i64 v1, .int .i64 v2, .int .i64 v3, .int .i64 m.inst, .int .i64 m.len, .bool m.has, .int .i64 m.mem, .int .i64 m.src, .int .i64 v4, .int .i64 m.tot, .slice a.Ad m.data.length a.cd, .int .i64 m.hop, .int .i64 m.seq, .slice a.Ah m.hav.length a.ch, .slice a.An m.nee.length a.cn, .int .i64 m.idx, .int .i64 m.ent.s, .int .i64 m.ent.q, .int .i64 m.ent.c.kind, .int .i64 m.ent.c.who, .slice a.c.Ak m.ent.c.key.length a.c.ck, .slice a.c.Av m.ent.c.val.length a.c.cv, .slice a.c.Ao m.ent.c.old.length a.c.co] (0, 0) _ HS.out.blk Try.underlying29 rfl (by kernel_rfl) ?_)
      | (refine wpList_store_row rfl 29 (.tmp 4) (.tmp 119) rfl (g + 1) #[.int .i64 v0, .int .i64 v1, .int .i64 v2, .int .i64 v3, .int .i64 m.inst, .int .i64 m.len, .bool m.has, .int .i64 m.mem, .int .i64 m.src, .int .i64 v4, .int .i64 m.tot, .slice a.Ad m.data.length a.cd, .int .i64 m.hop, .int .i64 m.seq, .slice a.Ah m.hav.length a.ch, .slice a.An m.nee.length a.cn, .int .i64 m.idx, .int .i64 m.ent.s, .int .i64 m.ent.q, .int .i64 m.ent.c.kind, .int .i64 m.ent.c.who, .slice a.c.Ak m.ent.c.key.length a.c.ck, .slice a.c.Av m.ent.c.val.length a.c.cv, .slice a.c.Ao m.ent.c.old.length a.c.co] rfl rfl 29 msgZ HS.out.res (by kernel_rfl) rfl (by kernel_rfl) ?_)
      | fail)
    refine bodyPost_ret (results_cell_row rfl _ _ _ _ _ _ _ rfl (HS.out.res.row #[.int .i64 v0, .int .i64 v1, .int .i64 v2, .int .i64 v3, .int .i64 m.inst, .int .i64 m.len, .bool m.has, .int .i64 m.mem, .int .i64 m.src, .int .i64 v4, .int .i64 m.tot, .slice a.Ad m.data.length a.cd, .int .i64 m.hop, .int .i64 m.seq, .slice a.Ah m.hav.length a.ch, .slice a.An m.nee.length a.cn, .int .i64 m.idx, .int .i64 m.ent.s, .int .i64 m.ent.q, .int .i64 m.ent.c.kind, .int .i64 m.ent.c.who, .slice a.c.Ak m.ent.c.key.length a.c.ck, .slice a.c.Av m.ent.c.val.length a.c.cv, .slice a.c.Ao m.ent.c.old.length a.c.co]) Try.underlying29 rfl (by kernel_rfl)) rfl ?_
    obtain ⟨L, f, e1, e2, e3⟩ := HS.out.rowS #[.int .i64 v0, .int .i64 v1, .int .i64 v2, .int .i64 v3, .int .i64 m.inst, .int .i64 m.len, .bool m.has, .int .i64 m.mem, .int .i64 m.src, .int .i64 v4, .int .i64 m.tot, .slice a.Ad m.data.length a.cd, .int .i64 m.hop, .int .i64 m.seq, .slice a.Ah m.hav.length a.ch, .slice a.An m.nee.length a.cn, .int .i64 m.idx, .int .i64 m.ent.s, .int .i64 m.ent.q, .int .i64 m.ent.c.kind, .int .i64 m.ent.c.who, .slice a.c.Ak m.ent.c.key.length a.c.ck, .slice a.c.Av m.ent.c.val.length a.c.cv, .slice a.c.Ao m.ent.c.old.length a.c.co]
    have cK := HCK.out
    obtain ⟨hk, hw⟩ := kind_of HV0.out (by omega)
    rw [cK] at hk
    refine AlongW.of (v := v0) HV0.out e1 e2 e3 ?_ ?_
    · unfold Mg.ok Mg.headOk Mg.tailOk
      rw [hw, cK]
      simp [hk, Bool.and_assoc]
    · intro hok
      unfold Mg.enc Mg.head Mg.tail
      rw [if_pos hok]
      simp [hk]
  by_cases c5 : v0 = 5
  · have r2 : (v0 == 2) = false := by simpa using c2
    have r3 : (v0 == 3) = false := by simpa using c3
    have r4 : (v0 == 4) = false := by simpa using c4
    have r5 : (v0 == 5) = true := by simpa using c5
    have HCK := Lib.hid c5
    clear c5
    have x0 : wx.cell? ⟨g, 0, none⟩ = some (.int .i64 v0) := HS.out.blk.cell 0
    go_upto_region 17 with fail
    clear x0
    have C := Lib.hid (HS.out.num (by omega) (m.pos) 1099511627776)
    obtain ⟨v4, hv⟩ : ∃ v : Int, (if wi 1099511627776 (m.pos) = true then (m.pos) else 0) = v := ⟨_, rfl⟩
    rw [hv] at C
    clear hv
    have x0 : wx.cell? ⟨g, 9, none⟩ = some (.int .i64 m.pos) := HS.out.blk.cell 9
    go_upto_region 18 with (first
      | (go_at_call 101; refine C.out.mono ?_; rintro en w1 ⟨rfl, hs⟩
         have HS := Lib.hid hs
         have x0 : w1.cell? ⟨g, 9, none⟩ = some (.int .i64 m.pos) := hs.blk.cell 9
         have f0 := hs.blk.frozen 9
         clear hs C)
      | fail)
    clear x0 f0
    have HS : Hid (WaSt W (w1.setCell ⟨g, 9, none⟩ (.int .i64 v4)) b g #[.int .i64 v0, .int .i64 v1, .int .i64 v2, .int .i64 v3, .int .i64 m.inst, .int .i64 m.len, .bool m.has, .int .i64 m.mem, .int .i64 m.src, .int .i64 v4, .int .i64 m.tot, .slice a.Ad m.data.length a.cd, .int .i64 m.hop, .int .i64 m.seq, .slice a.Ah m.hav.length a.ch, .slice a.An m.nee.length a.cn, .int .i64 m.idx, .int .i64 m.ent.s, .int .i64 m.ent.q, .int .i64 m.ent.c.kind, .int .i64 m.ent.c.who, .slice a.c.Ak m.ent.c.key.length a.c.ck, .slice a.c.Av m.ent.c.val.length a.c.cv, .slice a.c.Ao m.ent.c.old.length a.c.co] _ _ _) := Lib.hid (HS.out.put 9 (.int .i64 v4))
    generalize w1.setCell ⟨g, 9, none⟩ (.int .i64 v4) = wx at HS ⊢
    have C := Lib.hid (HS.out.num (by omega) (m.tot) 1099511627776)
    obtain ⟨v5, hv⟩ : ∃ v : Int, (if wi 1099511627776 (m.tot) = true then (m.tot) else 0) = v := ⟨_, rfl⟩
    rw [hv] at C
    clear hv
    have x0 : wx.cell? ⟨g, 10, none⟩ = some (.int .i64 m.tot) := HS.out.blk.cell 10
    go_upto_region 19 with (first
      | (go_at_call 101; refine C.out.mono ?_; rintro en w1 ⟨rfl, hs⟩
         have HS := Lib.hid hs
         have x0 : w1.cell? ⟨g, 10, none⟩ = some (.int .i64 m.tot) := hs.blk.cell 10
         have f0 := hs.blk.frozen 10
         clear hs C)
      | fail)
    clear x0 f0
    have HS : Hid (WaSt W (w1.setCell ⟨g, 10, none⟩ (.int .i64 v5)) b g #[.int .i64 v0, .int .i64 v1, .int .i64 v2, .int .i64 v3, .int .i64 m.inst, .int .i64 m.len, .bool m.has, .int .i64 m.mem, .int .i64 m.src, .int .i64 v4, .int .i64 v5, .slice a.Ad m.data.length a.cd, .int .i64 m.hop, .int .i64 m.seq, .slice a.Ah m.hav.length a.ch, .slice a.An m.nee.length a.cn, .int .i64 m.idx, .int .i64 m.ent.s, .int .i64 m.ent.q, .int .i64 m.ent.c.kind, .int .i64 m.ent.c.who, .slice a.c.Ak m.ent.c.key.length a.c.ck, .slice a.c.Av m.ent.c.val.length a.c.cv, .slice a.c.Ao m.ent.c.old.length a.c.co] _ _ _) := Lib.hid (HS.out.put 10 (.int .i64 v5))
    generalize w1.setCell ⟨g, 10, none⟩ (.int .i64 v5) = wx at HS ⊢
    have C := Lib.hid (HS.out.data (by omega) (c' := a.cd) HRD.out.d 64 (by omega))
    have x0 : wx.cell? ⟨g, 11, none⟩ = some (.slice a.Ad m.data.length a.cd) := HS.out.blk.cell 11
    go_upto_region 28 with (first
      | (go_at_call 99; refine C.out.mono ?_; rintro en w1 ⟨⟨A6, n6, k6, rfl⟩, hs⟩
         have HS := Lib.hid hs
         have x0 : w1.cell? ⟨g, 11, none⟩ = some (.slice a.Ad m.data.length a.cd) := hs.blk.cell 11
         have f0 := hs.blk.frozen 11
         clear hs C)
      | fail)
    clear x0 f0
    have HS : Hid (WaSt W (w1.setCell ⟨g, 11, none⟩ (.slice A6 n6 k6)) b g #[.int .i64 v0, .int .i64 v1, .int .i64 v2, .int .i64 v3, .int .i64 m.inst, .int .i64 m.len, .bool m.has, .int .i64 m.mem, .int .i64 m.src, .int .i64 v4, .int .i64 v5, .slice A6 n6 k6, .int .i64 m.hop, .int .i64 m.seq, .slice a.Ah m.hav.length a.ch, .slice a.An m.nee.length a.cn, .int .i64 m.idx, .int .i64 m.ent.s, .int .i64 m.ent.q, .int .i64 m.ent.c.kind, .int .i64 m.ent.c.who, .slice a.c.Ak m.ent.c.key.length a.c.ck, .slice a.c.Av m.ent.c.val.length a.c.cv, .slice a.c.Ao m.ent.c.old.length a.c.co] _ _ _) := Lib.hid (HS.out.put 11 (.slice A6 n6 k6))
    generalize w1.setCell ⟨g, 11, none⟩ (.slice A6 n6 k6) = wx at HS ⊢
    go_wp2_with (first
      | (refine wpList_load_row rfl 29 (.tmp 3) rfl g rfl 29 #[.int .i64 v0, .int .i64 v1, .int .i64 v2, .int .i64 v3, .int .i64 m.inst, .int .i64 m.len, .bool m.has, .int .i64 m.mem, .int .i64 m.src, .int .i64 v4, .int .i64 v5, .slice A6 n6 k6, .int .i64 m.hop, .int .i64 m.seq, .slice a.Ah m.hav.length a.ch, .slice a.An m.nee.length a.cn, .int .i64 m.idx, .int .i64 m.ent.s, .int .i64 m.ent.q, .int .i64 m.ent.c.kind, .int .i64 m.ent.c.who, .slice a.c.Ak m.ent.c.key.length a.c.ck, .slice a.c.Av m.ent.c.val.length a.c.cv, .slice a.c.Ao m.ent.c.old.length a.c.co] (0, 0) _ HS.out.blk Try.underlying29 rfl (by kernel_rfl) ?_)
      | (refine wpList_store_row rfl 29 (.tmp 4) (.tmp 119) rfl (g + 1) #[.int .i64 v0, .int .i64 v1, .int .i64 v2, .int .i64 v3, .int .i64 m.inst, .int .i64 m.len, .bool m.has, .int .i64 m.mem, .int .i64 m.src, .int .i64 v4, .int .i64 v5, .slice A6 n6 k6, .int .i64 m.hop, .int .i64 m.seq, .slice a.Ah m.hav.length a.ch, .slice a.An m.nee.length a.cn, .int .i64 m.idx, .int .i64 m.ent.s, .int .i64 m.ent.q, .int .i64 m.ent.c.kind, .int .i64 m.ent.c.who, .slice a.c.Ak m.ent.c.key.length a.c.ck, .slice a.c.Av m.ent.c.val.length a.c.cv, .slice a.c.Ao m.ent.c.old.length a.c.co] rfl rfl 29 msgZ HS.out.res (by kernel_rfl) rfl (by kernel_rfl) ?_)
      | fail)
    refine bodyPost_ret (results_cell_row rfl _ _ _ _ _ _ _ rfl (HS.out.res.row #[.int .i64 v0, .int .i64 v1, .int .i64 v2, .int .i64 v3, .int .i64 m.inst, .int .i64 m.len, .bool m.has, .int .i64 m.mem, .int .i64 m.src, .int .i64 v4, .int .i64 v5, .slice A6 n6 k6, .int .i64 m.hop, .int .i64 m.seq, .slice a.Ah m.hav.length a.ch, .slice a.An m.nee.length a.cn, .int .i64 m.idx, .int .i64 m.ent.s, .int .i64 m.ent.q, .int .i64 m.ent.c.kind, .int .i64 m.ent.c.who, .slice a.c.Ak m.ent.c.key.length a.c.ck, .slice a.c.Av m.ent.c.val.length a.c.cv, .slice a.c.Ao m.ent.c.old.length a.c.co]) Try.underlying29 rfl (by kernel_rfl)) rfl ?_
    obtain ⟨L, f, e1, e2, e3⟩ := HS.out.rowS #[.int .i64 v0, .int .i64 v1, .int .i64 v2, .int .i64 v3, .int .i64 m.inst, .int .i64 m.len, .bool m.has, .int .i64 m.mem, .int .i64 m.src, .int .i64 v4, .int .i64 v5, .slice A6 n6 k6, .int .i64 m.hop, .int .i64 m.seq, .slice a.Ah m.hav.length a.ch, .slice a.An m.nee.length a.cn, .int .i64 m.idx, .int .i64 m.ent.s, .int .i64 m.ent.q, .int .i64 m.ent.c.kind, .int .i64 m.ent.c.who, .slice a.c.Ak m.ent.c.key.length a.c.ck, .slice a.c.Av m.ent.c.val.length a.c.cv, .slice a.c.Ao m.ent.c.old.length a.c.co]
    have cK := HCK.out
    obtain ⟨hk, hw⟩ := kind_of HV0.out (by omega)
    rw [cK] at hk
    refine AlongW.of (v := v0) HV0.out e1 e2 e3 ?_ ?_
    · unfold Mg.ok Mg.headOk Mg.tailOk
      rw [hw, cK]
      simp [hk, Bool.and_assoc, show decide ((m.data.length : Int) ≤ 64) = decide (m.data.length ≤ 64) from by rw [decide_eq_decide]; omega]
    · intro hok
      unfold Mg.enc Mg.head Mg.tail
      rw [if_pos hok]
      simp [hk]
  by_cases c7 : v0 = 7
  · have r2 : (v0 == 2) = false := by simpa using c2
    have r3 : (v0 == 3) = false := by simpa using c3
    have r4 : (v0 == 4) = false := by simpa using c4
    have r5 : (v0 == 5) = false := by simpa using c5
    have r7 : (v0 == 7) = true := by simpa using c7
    have HCK := Lib.hid c7
    clear c7
    have x0 : wx.cell? ⟨g, 0, none⟩ = some (.int .i64 v0) := HS.out.blk.cell 0
    go_upto_region 21 with fail
    clear x0
    have C := Lib.hid (HS.out.num (by omega) (m.hop) 1099511627776)
    obtain ⟨v4, hv⟩ : ∃ v : Int, (if wi 1099511627776 (m.hop) = true then (m.hop) else 0) = v := ⟨_, rfl⟩
    rw [hv] at C
    clear hv
    have x0 : wx.cell? ⟨g, 12, none⟩ = some (.int .i64 m.hop) := HS.out.blk.cell 12
    go_upto_region 22 with (first
      | (go_at_call 101; refine C.out.mono ?_; rintro en w1 ⟨rfl, hs⟩
         have HS := Lib.hid hs
         have x0 : w1.cell? ⟨g, 12, none⟩ = some (.int .i64 m.hop) := hs.blk.cell 12
         have f0 := hs.blk.frozen 12
         clear hs C)
      | fail)
    clear x0 f0
    have HS : Hid (WaSt W (w1.setCell ⟨g, 12, none⟩ (.int .i64 v4)) b g #[.int .i64 v0, .int .i64 v1, .int .i64 v2, .int .i64 v3, .int .i64 m.inst, .int .i64 m.len, .bool m.has, .int .i64 m.mem, .int .i64 m.src, .int .i64 m.pos, .int .i64 m.tot, .slice a.Ad m.data.length a.cd, .int .i64 v4, .int .i64 m.seq, .slice a.Ah m.hav.length a.ch, .slice a.An m.nee.length a.cn, .int .i64 m.idx, .int .i64 m.ent.s, .int .i64 m.ent.q, .int .i64 m.ent.c.kind, .int .i64 m.ent.c.who, .slice a.c.Ak m.ent.c.key.length a.c.ck, .slice a.c.Av m.ent.c.val.length a.c.cv, .slice a.c.Ao m.ent.c.old.length a.c.co] _ _ _) := Lib.hid (HS.out.put 12 (.int .i64 v4))
    generalize w1.setCell ⟨g, 12, none⟩ (.int .i64 v4) = wx at HS ⊢
    have C := Lib.hid (HS.out.num (by omega) (m.seq) 1099511627776)
    obtain ⟨v5, hv⟩ : ∃ v : Int, (if wi 1099511627776 (m.seq) = true then (m.seq) else 0) = v := ⟨_, rfl⟩
    rw [hv] at C
    clear hv
    have x0 : wx.cell? ⟨g, 13, none⟩ = some (.int .i64 m.seq) := HS.out.blk.cell 13
    go_upto_region 23 with (first
      | (go_at_call 101; refine C.out.mono ?_; rintro en w1 ⟨rfl, hs⟩
         have HS := Lib.hid hs
         have x0 : w1.cell? ⟨g, 13, none⟩ = some (.int .i64 m.seq) := hs.blk.cell 13
         have f0 := hs.blk.frozen 13
         clear hs C)
      | fail)
    clear x0 f0
    have HS : Hid (WaSt W (w1.setCell ⟨g, 13, none⟩ (.int .i64 v5)) b g #[.int .i64 v0, .int .i64 v1, .int .i64 v2, .int .i64 v3, .int .i64 m.inst, .int .i64 m.len, .bool m.has, .int .i64 m.mem, .int .i64 m.src, .int .i64 m.pos, .int .i64 m.tot, .slice a.Ad m.data.length a.cd, .int .i64 v4, .int .i64 v5, .slice a.Ah m.hav.length a.ch, .slice a.An m.nee.length a.cn, .int .i64 m.idx, .int .i64 m.ent.s, .int .i64 m.ent.q, .int .i64 m.ent.c.kind, .int .i64 m.ent.c.who, .slice a.c.Ak m.ent.c.key.length a.c.ck, .slice a.c.Av m.ent.c.val.length a.c.cv, .slice a.c.Ao m.ent.c.old.length a.c.co] _ _ _) := Lib.hid (HS.out.put 13 (.int .i64 v5))
    generalize w1.setCell ⟨g, 13, none⟩ (.int .i64 v5) = wx at HS ⊢
    have C := Lib.hid (HS.out.nums (by omega) HRD.out.h HRD.out.hl 7 (by omega))
    have x0 : wx.cell? ⟨g, 14, none⟩ = some (.slice a.Ah m.hav.length a.ch) := HS.out.blk.cell 14
    go_upto_region 24 with (first
      | (go_at_call 102; refine C.out.mono ?_; rintro en w1 ⟨⟨A6, n6, k6, rfl⟩, hs⟩
         have HS := Lib.hid hs
         have x0 : w1.cell? ⟨g, 14, none⟩ = some (.slice a.Ah m.hav.length a.ch) := hs.blk.cell 14
         have f0 := hs.blk.frozen 14
         clear hs C)
      | fail)
    clear x0 f0
    have HS : Hid (WaSt W (w1.setCell ⟨g, 14, none⟩ (.slice A6 n6 k6)) b g #[.int .i64 v0, .int .i64 v1, .int .i64 v2, .int .i64 v3, .int .i64 m.inst, .int .i64 m.len, .bool m.has, .int .i64 m.mem, .int .i64 m.src, .int .i64 m.pos, .int .i64 m.tot, .slice a.Ad m.data.length a.cd, .int .i64 v4, .int .i64 v5, .slice A6 n6 k6, .slice a.An m.nee.length a.cn, .int .i64 m.idx, .int .i64 m.ent.s, .int .i64 m.ent.q, .int .i64 m.ent.c.kind, .int .i64 m.ent.c.who, .slice a.c.Ak m.ent.c.key.length a.c.ck, .slice a.c.Av m.ent.c.val.length a.c.cv, .slice a.c.Ao m.ent.c.old.length a.c.co] _ _ _) := Lib.hid (HS.out.put 14 (.slice A6 n6 k6))
    generalize w1.setCell ⟨g, 14, none⟩ (.slice A6 n6 k6) = wx at HS ⊢
    have C := Lib.hid (HS.out.nums (by omega) HRD.out.n HRD.out.nl 8 (by omega))
    have x0 : wx.cell? ⟨g, 15, none⟩ = some (.slice a.An m.nee.length a.cn) := HS.out.blk.cell 15
    go_upto_region 28 with (first
      | (go_at_call 102; refine C.out.mono ?_; rintro en w1 ⟨⟨A7, n7, k7, rfl⟩, hs⟩
         have HS := Lib.hid hs
         have x0 : w1.cell? ⟨g, 15, none⟩ = some (.slice a.An m.nee.length a.cn) := hs.blk.cell 15
         have f0 := hs.blk.frozen 15
         clear hs C)
      | fail)
    clear x0 f0
    have HS : Hid (WaSt W (w1.setCell ⟨g, 15, none⟩ (.slice A7 n7 k7)) b g #[.int .i64 v0, .int .i64 v1, .int .i64 v2, .int .i64 v3, .int .i64 m.inst, .int .i64 m.len, .bool m.has, .int .i64 m.mem, .int .i64 m.src, .int .i64 m.pos, .int .i64 m.tot, .slice a.Ad m.data.length a.cd, .int .i64 v4, .int .i64 v5, .slice A6 n6 k6, .slice A7 n7 k7, .int .i64 m.idx, .int .i64 m.ent.s, .int .i64 m.ent.q, .int .i64 m.ent.c.kind, .int .i64 m.ent.c.who, .slice a.c.Ak m.ent.c.key.length a.c.ck, .slice a.c.Av m.ent.c.val.length a.c.cv, .slice a.c.Ao m.ent.c.old.length a.c.co] _ _ _) := Lib.hid (HS.out.put 15 (.slice A7 n7 k7))
    generalize w1.setCell ⟨g, 15, none⟩ (.slice A7 n7 k7) = wx at HS ⊢
    go_wp2_with (first
      | (refine wpList_load_row rfl 29 (.tmp 3) rfl g rfl 29 #[.int .i64 v0, .int .i64 v1, .int .i64 v2, .int .i64 v3, .int .i64 m.inst, .int .i64 m.len, .bool m.has, .int .i64 m.mem, .int .i64 m.src, .int .i64 m.pos, .int .i64 m.tot, .slice a.Ad m.data.length a.cd, .int .i64 v4, .int .i64 v5, .slice A6 n6 k6, .slice A7 n7 k7, .int .i64 m.idx, .int .i64 m.ent.s, .int .i64 m.ent.q, .int .i64 m.ent.c.kind, .int .i64 m.ent.c.who, .slice a.c.Ak m.ent.c.key.length a.c.ck, .slice a.c.Av m.ent.c.val.length a.c.cv, .slice a.c.Ao m.ent.c.old.length a.c.co] (0, 0) _ HS.out.blk Try.underlying29 rfl (by kernel_rfl) ?_)
      | (refine wpList_store_row rfl 29 (.tmp 4) (.tmp 119) rfl (g + 1) #[.int .i64 v0, .int .i64 v1, .int .i64 v2, .int .i64 v3, .int .i64 m.inst, .int .i64 m.len, .bool m.has, .int .i64 m.mem, .int .i64 m.src, .int .i64 m.pos, .int .i64 m.tot, .slice a.Ad m.data.length a.cd, .int .i64 v4, .int .i64 v5, .slice A6 n6 k6, .slice A7 n7 k7, .int .i64 m.idx, .int .i64 m.ent.s, .int .i64 m.ent.q, .int .i64 m.ent.c.kind, .int .i64 m.ent.c.who, .slice a.c.Ak m.ent.c.key.length a.c.ck, .slice a.c.Av m.ent.c.val.length a.c.cv, .slice a.c.Ao m.ent.c.old.length a.c.co] rfl rfl 29 msgZ HS.out.res (by kernel_rfl) rfl (by kernel_rfl) ?_)
      | fail)
    refine bodyPost_ret (results_cell_row rfl _ _ _ _ _ _ _ rfl (HS.out.res.row #[.int .i64 v0, .int .i64 v1, .int .i64 v2, .int .i64 v3, .int .i64 m.inst, .int .i64 m.len, .bool m.has, .int .i64 m.mem, .int .i64 m.src, .int .i64 m.pos, .int .i64 m.tot, .slice a.Ad m.data.length a.cd, .int .i64 v4, .int .i64 v5, .slice A6 n6 k6, .slice A7 n7 k7, .int .i64 m.idx, .int .i64 m.ent.s, .int .i64 m.ent.q, .int .i64 m.ent.c.kind, .int .i64 m.ent.c.who, .slice a.c.Ak m.ent.c.key.length a.c.ck, .slice a.c.Av m.ent.c.val.length a.c.cv, .slice a.c.Ao m.ent.c.old.length a.c.co]) Try.underlying29 rfl (by kernel_rfl)) rfl ?_
    obtain ⟨L, f, e1, e2, e3⟩ := HS.out.rowS #[.int .i64 v0, .int .i64 v1, .int .i64 v2, .int .i64 v3, .int .i64 m.inst, .int .i64 m.len, .bool m.has, .int .i64 m.mem, .int .i64 m.src, .int .i64 m.pos, .int .i64 m.tot, .slice a.Ad m.data.length a.cd, .int .i64 v4, .int .i64 v5, .slice A6 n6 k6, .slice A7 n7 k7, .int .i64 m.idx, .int .i64 m.ent.s, .int .i64 m.ent.q, .int .i64 m.ent.c.kind, .int .i64 m.ent.c.who, .slice a.c.Ak m.ent.c.key.length a.c.ck, .slice a.c.Av m.ent.c.val.length a.c.cv, .slice a.c.Ao m.ent.c.old.length a.c.co]
    have cK := HCK.out
    obtain ⟨hk, hw⟩ := kind_of HV0.out (by omega)
    rw [cK] at hk
    refine AlongW.of (v := v0) HV0.out e1 e2 e3 ?_ ?_
    · unfold Mg.ok Mg.headOk Mg.tailOk
      rw [hw, cK]
      simp [hk, Bool.and_assoc]
    · intro hok
      unfold Mg.enc Mg.head Mg.tail
      rw [if_pos hok]
      simp [hk]
  by_cases c8 : v0 = 8
  · have r2 : (v0 == 2) = false := by simpa using c2
    have r3 : (v0 == 3) = false := by simpa using c3
    have r4 : (v0 == 4) = false := by simpa using c4
    have r5 : (v0 == 5) = false := by simpa using c5
    have r7 : (v0 == 7) = false := by simpa using c7
    have r8 : (v0 == 8) = true := by simpa using c8
    have HCK := Lib.hid c8
    clear c8
    have x0 : wx.cell? ⟨g, 0, none⟩ = some (.int .i64 v0) := HS.out.blk.cell 0
    go_upto_region 26 with fail
    clear x0
    have C := Lib.hid (HS.out.num (by omega) (m.idx) 1099511627776)
    obtain ⟨v4, hv⟩ : ∃ v : Int, (if wi 1099511627776 (m.idx) = true then (m.idx) else 0) = v := ⟨_, rfl⟩
    rw [hv] at C
    clear hv
    have x0 : wx.cell? ⟨g, 16, none⟩ = some (.int .i64 m.idx) := HS.out.blk.cell 16
    go_upto_region 27 with (first
      | (go_at_call 101; refine C.out.mono ?_; rintro en w1 ⟨rfl, hs⟩
         have HS := Lib.hid hs
         have x0 : w1.cell? ⟨g, 16, none⟩ = some (.int .i64 m.idx) := hs.blk.cell 16
         have f0 := hs.blk.frozen 16
         clear hs C)
      | fail)
    clear x0 f0
    have HS : Hid (WaSt W (w1.setCell ⟨g, 16, none⟩ (.int .i64 v4)) b g #[.int .i64 v0, .int .i64 v1, .int .i64 v2, .int .i64 v3, .int .i64 m.inst, .int .i64 m.len, .bool m.has, .int .i64 m.mem, .int .i64 m.src, .int .i64 m.pos, .int .i64 m.tot, .slice a.Ad m.data.length a.cd, .int .i64 m.hop, .int .i64 m.seq, .slice a.Ah m.hav.length a.ch, .slice a.An m.nee.length a.cn, .int .i64 v4, .int .i64 m.ent.s, .int .i64 m.ent.q, .int .i64 m.ent.c.kind, .int .i64 m.ent.c.who, .slice a.c.Ak m.ent.c.key.length a.c.ck, .slice a.c.Av m.ent.c.val.length a.c.cv, .slice a.c.Ao m.ent.c.old.length a.c.co] _ _ _) := Lib.hid (HS.out.put 16 (.int .i64 v4))
    generalize w1.setCell ⟨g, 16, none⟩ (.int .i64 v4) = wx at HS ⊢
    have C := Lib.hid (HS.out.entry (by omega) HM.out.c HRD.out.c)
    unfold entV entC at C
    have x0 : wx.cell? ⟨g, 17, none⟩ = some (.int .i64 m.ent.s) := HS.out.blk.cell 17
    have x1 : wx.cell? ⟨g, 18, none⟩ = some (.int .i64 m.ent.q) := HS.out.blk.cell 18
    have x2 : wx.cell? ⟨g, 19, none⟩ = some (.int .i64 m.ent.c.kind) := HS.out.blk.cell 19
    have x3 : wx.cell? ⟨g, 20, none⟩ = some (.int .i64 m.ent.c.who) := HS.out.blk.cell 20
    have x4 : wx.cell? ⟨g, 21, none⟩ = some (.slice a.c.Ak m.ent.c.key.length a.c.ck) := HS.out.blk.cell 21
    have x5 : wx.cell? ⟨g, 22, none⟩ = some (.slice a.c.Av m.ent.c.val.length a.c.cv) := HS.out.blk.cell 22
    have x6 : wx.cell? ⟨g, 23, none⟩ = some (.slice a.c.Ao m.ent.c.old.length a.c.co) := HS.out.blk.cell 23
    go_upto_region 28 with (first
      | (go_at_call 100; refine C.out.mono ?_; rintro en w1 ⟨⟨ca2, e2, rfl⟩, hs⟩
         have HS := Lib.hid hs
         have x0 : w1.cell? ⟨g, 17, none⟩ = some (.int .i64 m.ent.s) := hs.blk.cell 17
         have f0 := hs.blk.frozen 17
         have x1 : w1.cell? ⟨g, 18, none⟩ = some (.int .i64 m.ent.q) := hs.blk.cell 18
         have f1 := hs.blk.frozen 18
         have x2 : w1.cell? ⟨g, 19, none⟩ = some (.int .i64 m.ent.c.kind) := hs.blk.cell 19
         have f2 := hs.blk.frozen 19
         have x3 : w1.cell? ⟨g, 20, none⟩ = some (.int .i64 m.ent.c.who) := hs.blk.cell 20
         have f3 := hs.blk.frozen 20
         have x4 : w1.cell? ⟨g, 21, none⟩ = some (.slice a.c.Ak m.ent.c.key.length a.c.ck) := hs.blk.cell 21
         have f4 := hs.blk.frozen 21
         have x5 : w1.cell? ⟨g, 22, none⟩ = some (.slice a.c.Av m.ent.c.val.length a.c.cv) := hs.blk.cell 22
         have f5 := hs.blk.frozen 22
         have x6 : w1.cell? ⟨g, 23, none⟩ = some (.slice a.c.Ao m.ent.c.old.length a.c.co) := hs.blk.cell 23
         have f6 := hs.blk.frozen 23
         clear hs C)
      | fail)
    clear x0 f0 x1 f1 x2 f2 x3 f3 x4 f4 x5 f5 x6 f6
    have HS : Hid (WaSt W ((((((((w1.setCell ⟨g, 17, none⟩ (.int .i64 e2.s)).setCell ⟨g, 18, none⟩ (.int .i64 e2.q)).setCell ⟨g, 19, none⟩ (.int .i64 e2.c.kind)).setCell ⟨g, 20, none⟩ (.int .i64 e2.c.who)).setCell ⟨g, 21, none⟩ (.slice ca2.Ak e2.c.key.length ca2.ck)).setCell ⟨g, 22, none⟩ (.slice ca2.Av e2.c.val.length ca2.cv)).setCell ⟨g, 23, none⟩ (.slice ca2.Ao e2.c.old.length ca2.co))) b g #[.int .i64 v0, .int .i64 v1, .int .i64 v2, .int .i64 v3, .int .i64 m.inst, .int .i64 m.len, .bool m.has, .int .i64 m.mem, .int .i64 m.src, .int .i64 m.pos, .int .i64 m.tot, .slice a.Ad m.data.length a.cd, .int .i64 m.hop, .int .i64 m.seq, .slice a.Ah m.hav.length a.ch, .slice a.An m.nee.length a.cn, .int .i64 v4, .int .i64 e2.s, .int .i64 e2.q, .int .i64 e2.c.kind, .int .i64 e2.c.who, .slice ca2.Ak e2.c.key.length ca2.ck, .slice ca2.Av e2.c.val.length ca2.cv, .slice ca2.Ao e2.c.old.length ca2.co] _ _ _) := Lib.hid ((((((((HS.out.put 17 (.int .i64 e2.s)).put 18 (.int .i64 e2.q)).put 19 (.int .i64 e2.c.kind)).put 20 (.int .i64 e2.c.who)).put 21 (.slice ca2.Ak e2.c.key.length ca2.ck)).put 22 (.slice ca2.Av e2.c.val.length ca2.cv)).put 23 (.slice ca2.Ao e2.c.old.length ca2.co)))
    generalize (((((((w1.setCell ⟨g, 17, none⟩ (.int .i64 e2.s)).setCell ⟨g, 18, none⟩ (.int .i64 e2.q)).setCell ⟨g, 19, none⟩ (.int .i64 e2.c.kind)).setCell ⟨g, 20, none⟩ (.int .i64 e2.c.who)).setCell ⟨g, 21, none⟩ (.slice ca2.Ak e2.c.key.length ca2.ck)).setCell ⟨g, 22, none⟩ (.slice ca2.Av e2.c.val.length ca2.cv)).setCell ⟨g, 23, none⟩ (.slice ca2.Ao e2.c.old.length ca2.co)) = wx at HS ⊢
    go_wp2_with (first
      | (refine wpList_load_row rfl 29 (.tmp 3) rfl g rfl 29 #[.int .i64 v0, .int .i64 v1, .int .i64 v2, .int .i64 v3, .int .i64 m.inst, .int .i64 m.len, .bool m.has, .int .i64 m.mem, .int .i64 m.src, .int .i64 m.pos, .int .i64 m.tot, .slice a.Ad m.data.length a.cd, .int .i64 m.hop, .int .i64 m.seq, .slice a.Ah m.hav.length a.ch, .slice a.An m.nee.length a.cn, .int .i64 v4, .int .i64 e2.s, .int .i64 e2.q, .int .i64 e2.c.kind, .int .i64 e2.c.who, .slice ca2.Ak e2.c.key.length ca2.ck, .slice ca2.Av e2.c.val.length ca2.cv, .slice ca2.Ao e2.c.old.length ca2.co] (0, 0) _ HS.out.blk Try.underlying29 rfl (by kernel_rfl) ?_)
      | (refine wpList_store_row rfl 29 (.tmp 4) (.tmp 119) rfl (g + 1) #[.int .i64 v0, .int .i64 v1, .int .i64 v2, .int .i64 v3, .int .i64 m.inst, .int .i64 m.len, .bool m.has, .int .i64 m.mem, .int .i64 m.src, .int .i64 m.pos, .int .i64 m.tot, .slice a.Ad m.data.length a.cd, .int .i64 m.hop, .int .i64 m.seq, .slice a.Ah m.hav.length a.ch, .slice a.An m.nee.length a.cn, .int .i64 v4, .int .i64 e2.s, .int .i64 e2.q, .int .i64 e2.c.kind, .int .i64 e2.c.who, .slice ca2.Ak e2.c.key.length ca2.ck, .slice ca2.Av e2.c.val.length ca2.cv, .slice ca2.Ao e2.c.old.length ca2.co] rfl rfl 29 msgZ HS.out.res (by kernel_rfl) rfl (by kernel_rfl) ?_)
      | fail)
    refine bodyPost_ret (results_cell_row rfl _ _ _ _ _ _ _ rfl (HS.out.res.row #[.int .i64 v0, .int .i64 v1, .int .i64 v2, .int .i64 v3, .int .i64 m.inst, .int .i64 m.len, .bool m.has, .int .i64 m.mem, .int .i64 m.src, .int .i64 m.pos, .int .i64 m.tot, .slice a.Ad m.data.length a.cd, .int .i64 m.hop, .int .i64 m.seq, .slice a.Ah m.hav.length a.ch, .slice a.An m.nee.length a.cn, .int .i64 v4, .int .i64 e2.s, .int .i64 e2.q, .int .i64 e2.c.kind, .int .i64 e2.c.who, .slice ca2.Ak e2.c.key.length ca2.ck, .slice ca2.Av e2.c.val.length ca2.cv, .slice ca2.Ao e2.c.old.length ca2.co]) Try.underlying29 rfl (by kernel_rfl)) rfl ?_
    obtain ⟨L, f, e1, e2, e3⟩ := HS.out.rowS #[.int .i64 v0, .int .i64 v1, .int .i64 v2, .int .i64 v3, .int .i64 m.inst, .int .i64 m.len, .bool m.has, .int .i64 m.mem, .int .i64 m.src, .int .i64 m.pos, .int .i64 m.tot, .slice a.Ad m.data.length a.cd, .int .i64 m.hop, .int .i64 m.seq, .slice a.Ah m.hav.length a.ch, .slice a.An m.nee.length a.cn, .int .i64 v4, .int .i64 e2.s, .int .i64 e2.q, .int .i64 e2.c.kind, .int .i64 e2.c.who, .slice ca2.Ak e2.c.key.length ca2.ck, .slice ca2.Av e2.c.val.length ca2.cv, .slice ca2.Ao e2.c.old.length ca2.co]
    have cK := HCK.out
    obtain ⟨hk, hw⟩ := kind_of HV0.out (by omega)
    rw [cK] at hk
    refine AlongW.of (v := v0) HV0.out e1 e2 e3 ?_ ?_
    · unfold Mg.ok Mg.headOk Mg.tailOk
      rw [hw, cK]
      simp [hk, Bool.and_assoc]
    · intro hok
      unfold Mg.enc Mg.head Mg.tail
      rw [if_pos hok]
      simp [hk]
  have r2 : (v0 == 2) = false := by simpa using c2
  have r3 : (v0 == 3) = false := by simpa using c3
  have r4 : (v0 == 4) = false := by simpa using c4
  have r5 : (v0 == 5) = false := by simpa using c5
  have r7 : (v0 == 7) = false := by simpa using c7
  have r8 : (v0 == 8) = false := by simpa using c8
  have x0 : wx.cell? ⟨g, 0, none⟩ = some (.int .i64 v0) := HS.out.blk.cell 0
  go_upto_region 28 with fail
  clear x0
  go_wp2_with (first
    | (refine wpList_load_row rfl 29 (.tmp 3) rfl g rfl 29 #[.int .i64 v0, .int .i64 v1, .int .i64 v2, .int .i64 v3, .int .i64 m.inst, .int .i64 m.len, .bool m.has, .int .i64 m.mem, .int .i64 m.src, .int .i64 m.pos, .int .i64 m.tot, .slice a.Ad m.data.length a.cd, .int .i64 m.hop, .int .i64 m.seq, .slice a.Ah m.hav.length a.ch, .slice a.An m.nee.length a.cn, .int .i64 m.idx, .int .i64 m.ent.s, .int .i64 m.ent.q, .int .i64 m.ent.c.kind, .int .i64 m.ent.c.who, .slice a.c.Ak m.ent.c.key.length a.c.ck, .slice a.c.Av m.ent.c.val.length a.c.cv, .slice a.c.Ao m.ent.c.old.length a.c.co] (0, 0) _ HS.out.blk Try.underlying29 rfl (by kernel_rfl) ?_)
    | (refine wpList_store_row rfl 29 (.tmp 4) (.tmp 119) rfl (g + 1) #[.int .i64 v0, .int .i64 v1, .int .i64 v2, .int .i64 v3, .int .i64 m.inst, .int .i64 m.len, .bool m.has, .int .i64 m.mem, .int .i64 m.src, .int .i64 m.pos, .int .i64 m.tot, .slice a.Ad m.data.length a.cd, .int .i64 m.hop, .int .i64 m.seq, .slice a.Ah m.hav.length a.ch, .slice a.An m.nee.length a.cn, .int .i64 m.idx, .int .i64 m.ent.s, .int .i64 m.ent.q, .int .i64 m.ent.c.kind, .int .i64 m.ent.c.who, .slice a.c.Ak m.ent.c.key.length a.c.ck, .slice a.c.Av m.ent.c.val.length a.c.cv, .slice a.c.Ao m.ent.c.old.length a.c.co] rfl rfl 29 msgZ HS.out.res (by kernel_rfl) rfl (by kernel_rfl) ?_)
    | fail)
  refine bodyPost_ret (results_cell_row rfl _ _ _ _ _ _ _ rfl (HS.out.res.row #[.int .i64 v0, .int .i64 v1, .int .i64 v2, .int .i64 v3, .int .i64 m.inst, .int .i64 m.len, .bool m.has, .int .i64 m.mem, .int .i64 m.src, .int .i64 m.pos, .int .i64 m.tot, .slice a.Ad m.data.length a.cd, .int .i64 m.hop, .int .i64 m.seq, .slice a.Ah m.hav.length a.ch, .slice a.An m.nee.length a.cn, .int .i64 m.idx, .int .i64 m.ent.s, .int .i64 m.ent.q, .int .i64 m.ent.c.kind, .int .i64 m.ent.c.who, .slice a.c.Ak m.ent.c.key.length a.c.ck, .slice a.c.Av m.ent.c.val.length a.c.cv, .slice a.c.Ao m.ent.c.old.length a.c.co]) Try.underlying29 rfl (by kernel_rfl)) rfl ?_
  obtain ⟨L, f, e1, e2, e3⟩ := HS.out.rowS #[.int .i64 v0, .int .i64 v1, .int .i64 v2, .int .i64 v3, .int .i64 m.inst, .int .i64 m.len, .bool m.has, .int .i64 m.mem, .int .i64 m.src, .int .i64 m.pos, .int .i64 m.tot, .slice a.Ad m.data.length a.cd, .int .i64 m.hop, .int .i64 m.seq, .slice a.Ah m.hav.length a.ch, .slice a.An m.nee.length a.cn, .int .i64 m.idx, .int .i64 m.ent.s, .int .i64 m.ent.q, .int .i64 m.ent.c.kind, .int .i64 m.ent.c.who, .slice a.c.Ak m.ent.c.key.length a.c.ck, .slice a.c.Av m.ent.c.val.length a.c.cv, .slice a.c.Ao m.ent.c.old.length a.c.co]
  refine AlongW.of (v := v0) HV0.out e1 e2 e3 ?_ ?_
  · by_cases h0 : v0 = 0
    · subst h0
      have := kind_no HV0.out rfl
      unfold Mg.ok Mg.tailOk
      rcases this with h | h
      · simp [h]
      · have h2 : ¬ (m.kind = 2) ∧ ¬ (m.kind = 3) ∧ ¬ (m.kind = 4) ∧ ¬ (m.kind = 5) ∧ ¬ (m.kind = 7) ∧ ¬ (m.kind = 8) ∧ ¬ (m.kind = 1) ∧ ¬ (m.kind = 6) := by
          refine ⟨?_, ?_, ?_, ?_, ?_, ?_, ?_, ?_⟩ <;> (intro hk; rw [hk] at h; cases h)
        obtain ⟨h2, h3, h4, h5, h7, h8, h1, h6⟩ := h2
        simp [h1, h2, h3, h4, h5, h6, h7, h8]
    · obtain ⟨hk, hw⟩ := kind_of HV0.out h0
      have hw2 := wi_iff.1 hw
      unfold Mg.ok Mg.headOk Mg.tailOk
      have h16 : m.kind = 1 ∨ m.kind = 6 := by omega
      rcases h16 with h | h
      · simp [h, h0, Bool.and_assoc]; intros; rfl
      · simp [h, h0, Bool.and_assoc]; intros; rfl
  · intro hok
    have h0 := Mg.ok_kind hok
    unfold Mg.enc
    rw [if_pos hok]
    unfold Mg.ok at hok
    rw [Bool.and_eq_true] at hok
    have ht := hok.2
    unfold Mg.tailOk at ht
    have h16 : m.kind = 1 ∨ m.kind = 6 := by
      have hw : v0 = 0 ∨ (m.kind = v0 ∧ wi 8 m.kind = true) := by
        by_cases hv : v0 = 0
        · exact .inl hv
        · exact .inr (kind_of HV0.out hv)
      rcases hw with hw | ⟨hk, hw⟩
      · rcases kind_no HV0.out hw with h | h
        · exact absurd h h0
        · exfalso
          split at ht; rename_i hk; rw [hk] at h; cases h
          split at ht; rename_i hk; rw [hk] at h; cases h
          split at ht; rename_i hk; rw [hk] at h; cases h
          split at ht; rename_i hk; rw [hk] at h; cases h
          split at ht; rename_i hk; rw [hk] at h; cases h
          split at ht; rename_i hk; rw [hk] at h; cases h
          simp at ht
          rcases ht with hk | hk <;> (rw [hk] at h; cases h)
      · have := wi_iff.1 hw; omega
    unfold Mg.head Mg.tail
    rcases h16 with h | h <;> simp [h]
end Go.Proofs.Ytlfkgpllleogoaa

