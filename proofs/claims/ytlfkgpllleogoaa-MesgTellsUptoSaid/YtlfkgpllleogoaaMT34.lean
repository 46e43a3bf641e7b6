/- MesgEnc -/
import Derived.Test.YtlfkgpllleogoaaMT05
import Derived.Test.YtlfkgpllleogoaaMT32
import Derived.Test.YtlfkgpllleogoaaMT33
namespace Go.Proofs.Ytlfkgpllleogoaa
open Go.RowKit
set_option linter.unusedVariables false
set_option maxHeartbeats 2000000 in
set_option maxRecDepth 100000 in
theorem encode_raw {w : World} {a : GA} {m : Mg} {B : Nat} (hM : m.Wide) (hr : RdG w B a m) : Calls Try.prog 16 #[msgV a m] w (GotIn w w m.enc) := by
  obtain ⟨g, hg⟩ : ∃ g, w.heap.size = g := ⟨_, rfl⟩
  obtain ⟨wx, hwx⟩ : ∃ wx, (w.alloc (.cells (msgC a m) 29)).alloc (.cells #[.slice none 0 0, .bool false] 64) = wx := ⟨_, rfl⟩
  have hbb : Below w.heap.size w wx := by rw [← hwx]; exact ((Below.refl _ _).alloc (Nat.le_refl _) _).alloc (by rw [World.size_alloc]; omega) _
  have k1 : Blk wx g 29 (msgC a m) := by rw [← hwx, ← hg]; exact (Blk.new _ _ _).alloc _
  have k2 : Blk wx (g + 1) 64 #[.slice none 0 0, .bool false] := by
    rw [← hwx, ← hg]
    have := Blk.new (w.alloc (.cells (msgC a m) 29)) 64 #[.slice none 0 0, .bool false]
    rwa [World.size_alloc] at this
  have hw : WrAt w wx (g + 1) [] false := ⟨none, 0, k2, own_nil _ _, hbb, by omega⟩
  have HC := Lib.hid (walong_any (W := w) (w := wx) (a := a) hw hM hr.fit)
  have HK1 := Lib.hid k1
  have HWX := Lib.hid hwx
  have HG := Lib.hid hg
  have hk0 := Mg.ok_kind (m := m)
  have HE : Hid (m.ok = false → m.enc = []) := Lib.hid (fun h => by unfold Mg.enc; rw [h]; simp)
  obtain ⟨ME, hME⟩ : ∃ x, m.enc = x := ⟨_, rfl⟩
  rw [hME] at HE ⊢
  clear hM hr hbb k1 k2 hw hwx hg hk0
  unfold msgV msgC at HC
  unfold msgC at HK1 HWX
  unfold msgV msgC
  go_enter Try.func16, Try.ntmps16
  go_upto_region 2 with fail
  rw [HG.out, HWX.out]
  clear HWX
  have hbk := HC
  obtain ⟨kv, hkv⟩ : ∃ x : Int, (if wi 8 m.kind = true then m.kind else 0) = x := ⟨_, rfl⟩
  unfold AlongW at HC
  rw [hkv, hME] at HC
  clear hbk
  obtain ⟨ok, hok⟩ : ∃ x, m.ok = x := ⟨_, rfl⟩
  rw [hok] at HC HE
  clear hkv hok
  have hf : ∀ (w : World) (c1 c2 c3 c4 c5 c6 c7 c8 c9 c10 c11 c12 c13 c14 c15 c16 c17 c18 c19 c20 c21 c22 c23 : Value), (Instr.field 29 (.agg #[.int .i64 kv, c1, c2, c3, c4, c5, c6, c7, c8, c9, c10, c11, c12, c13, c14, c15, c16, c17, c18, c19, c20, c21, c22, c23]) 0).run Try.prog w = .ok (.int .i64 kv) w := by intros; kernel_rfl
  by_cases h0 : kv = 0
  · have b0 : (kv == 0) = true := by simpa using h0
    have HC : Hid (Calls Try.prog 39 #[.iface 62 (.pointer (some ⟨g + 1, 0, none⟩)), .agg #[.int .i64 m.kind, .int .i64 m.frm, .int .i64 m.dst, .int .i64 m.view, .int .i64 m.inst, .int .i64 m.len, .bool m.has, .int .i64 m.mem, .int .i64 m.src, .int .i64 m.pos, .int .i64 m.tot, .slice a.Ad m.data.length a.cd, .int .i64 m.hop, .int .i64 m.seq, .slice a.Ah m.hav.length a.ch, .slice a.An m.nee.length a.cn, .int .i64 m.idx, .int .i64 m.ent.s, .int .i64 m.ent.q, .int .i64 m.ent.c.kind, .int .i64 m.ent.c.who, .slice a.c.Ak m.ent.c.key.length a.c.ck, .slice a.c.Av m.ent.c.val.length a.c.cv, .slice a.c.Ao m.ent.c.old.length a.c.co]] wx fun e w' => ∃ (c1 c2 c3 c4 c5 c6 c7 c8 c9 c10 c11 c12 c13 c14 c15 c16 c17 c18 c19 c20 c21 c22 c23 : Value), e = .returned (.agg #[.int .i64 kv, c1, c2, c3, c4, c5, c6, c7, c8, c9, c10, c11, c12, c13, c14, c15, c16, c17, c18, c19, c20, c21, c22, c23]) ∧ Below w.heap.size w w' ∧ ok = false) := Lib.hid (HC.out.mono fun e w' ⟨c1, c2, c3, c4, c5, c6, c7, c8, c9, c10, c11, c12, c13, c14, c15, c16, c17, c18, c19, c20, c21, c22, c23, L, f, q1, ⟨_, _, _, _, q3, _⟩, q4, q5⟩ => ⟨c1, c2, c3, c4, c5, c6, c7, c8, c9, c10, c11, c12, c13, c14, c15, c16, c17, c18, c19, c20, c21, c22, c23, q1, q3, by rw [q4]; simp [h0]⟩)
    clear h0
    go_wp2_with (first
      | (refine wpList_load_row rfl 29 (.tmp 1) rfl g rfl 29 #[.int .i64 m.kind, .int .i64 m.frm, .int .i64 m.dst, .int .i64 m.view, .int .i64 m.inst, .int .i64 m.len, .bool m.has, .int .i64 m.mem, .int .i64 m.src, .int .i64 m.pos, .int .i64 m.tot, .slice a.Ad m.data.length a.cd, .int .i64 m.hop, .int .i64 m.seq, .slice a.Ah m.hav.length a.ch, .slice a.An m.nee.length a.cn, .int .i64 m.idx, .int .i64 m.ent.s, .int .i64 m.ent.q, .int .i64 m.ent.c.kind, .int .i64 m.ent.c.who, .slice a.c.Ak m.ent.c.key.length a.c.ck, .slice a.c.Av m.ent.c.val.length a.c.cv, .slice a.c.Ao m.ent.c.old.length a.c.co] (0, 0) _ HK1.out Try.underlying29 rfl (by kernel_rfl) ?_)
      | (go_at_call 39; refine HC.out.mono ?_; rintro en w1 ⟨c1, c2, c3, c4, c5, c6, c7, c8, c9, c10, c11, c12, c13, c14, c15, c16, c17, c18, c19, c20, c21, c22, c23, rfl, hb1, hno⟩)
      | fail)
    go_ret
    rw [HE.out hno]
    exact ⟨none, 0, rfl, own_nil _ _, hb1, hb1⟩
  · have b0 : (kv == 0) = false := by simpa using h0
    have HC : Hid (Calls Try.prog 39 #[.iface 62 (.pointer (some ⟨g + 1, 0, none⟩)), .agg #[.int .i64 m.kind, .int .i64 m.frm, .int .i64 m.dst, .int .i64 m.view, .int .i64 m.inst, .int .i64 m.len, .bool m.has, .int .i64 m.mem, .int .i64 m.src, .int .i64 m.pos, .int .i64 m.tot, .slice a.Ad m.data.length a.cd, .int .i64 m.hop, .int .i64 m.seq, .slice a.Ah m.hav.length a.ch, .slice a.An m.nee.length a.cn, .int .i64 m.idx, .int .i64 m.ent.s, .int .i64 m.ent.q, .int .i64 m.ent.c.kind, .int .i64 m.ent.c.who, .slice a.c.Ak m.ent.c.key.length a.c.ck, .slice a.c.Av m.ent.c.val.length a.c.cv, .slice a.c.Ao m.ent.c.old.length a.c.co]] wx fun e w' => ∃ (c1 c2 c3 c4 c5 c6 c7 c8 c9 c10 c11 c12 c13 c14 c15 c16 c17 c18 c19 c20 c21 c22 c23 : Value), e = .returned (.agg #[.int .i64 kv, c1, c2, c3, c4, c5, c6, c7, c8, c9, c10, c11, c12, c13, c14, c15, c16, c17, c18, c19, c20, c21, c22, c23]) ∧ ∃ L, WrAt w w' (g + 1) L (!ok) ∧ (ok = true → L = ME)) := Lib.hid (HC.out.mono fun e w' ⟨c1, c2, c3, c4, c5, c6, c7, c8, c9, c10, c11, c12, c13, c14, c15, c16, c17, c18, c19, c20, c21, c22, c23, L, f, q1, q3, q4, q5⟩ => ⟨c1, c2, c3, c4, c5, c6, c7, c8, c9, c10, c11, c12, c13, c14, c15, c16, c17, c18, c19, c20, c21, c22, c23, q1, L, by rw [q4]; simpa [h0] using q3, q5⟩)
    clear h0
    cases ok with
    | false =>
      go_wp2_with (first
        | (refine wpList_load_row rfl 29 (.tmp 1) rfl g rfl 29 #[.int .i64 m.kind, .int .i64 m.frm, .int .i64 m.dst, .int .i64 m.view, .int .i64 m.inst, .int .i64 m.len, .bool m.has, .int .i64 m.mem, .int .i64 m.src, .int .i64 m.pos, .int .i64 m.tot, .slice a.Ad m.data.length a.cd, .int .i64 m.hop, .int .i64 m.seq, .slice a.Ah m.hav.length a.ch, .slice a.An m.nee.length a.cn, .int .i64 m.idx, .int .i64 m.ent.s, .int .i64 m.ent.q, .int .i64 m.ent.c.kind, .int .i64 m.ent.c.who, .slice a.c.Ak m.ent.c.key.length a.c.ck, .slice a.c.Av m.ent.c.val.length a.c.cv, .slice a.c.Ao m.ent.c.old.length a.c.co] (0, 0) _ HK1.out Try.underlying29 rfl (by kernel_rfl) ?_)
        | (go_at_call 39; refine HC.out.mono ?_; rintro en w1 ⟨c1, c2, c3, c4, c5, c6, c7, c8, c9, c10, c11, c12, c13, c14, c15, c16, c17, c18, c19, c20, c21, c22, c23, rfl, L, hw, hL⟩; obtain ⟨A, c, q1, q2, q3, q4⟩ := hw; have x1 : w1.cell? ⟨g + 1, 1, none⟩ = some (.bool true) := q1.cell 1; have HB1 := Lib.hid q3; clear q1 q2 q3 q4)
        | fail)
      go_ret
      rw [HE.out (by first | rfl | trivial)]
      exact ⟨none, 0, rfl, own_nil _ _, HB1.out, HB1.out⟩
    | true =>
      go_wp2_with (first
        | (refine wpList_load_row rfl 29 (.tmp 1) rfl g rfl 29 #[.int .i64 m.kind, .int .i64 m.frm, .int .i64 m.dst, .int .i64 m.view, .int .i64 m.inst, .int .i64 m.len, .bool m.has, .int .i64 m.mem, .int .i64 m.src, .int .i64 m.pos, .int .i64 m.tot, .slice a.Ad m.data.length a.cd, .int .i64 m.hop, .int .i64 m.seq, .slice a.Ah m.hav.length a.ch, .slice a.An m.nee.length a.cn, .int .i64 m.idx, .int .i64 m.ent.s, .int .i64 m.ent.q, .int .i64 m.ent.c.kind, .int .i64 m.ent.c.who, .slice a.c.Ak m.ent.c.key.length a.c.ck, .slice a.c.Av m.ent.c.val.length a.c.cv, .slice a.c.Ao m.ent.c.old.length a.c.co] (0, 0) _ HK1.out Try.underlying29 rfl (by kernel_rfl) ?_)
        | (go_at_call 39; refine HC.out.mono ?_; rintro en w1 ⟨c1, c2, c3, c4, c5, c6, c7, c8, c9, c10, c11, c12, c13, c14, c15, c16, c17, c18, c19, c20, c21, c22, c23, rfl, L, hw, hL⟩; obtain rfl := hL rfl; obtain ⟨A, c, q1, q2, q3, q4⟩ := hw; have x0 : w1.cell? ⟨g + 1, 0, none⟩ = some (.slice A L.length c) := q1.cell 0; have x1 : w1.cell? ⟨g + 1, 1, none⟩ = some (.bool false) := q1.cell 1; have HB1 := Lib.hid q3; have HO := Lib.hid q2; clear q1 q2 q3 q4 hL)
        | fail)
      go_ret
      exact ⟨A, c, rfl, HO.out, HB1.out, HB1.out⟩
theorem encode11 : EncodeC11 := fun hM hr hB => (encode_raw hM hr).mono fun e w' ⟨A, c, h1, h2, h3, h4⟩ => ⟨A, c, h1, own_of hB.size h2, hB.trans (h3.mono hB.size), h4⟩
end Go.Proofs.Ytlfkgpllleogoaa

