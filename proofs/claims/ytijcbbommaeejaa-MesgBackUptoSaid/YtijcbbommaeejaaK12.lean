/- MesgEnc MesgDec MesgSame MesgAwake -/
import Derived.Test.YtijcbbommaeejaaK01
import Derived.Test.YtijcbbommaeejaaK02
import Derived.Test.YtijcbbommaeejaaK03
import Derived.Test.YtijcbbommaeejaaK10
import Derived.Test.YtijcbbommaeejaaK11
import Derived.ArgAppend
import Derived.OwnWalk
namespace Go.Proofs.Ytijcbbommaeejaa
open Go.RowKit
set_option linter.unusedVariables false
set_option maxHeartbeats 2000000 in
set_option maxRecDepth 100000 in
theorem encode_raw {w : World} {a : GA} {m : Mg} {B : Nat} (hM : m.Wide) (hr : RdG w B a m) : Calls Try.prog 7 #[msgV a m] w (GotIn w w m.enc) := by
  obtain ⟨g, hg⟩ : ∃ g, w.heap.size = g := ⟨_, rfl⟩
  obtain ⟨wx, hwx⟩ : ∃ wx, (w.alloc (.cells (msgC a m) 29)).alloc (.cells #[.slice none 0 0, .bool false] 46) = wx := ⟨_, rfl⟩
  have hbb : Below w.heap.size w wx := by rw [← hwx]; exact ((Below.refl _ _).alloc (Nat.le_refl _) _).alloc (by rw [World.size_alloc]; omega) _
  have k1 : Blk wx g 29 (msgC a m) := by rw [← hwx, ← hg]; exact (Blk.new _ _ _).alloc _
  have k2 : Blk wx (g + 1) 46 #[.slice none 0 0, .bool false] := by
    rw [← hwx, ← hg]
    have := Blk.new (w.alloc (.cells (msgC a m) 29)) 46 #[.slice none 0 0, .bool false]
    rwa [World.size_alloc] at this
  have hw : WrAt w wx (g + 1) [] false := ⟨none, 0, k2, own_nil _ _, hbb, by omega⟩
  have HC := Lib.hid (walong_any (W := w) (w := wx) (a := a) hw hM hr.fit)
  have HK1 := Lib.hid k1
  have HWX := Lib.hid hwx
  have HG := Lib.hid hg
  have hk0 := Mg.ok_kind (m := m)
  have HE : Hid (m.ok = false → m.enc = []) := Lib.hid (fun h => by unfold Mg.enc; rw [h]; simp)
  obtain ⟨ME, hME⟩ : ∃ x, m.enc = x := ⟨_, rfl⟩
  rw [hME] at HE ⊢
  clear hM hr hbb k1 k2 hw hwx hg hk0
  unfold msgV msgC at HC
  unfold msgC at HK1 HWX
  unfold msgV msgC
  go_enter Try.func7, Try.ntmps7
  go_upto_region 2 with fail
  rw [HG.out, HWX.out]
  clear HWX
  have hbk := HC
  obtain ⟨kv, hkv⟩ : ∃ x : Int, (if wi 8 m.kind = true then m.kind else 0) = x := ⟨_, rfl⟩
  unfold AlongW at HC
  rw [hkv, hME] at HC
  clear hbk
  obtain ⟨ok, hok⟩ : ∃ x, m.ok = x := ⟨_, rfl⟩
  rw [hok] at HC HE
  clear hkv hok
  have hf : ∀ (w : World) (c1 c2 c3 c4 c5 c6 c7 c8 c9 c10 c11 c12 c13 c14 c15 c16 c17 c18 c19 c20 c21 c22 c23 : Value), (Instr.field 29 (.agg #[.int .i64 kv, c1, c2, c3, c4, c5, c6, c7, c8, c9, c10, c11, c12, c13, c14, c15, c16, c17, c18, c19, c20, c21, c22, c23]) 0).run Try.prog w = .ok (.int .i64 kv) w := by intros; kernel_rfl
  by_cases h0 : kv = 0
  · have b0 : (kv == 0) = true := by simpa using h0
    have HC : Hid (Calls Try.prog 15 #[.iface 44 (.pointer (some ⟨g + 1, 0, none⟩)), .agg #[.int .i64 m.kind, .int .i64 m.frm, .int .i64 m.dst, .int .i64 m.view, .int .i64 m.inst, .int .i64 m.len, .bool m.has, .int .i64 m.mem, .int .i64 m.src, .int .i64 m.pos, .int .i64 m.tot, .slice a.Ad m.data.length a.cd, .int .i64 m.hop, .int .i64 m.seq, .slice a.Ah m.hav.length a.ch, .slice a.An m.nee.length a.cn, .int .i64 m.idx, .int .i64 m.ent.s, .int .i64 m.ent.q, .int .i64 m.ent.c.kind, .int .i64 m.ent.c.who, .slice a.c.Ak m.ent.c.key.length a.c.ck, .slice a.c.Av m.ent.c.val.length a.c.cv, .slice a.c.Ao m.ent.c.old.length a.c.co]] wx fun e w' => ∃ (c1 c2 c3 c4 c5 c6 c7 c8 c9 c10 c11 c12 c13 c14 c15 c16 c17 c18 c19 c20 c21 c22 c23 : Value), e = .returned (.agg #[.int .i64 kv, c1, c2, c3, c4, c5, c6, c7, c8, c9, c10, c11, c12, c13, c14, c15, c16, c17, c18, c19, c20, c21, c22, c23]) ∧ Below w.heap.size w w' ∧ ok = false) := Lib.hid (HC.out.mono fun e w' ⟨c1, c2, c3, c4, c5, c6, c7, c8, c9, c10, c11, c12, c13, c14, c15, c16, c17, c18, c19, c20, c21, c22, c23, L, f, q1, ⟨_, _, _, _, q3, _⟩, q4, q5⟩ => ⟨c1, c2, c3, c4, c5, c6, c7, c8, c9, c10, c11, c12, c13, c14, c15, c16, c17, c18, c19, c20, c21, c22, c23, q1, q3, by rw [q4]; simp [h0]⟩)
    clear h0
    go_wp2_with (first
      | (refine wpList_load_row rfl 29 (.tmp 1) rfl g rfl 29 #[.int .i64 m.kind, .int .i64 m.frm, .int .i64 m.dst, .int .i64 m.view, .int .i64 m.inst, .int .i64 m.len, .bool m.has, .int .i64 m.mem, .int .i64 m.src, .int .i64 m.pos, .int .i64 m.tot, .slice a.Ad m.data.length a.cd, .int .i64 m.hop, .int .i64 m.seq, .slice a.Ah m.hav.length a.ch, .slice a.An m.nee.length a.cn, .int .i64 m.idx, .int .i64 m.ent.s, .int .i64 m.ent.q, .int .i64 m.ent.c.kind, .int .i64 m.ent.c.who, .slice a.c.Ak m.ent.c.key.length a.c.ck, .slice a.c.Av m.ent.c.val.length a.c.cv, .slice a.c.Ao m.ent.c.old.length a.c.co] (0, 0) _ HK1.out Try.underlying29 rfl (by kernel_rfl) ?_)
      | (go_at_call 15; refine HC.out.mono ?_; rintro en w1 ⟨c1, c2, c3, c4, c5, c6, c7, c8, c9, c10, c11, c12, c13, c14, c15, c16, c17, c18, c19, c20, c21, c22, c23, rfl, hb1, hno⟩)
      | fail)
    go_ret
    rw [HE.out hno]
    exact ⟨none, 0, rfl, own_nil _ _, hb1, hb1⟩
  · have b0 : (kv == 0) = false := by simpa using h0
    have HC : Hid (Calls Try.prog 15 #[.iface 44 (.pointer (some ⟨g + 1, 0, none⟩)), .agg #[.int .i64 m.kind, .int .i64 m.frm, .int .i64 m.dst, .int .i64 m.view, .int .i64 m.inst, .int .i64 m.len, .bool m.has, .int .i64 m.mem, .int .i64 m.src, .int .i64 m.pos, .int .i64 m.tot, .slice a.Ad m.data.length a.cd, .int .i64 m.hop, .int .i64 m.seq, .slice a.Ah m.hav.length a.ch, .slice a.An m.nee.length a.cn, .int .i64 m.idx, .int .i64 m.ent.s, .int .i64 m.ent.q, .int .i64 m.ent.c.kind, .int .i64 m.ent.c.who, .slice a.c.Ak m.ent.c.key.length a.c.ck, .slice a.c.Av m.ent.c.val.length a.c.cv, .slice a.c.Ao m.ent.c.old.length a.c.co]] wx fun e w' => ∃ (c1 c2 c3 c4 c5 c6 c7 c8 c9 c10 c11 c12 c13 c14 c15 c16 c17 c18 c19 c20 c21 c22 c23 : Value), e = .returned (.agg #[.int .i64 kv, c1, c2, c3, c4, c5, c6, c7, c8, c9, c10, c11, c12, c13, c14, c15, c16, c17, c18, c19, c20, c21, c22, c23]) ∧ ∃ L, WrAt w w' (g + 1) L (!ok) ∧ (ok = true → L = ME)) := Lib.hid (HC.out.mono fun e w' ⟨c1, c2, c3, c4, c5, c6, c7, c8, c9, c10, c11, c12, c13, c14, c15, c16, c17, c18, c19, c20, c21, c22, c23, L, f, q1, q3, q4, q5⟩ => ⟨c1, c2, c3, c4, c5, c6, c7, c8, c9, c10, c11, c12, c13, c14, c15, c16, c17, c18, c19, c20, c21, c22, c23, q1, L, by rw [q4]; simpa [h0] using q3, q5⟩)
    clear h0
    cases ok with
    | false =>
      go_wp2_with (first
        | (refine wpList_load_row rfl 29 (.tmp 1) rfl g rfl 29 #[.int .i64 m.kind, .int .i64 m.frm, .int .i64 m.dst, .int .i64 m.view, .int .i64 m.inst, .int .i64 m.len, .bool m.has, .int .i64 m.mem, .int .i64 m.src, .int .i64 m.pos, .int .i64 m.tot, .slice a.Ad m.data.length a.cd, .int .i64 m.hop, .int .i64 m.seq, .slice a.Ah m.hav.length a.ch, .slice a.An m.nee.length a.cn, .int .i64 m.idx, .int .i64 m.ent.s, .int .i64 m.ent.q, .int .i64 m.ent.c.kind, .int .i64 m.ent.c.who, .slice a.c.Ak m.ent.c.key.length a.c.ck, .slice a.c.Av m.ent.c.val.length a.c.cv, .slice a.c.Ao m.ent.c.old.length a.c.co] (0, 0) _ HK1.out Try.underlying29 rfl (by kernel_rfl) ?_)
        | (go_at_call 15; refine HC.out.mono ?_; rintro en w1 ⟨c1, c2, c3, c4, c5, c6, c7, c8, c9, c10, c11, c12, c13, c14, c15, c16, c17, c18, c19, c20, c21, c22, c23, rfl, L, hw, hL⟩; obtain ⟨A, c, q1, q2, q3, q4⟩ := hw; have x1 : w1.cell? ⟨g + 1, 1, none⟩ = some (.bool true) := q1.cell 1; have HB1 := Lib.hid q3; clear q1 q2 q3 q4)
        | fail)
      go_ret
      rw [HE.out (by first | rfl | trivial)]
      exact ⟨none, 0, rfl, own_nil _ _, HB1.out, HB1.out⟩
    | true =>
      go_wp2_with (first
        | (refine wpList_load_row rfl 29 (.tmp 1) rfl g rfl 29 #[.int .i64 m.kind, .int .i64 m.frm, .int .i64 m.dst, .int .i64 m.view, .int .i64 m.inst, .int .i64 m.len, .bool m.has, .int .i64 m.mem, .int .i64 m.src, .int .i64 m.pos, .int .i64 m.tot, .slice a.Ad m.data.length a.cd, .int .i64 m.hop, .int .i64 m.seq, .slice a.Ah m.hav.length a.ch, .slice a.An m.nee.length a.cn, .int .i64 m.idx, .int .i64 m.ent.s, .int .i64 m.ent.q, .int .i64 m.ent.c.kind, .int .i64 m.ent.c.who, .slice a.c.Ak m.ent.c.key.length a.c.ck, .slice a.c.Av m.ent.c.val.length a.c.cv, .slice a.c.Ao m.ent.c.old.length a.c.co] (0, 0) _ HK1.out Try.underlying29 rfl (by kernel_rfl) ?_)
        | (go_at_call 15; refine HC.out.mono ?_; rintro en w1 ⟨c1, c2, c3, c4, c5, c6, c7, c8, c9, c10, c11, c12, c13, c14, c15, c16, c17, c18, c19, c20, c21, c22, c23, rfl, L, hw, hL⟩; obtain rfl := hL rfl; obtain ⟨A, c, q1, q2, q3, q4⟩ := hw; have x0 : w1.cell? ⟨g + 1, 0, none⟩ = some (.slice A L.length c) := q1.cell 0; have x1 : w1.cell? ⟨g + 1, 1, none⟩ = some (.bool false) := q1.cell 1; have HB1 := Lib.hid q3; have HO := Lib.hid q2; clear q1 q2 q3 q4 hL)
        | fail)
      go_ret
      exact ⟨A, c, rfl, HO.out, HB1.out, HB1.out⟩
theorem encode11 : EncodeC11 := fun hM hr hB => (encode_raw hM hr).mono fun e w' ⟨A, c, h1, h2, h3, h4⟩ => ⟨A, c, h1, own_of hB.size h2, hB.trans (h3.mono hB.size), h4⟩
end Go.Proofs.Ytijcbbommaeejaa

namespace Go.Proofs.Ytijcbbommaeejaa
open Go.RowKit
set_option linter.unusedVariables false
theorem RgSt.alloc {w wx : World} {b : Nat} {s : Pk.St} (h : RgSt w wx b s) (o : Obj) : RgSt w (wx.alloc o) b s := h.below ((Below.refl _ _).alloc (Nat.le_refl _) o)
set_option maxHeartbeats 4000000 in
set_option maxRecDepth 100000 in
theorem decode11_raw {w : World} {A : Option Addr} {n c B : Nat} {l : List Nat} (hl : l.length ≤ 2000000) (hb : ∀ x ∈ l, x < 256) (h : Rd w B A n (bv l)) : Calls Try.prog 8 #[.slice A n c] w (GotG w w (Mg.dec l)) := by
  obtain ⟨g, hg⟩ : ∃ g, w.heap.size = g := ⟨_, rfl⟩
  obtain ⟨wz, hwz⟩ : ∃ wz, w.alloc (.cells #[.int .i64 0, .int .i64 0, .int .i64 0, .int .i64 0, .int .i64 0, .int .i64 0, .bool false, .int .i64 0, .int .i64 0, .int .i64 0, .int .i64 0, .slice none 0 0, .int .i64 0, .int .i64 0, .slice none 0 0, .slice none 0 0, .int .i64 0, .int .i64 0, .int .i64 0, .int .i64 0, .int .i64 0, .slice none 0 0, .slice none 0 0, .slice none 0 0] 29) = wz := ⟨_, rfl⟩
  have hbb : Below w.heap.size w wz := by rw [← hwz]; exact (Below.refl _ _).alloc (Nat.le_refl _) _
  have k1 : Blk wz g 29 msgZ := by rw [← hwz, ← hg]; exact Blk.new _ _ _
  have hn := h.length
  have hgz : g < wz.heap.size := k1.lt
  have HC1 := Lib.hid (read_in (W := wz) (c := c) (by unfold Lim; omega) hb (h.fit.below hbb) (Below.refl _ _))
  obtain ⟨M, hM⟩ : ∃ x, (Mg.get (some l)).1 = x := ⟨_, rfl⟩
  obtain ⟨s', hs⟩ : ∃ x, (Mg.get (some l)).2 = x := ⟨_, rfl⟩
  have HR : Hid (Mg.dec l = if M.kind ≠ 0 ∧ s' = some [] then some M else none) := Lib.hid (by unfold Mg.dec; rw [hM, hs])
  have HC2 : Hid (∀ wx b3, RdrAt wx b3 (some l) → Calls Try.prog 15 #[.iface 51 (.agg #[.pointer (some ⟨b3, 0, none⟩)]), .agg #[.int .i64 0, .int .i64 0, .int .i64 0, .int .i64 0, .int .i64 0, .int .i64 0, .bool false, .int .i64 0, .int .i64 0, .int .i64 0, .int .i64 0, .slice none 0 0, .int .i64 0, .int .i64 0, .slice none 0 0, .slice none 0 0, .int .i64 0, .int .i64 0, .int .i64 0, .int .i64 0, .int .i64 0, .slice none 0 0, .slice none 0 0, .slice none 0 0]] wx fun e w' => ∃ a, e = .returned (.agg #[.int .i64 M.kind, .int .i64 M.frm, .int .i64 M.dst, .int .i64 M.view, .int .i64 M.inst, .int .i64 M.len, .bool M.has, .int .i64 M.mem, .int .i64 M.src, .int .i64 M.pos, .int .i64 M.tot, .slice a.Ad M.data.length a.cd, .int .i64 M.hop, .int .i64 M.seq, .slice a.Ah M.hav.length a.ch, .slice a.An M.nee.length a.cn, .int .i64 M.idx, .int .i64 M.ent.s, .int .i64 M.ent.q, .int .i64 M.ent.c.kind, .int .i64 M.ent.c.who, .slice a.c.Ak M.ent.c.key.length a.c.ck, .slice a.c.Av M.ent.c.val.length a.c.cv, .slice a.c.Ao M.ent.c.old.length a.c.co]) ∧ OwnG wx w' a M ∧ RdrAt w' b3 s' ∧ Only b3 wx w') := Lib.hid (fun wx b3 hq => by
    have q := ralong_any wx b3 (some l) hq
    rw [hM, hs] at q
    exact q)
  have HB := Lib.hid hbb
  have HK1 := Lib.hid k1
  have HWZ := Lib.hid hwz
  have HG := Lib.hid hg
  have HGZ := Lib.hid hgz
  clear hl hb h hbb k1 hn hM hs hwz hg hgz
  go_enter Try.func8, Try.ntmps8
  go_upto_region 1 with fail
  rw [HG.out, HWZ.out]
  clear HWZ
  go_upto_region 2 with (first
    | (go_at_call 16; refine HC1.out.mono ?_; rintro en w1 ⟨b3, rfl, hr1, hb3, hb3', hB1, hb1⟩; have HR1 := Lib.hid hr1; have HB1 := Lib.hid hB1; have HK1 := Lib.hid (HK1.out.below hB1); clear hr1 hB1 hb1 hb3' HC1)
    | fail)
  have HC3 := Lib.hid (HC2.out w1 b3 HR1.out)
  have hlt3 := HR1.out.lt
  clear HC2
  go_upto_region 3 with (first
    | (go_at_call 15; refine HC3.out.mono ?_; rintro en w2 ⟨a, rfl, ho, hr2, ho2⟩
       have HK2 := Lib.hid (HK1.out.grown ho2 (by have := HGZ.out; simp; omega))
       have HRG := Lib.hid ((⟨hr2, ho2⟩ : RgSt w1 w2 b3 s').alloc (.cells #[.int .i64 0, .int .i64 0, .int .i64 0, .int .i64 0, .int .i64 0, .int .i64 0, .bool false, .int .i64 0, .int .i64 0, .int .i64 0, .int .i64 0, .slice none 0 0, .int .i64 0, .int .i64 0, .slice none 0 0, .slice none 0 0, .int .i64 0, .int .i64 0, .int .i64 0, .int .i64 0, .int .i64 0, .slice none 0 0, .slice none 0 0, .slice none 0 0] 29))
       have HOW := Lib.hid (ho.below ((Below.refl _ _).alloc (Nat.le_refl _) (.cells #[.int .i64 0, .int .i64 0, .int .i64 0, .int .i64 0, .int .i64 0, .int .i64 0, .bool false, .int .i64 0, .int .i64 0, .int .i64 0, .int .i64 0, .slice none 0 0, .int .i64 0, .int .i64 0, .slice none 0 0, .slice none 0 0, .int .i64 0, .int .i64 0, .int .i64 0, .int .i64 0, .int .i64 0, .slice none 0 0, .slice none 0 0, .slice none 0 0] 29)))
       have HKN := Lib.hid (Blk.new w2 29 #[.int .i64 0, .int .i64 0, .int .i64 0, .int .i64 0, .int .i64 0, .int .i64 0, .bool false, .int .i64 0, .int .i64 0, .int .i64 0, .int .i64 0, .slice none 0 0, .int .i64 0, .int .i64 0, .slice none 0 0, .slice none 0 0, .int .i64 0, .int .i64 0, .int .i64 0, .int .i64 0, .int .i64 0, .slice none 0 0, .slice none 0 0, .slice none 0 0])
       have HKO := Lib.hid (HK2.out.alloc (.cells #[.int .i64 0, .int .i64 0, .int .i64 0, .int .i64 0, .int .i64 0, .int .i64 0, .bool false, .int .i64 0, .int .i64 0, .int .i64 0, .int .i64 0, .slice none 0 0, .int .i64 0, .int .i64 0, .slice none 0 0, .slice none 0 0, .int .i64 0, .int .i64 0, .int .i64 0, .int .i64 0, .int .i64 0, .slice none 0 0, .slice none 0 0, .slice none 0 0] 29))
       have HSZ : Hid (w1.heap.size ≤ w2.heap.size) := Lib.hid ho2.size
       clear ho hr2 ho2 HC3)
    | (refine wpList_store_row rfl 29 (.tmp 5) (.tmp 12) rfl w2.heap.size #[.int .i64 M.kind, .int .i64 M.frm, .int .i64 M.dst, .int .i64 M.view, .int .i64 M.inst, .int .i64 M.len, .bool M.has, .int .i64 M.mem, .int .i64 M.src, .int .i64 M.pos, .int .i64 M.tot, .slice a.Ad M.data.length a.cd, .int .i64 M.hop, .int .i64 M.seq, .slice a.Ah M.hav.length a.ch, .slice a.An M.nee.length a.cn, .int .i64 M.idx, .int .i64 M.ent.s, .int .i64 M.ent.q, .int .i64 M.ent.c.kind, .int .i64 M.ent.c.who, .slice a.c.Ak M.ent.c.key.length a.c.ck, .slice a.c.Av M.ent.c.val.length a.c.cv, .slice a.c.Ao M.ent.c.old.length a.c.co] rfl rfl 29 #[.int .i64 0, .int .i64 0, .int .i64 0, .int .i64 0, .int .i64 0, .int .i64 0, .bool false, .int .i64 0, .int .i64 0, .int .i64 0, .int .i64 0, .slice none 0 0, .int .i64 0, .int .i64 0, .slice none 0 0, .slice none 0 0, .int .i64 0, .int .i64 0, .int .i64 0, .int .i64 0, .int .i64 0, .slice none 0 0, .slice none 0 0, .slice none 0 0] HKN.out (by kernel_rfl) rfl (by kernel_rfl) ?_)
    | fail)
  have hz1 : w1.heap.size ≤ w2.heap.size := HSZ.out
  have hgw : g < w1.heap.size := by have := HGZ.out; have := HB1.out.size; omega
  have HRG := Lib.hid (HRG.out.rowS HKN.out (cs := #[.int .i64 M.kind, .int .i64 M.frm, .int .i64 M.dst, .int .i64 M.view, .int .i64 M.inst, .int .i64 M.len, .bool M.has, .int .i64 M.mem, .int .i64 M.src, .int .i64 M.pos, .int .i64 M.tot, .slice a.Ad M.data.length a.cd, .int .i64 M.hop, .int .i64 M.seq, .slice a.Ah M.hav.length a.ch, .slice a.An M.nee.length a.cn, .int .i64 M.idx, .int .i64 M.ent.s, .int .i64 M.ent.q, .int .i64 M.ent.c.kind, .int .i64 M.ent.c.who, .slice a.c.Ak M.ent.c.key.length a.c.ck, .slice a.c.Av M.ent.c.val.length a.c.cv, .slice a.c.Ao M.ent.c.old.length a.c.co]) (by decide) (by decide) hz1)
  have HOW := Lib.hid (HOW.out.rowS HKN.out (cs := #[.int .i64 M.kind, .int .i64 M.frm, .int .i64 M.dst, .int .i64 M.view, .int .i64 M.inst, .int .i64 M.len, .bool M.has, .int .i64 M.mem, .int .i64 M.src, .int .i64 M.pos, .int .i64 M.tot, .slice a.Ad M.data.length a.cd, .int .i64 M.hop, .int .i64 M.seq, .slice a.Ah M.hav.length a.ch, .slice a.An M.nee.length a.cn, .int .i64 M.idx, .int .i64 M.ent.s, .int .i64 M.ent.q, .int .i64 M.ent.c.kind, .int .i64 M.ent.c.who, .slice a.c.Ak M.ent.c.key.length a.c.ck, .slice a.c.Av M.ent.c.val.length a.c.cv, .slice a.c.Ao M.ent.c.old.length a.c.co]) (by decide) (by decide))
  have HKO := Lib.hid (HKO.out.row_other (g := w2.heap.size) (by omega) #[.int .i64 M.kind, .int .i64 M.frm, .int .i64 M.dst, .int .i64 M.view, .int .i64 M.inst, .int .i64 M.len, .bool M.has, .int .i64 M.mem, .int .i64 M.src, .int .i64 M.pos, .int .i64 M.tot, .slice a.Ad M.data.length a.cd, .int .i64 M.hop, .int .i64 M.seq, .slice a.Ah M.hav.length a.ch, .slice a.An M.nee.length a.cn, .int .i64 M.idx, .int .i64 M.ent.s, .int .i64 M.ent.q, .int .i64 M.ent.c.kind, .int .i64 M.ent.c.who, .slice a.c.Ak M.ent.c.key.length a.c.ck, .slice a.c.Av M.ent.c.val.length a.c.cv, .slice a.c.Ao M.ent.c.old.length a.c.co])
  have HKN := Lib.hid (HKN.out.row #[.int .i64 M.kind, .int .i64 M.frm, .int .i64 M.dst, .int .i64 M.view, .int .i64 M.inst, .int .i64 M.len, .bool M.has, .int .i64 M.mem, .int .i64 M.src, .int .i64 M.pos, .int .i64 M.tot, .slice a.Ad M.data.length a.cd, .int .i64 M.hop, .int .i64 M.seq, .slice a.Ah M.hav.length a.ch, .slice a.An M.nee.length a.cn, .int .i64 M.idx, .int .i64 M.ent.s, .int .i64 M.ent.q, .int .i64 M.ent.c.kind, .int .i64 M.ent.c.who, .slice a.c.Ak M.ent.c.key.length a.c.ck, .slice a.c.Av M.ent.c.val.length a.c.cv, .slice a.c.Ao M.ent.c.old.length a.c.co])
  obtain ⟨g5, hg5⟩ : ∃ x, w2.heap.size = x := ⟨_, rfl⟩
  rw [hg5] at HRG HOW HKO HKN hz1 ⊢
  clear HK2 hg5 HSZ
  generalize (w2.alloc (.cells #[.int .i64 0, .int .i64 0, .int .i64 0, .int .i64 0, .int .i64 0, .int .i64 0, .bool false, .int .i64 0, .int .i64 0, .int .i64 0, .int .i64 0, .slice none 0 0, .int .i64 0, .int .i64 0, .slice none 0 0, .slice none 0 0, .int .i64 0, .int .i64 0, .int .i64 0, .int .i64 0, .int .i64 0, .slice none 0 0, .slice none 0 0, .slice none 0 0] 29)).setRow g5 #[.int .i64 M.kind, .int .i64 M.frm, .int .i64 M.dst, .int .i64 M.view, .int .i64 M.inst, .int .i64 M.len, .bool M.has, .int .i64 M.mem, .int .i64 M.src, .int .i64 M.pos, .int .i64 M.tot, .slice a.Ad M.data.length a.cd, .int .i64 M.hop, .int .i64 M.seq, .slice a.Ah M.hav.length a.ch, .slice a.An M.nee.length a.cn, .int .i64 M.idx, .int .i64 M.ent.s, .int .i64 M.ent.q, .int .i64 M.ent.c.kind, .int .i64 M.ent.c.who, .slice a.c.Ak M.ent.c.key.length a.c.ck, .slice a.c.Av M.ent.c.val.length a.c.cv, .slice a.c.Ao M.ent.c.old.length a.c.co] = w3 at HRG HOW HKO HKN ⊢
  have HE := Lib.hid (end_any w3 b3 s' HRG.out.r)
  have x0 : w3.cell? ⟨g5, 0, none⟩ = some (.int .i64 M.kind) := HKN.out.cell 0
  have hend : ∀ (X : Option Mg) (aX : GA) (mX : Mg) (cs : Array Value), X.getD Mg.zero = mX → cs = msgC aX mX → OwnG w1 w3 aX mX → GotG w w X (.returned (.tuple #[.agg cs, .bool X.isSome])) (w3.setRow g cs) := by
    intro X aX mX cs h1 h2 h3
    have hw1 : Below w.heap.size w w1 := HB.out.trans (HB1.out.mono HB.out.size)
    have hbel : Below w.heap.size w w3 := hw1.grown HRG.out.only hw1.size (fun k hk => by injection hk with hk; have := HB.out.size; omega)
    have hbr : Below w.heap.size w (w3.setRow g cs) := below_setRow hbel (by rw [HG.out]; exact Nat.le_refl _) cs
    refine ⟨aX, by rw [h1, h2]; rfl, ?_, hbr, hbr⟩
    rw [h1]
    exact (h3.rowS HKO.out (by decide) (by decide)).of hw1.size
  have HEND := Lib.hid hend
  clear hend
  by_cases h0 : M.kind = 0
  · have r0 : (M.kind == 0) = true := by simpa using h0
    have hr : Mg.dec l = none := by rw [HR.out, if_neg (fun h => h.1 h0)]
    clear h0
    go_wp2_with (first
      | (refine wpList_store_row rfl 29 (.tmp 2) (.tmp 21) rfl g #[.int .i64 0, .int .i64 0, .int .i64 0, .int .i64 0, .int .i64 0, .int .i64 0, .bool false, .int .i64 0, .int .i64 0, .int .i64 0, .int .i64 0, .slice none 0 0, .int .i64 0, .int .i64 0, .slice none 0 0, .slice none 0 0, .int .i64 0, .int .i64 0, .int .i64 0, .int .i64 0, .int .i64 0, .slice none 0 0, .slice none 0 0, .slice none 0 0] rfl rfl 29 msgZ HKO.out (by kernel_rfl) rfl (by kernel_rfl) ?_)
      | fail)
    refine bodyPost_ret (results_cell_tmp rfl _ _ _ _ _ _ rfl (HKO.out.row #[.int .i64 0, .int .i64 0, .int .i64 0, .int .i64 0, .int .i64 0, .int .i64 0, .bool false, .int .i64 0, .int .i64 0, .int .i64 0, .int .i64 0, .slice none 0 0, .int .i64 0, .int .i64 0, .slice none 0 0, .slice none 0 0, .int .i64 0, .int .i64 0, .int .i64 0, .int .i64 0, .int .i64 0, .slice none 0 0, .slice none 0 0, .slice none 0 0]) Try.underlying29 rfl (by kernel_rfl)) rfl ?_
    rw [hr]
    exact HEND.out none GA.zero Mg.zero _ rfl rfl (OwnG.zero _ _)
  · have r0 : (M.kind == 0) = false := by simpa using h0
    by_cases h1 : s' = some []
    · have hr : Mg.dec l = some M := by rw [HR.out, if_pos ⟨h0, h1⟩]
      have he : Pk.endOf s' = true := by rw [h1]; rfl
      rw [he] at HE
      clear h0 h1 he
      go_wp2_with (first
        | (go_at_call 17; refine HE.out.mono ?_; rintro en wq ⟨rfl, rfl⟩)
        | (refine wpList_load_row rfl 29 (.tmp 5) rfl g5 rfl 29 #[.int .i64 M.kind, .int .i64 M.frm, .int .i64 M.dst, .int .i64 M.view, .int .i64 M.inst, .int .i64 M.len, .bool M.has, .int .i64 M.mem, .int .i64 M.src, .int .i64 M.pos, .int .i64 M.tot, .slice a.Ad M.data.length a.cd, .int .i64 M.hop, .int .i64 M.seq, .slice a.Ah M.hav.length a.ch, .slice a.An M.nee.length a.cn, .int .i64 M.idx, .int .i64 M.ent.s, .int .i64 M.ent.q, .int .i64 M.ent.c.kind, .int .i64 M.ent.c.who, .slice a.c.Ak M.ent.c.key.length a.c.ck, .slice a.c.Av M.ent.c.val.length a.c.cv, .slice a.c.Ao M.ent.c.old.length a.c.co] (0, 0) _ HKN.out Try.underlying29 rfl (by kernel_rfl) ?_)
        | (refine wpList_store_row rfl 29 (.tmp 2) (.tmp 22) rfl g #[.int .i64 M.kind, .int .i64 M.frm, .int .i64 M.dst, .int .i64 M.view, .int .i64 M.inst, .int .i64 M.len, .bool M.has, .int .i64 M.mem, .int .i64 M.src, .int .i64 M.pos, .int .i64 M.tot, .slice a.Ad M.data.length a.cd, .int .i64 M.hop, .int .i64 M.seq, .slice a.Ah M.hav.length a.ch, .slice a.An M.nee.length a.cn, .int .i64 M.idx, .int .i64 M.ent.s, .int .i64 M.ent.q, .int .i64 M.ent.c.kind, .int .i64 M.ent.c.who, .slice a.c.Ak M.ent.c.key.length a.c.ck, .slice a.c.Av M.ent.c.val.length a.c.cv, .slice a.c.Ao M.ent.c.old.length a.c.co] rfl rfl 29 msgZ HKO.out (by kernel_rfl) rfl (by kernel_rfl) ?_)
        | fail)
      refine bodyPost_ret (results_cell_tmp rfl _ _ _ _ _ _ rfl (HKO.out.row #[.int .i64 M.kind, .int .i64 M.frm, .int .i64 M.dst, .int .i64 M.view, .int .i64 M.inst, .int .i64 M.len, .bool M.has, .int .i64 M.mem, .int .i64 M.src, .int .i64 M.pos, .int .i64 M.tot, .slice a.Ad M.data.length a.cd, .int .i64 M.hop, .int .i64 M.seq, .slice a.Ah M.hav.length a.ch, .slice a.An M.nee.length a.cn, .int .i64 M.idx, .int .i64 M.ent.s, .int .i64 M.ent.q, .int .i64 M.ent.c.kind, .int .i64 M.ent.c.who, .slice a.c.Ak M.ent.c.key.length a.c.ck, .slice a.c.Av M.ent.c.val.length a.c.cv, .slice a.c.Ao M.ent.c.old.length a.c.co]) Try.underlying29 rfl (by kernel_rfl)) rfl ?_
      rw [hr]
      exact HEND.out (some M) a M _ rfl rfl HOW.out
    · have hr : Mg.dec l = none := by rw [HR.out, if_neg (fun h => h1 h.2)]
      have he : Pk.endOf s' = false := by
        cases s' with
        | none => rfl
        | some x => cases x with
          | nil => exact absurd rfl h1
          | cons y z => rfl
      rw [he] at HE
      clear h0 h1 he
      go_wp2_with (first
        | (go_at_call 17; refine HE.out.mono ?_; rintro en wq ⟨rfl, rfl⟩)
        | (refine wpList_store_row rfl 29 (.tmp 2) (.tmp 21) rfl g #[.int .i64 0, .int .i64 0, .int .i64 0, .int .i64 0, .int .i64 0, .int .i64 0, .bool false, .int .i64 0, .int .i64 0, .int .i64 0, .int .i64 0, .slice none 0 0, .int .i64 0, .int .i64 0, .slice none 0 0, .slice none 0 0, .int .i64 0, .int .i64 0, .int .i64 0, .int .i64 0, .int .i64 0, .slice none 0 0, .slice none 0 0, .slice none 0 0] rfl rfl 29 msgZ HKO.out (by kernel_rfl) rfl (by kernel_rfl) ?_)
        | fail)
      refine bodyPost_ret (results_cell_tmp rfl _ _ _ _ _ _ rfl (HKO.out.row #[.int .i64 0, .int .i64 0, .int .i64 0, .int .i64 0, .int .i64 0, .int .i64 0, .bool false, .int .i64 0, .int .i64 0, .int .i64 0, .int .i64 0, .slice none 0 0, .int .i64 0, .int .i64 0, .slice none 0 0, .slice none 0 0, .int .i64 0, .int .i64 0, .int .i64 0, .int .i64 0, .int .i64 0, .slice none 0 0, .slice none 0 0, .slice none 0 0]) Try.underlying29 rfl (by kernel_rfl)) rfl ?_
      rw [hr]
      exact HEND.out none GA.zero Mg.zero _ rfl rfl (OwnG.zero _ _)
theorem decode11 : DecodeC11 := fun hl hb hr hB => (decode11_raw hl hb hr).mono fun e w' h => GotG.of hB h
end Go.Proofs.Ytijcbbommaeejaa

namespace Go.Proofs.Ytijcbbommaeejaa
open Go.RowKit
set_option linter.unusedVariables false
set_option maxHeartbeats 8000000 in
set_option maxRecDepth 100000 in
theorem same11 (w : World) {a a' : GA} {m m' : Mg} {B B' : Nat} (hM : m.Wide) (hM' : m'.Wide) (h : RdG w B a m) (h' : RdG w B' a' m') : Calls Try.prog 13 #[msgV a m, msgV a' m'] w fun e w' => e = .returned (.bool (decide (m = m'))) ∧ Below w.heap.size w w' := by
  obtain ⟨wa, hwa⟩ : ∃ x, (w.alloc (.cells #[.int .i64 m.kind, .int .i64 m.frm, .int .i64 m.dst, .int .i64 m.view, .int .i64 m.inst, .int .i64 m.len, .bool m.has, .int .i64 m.mem, .int .i64 m.src, .int .i64 m.pos, .int .i64 m.tot, .slice a.Ad m.data.length a.cd, .int .i64 m.hop, .int .i64 m.seq, .slice a.Ah m.hav.length a.ch, .slice a.An m.nee.length a.cn, .int .i64 m.idx, .int .i64 m.ent.s, .int .i64 m.ent.q, .int .i64 m.ent.c.kind, .int .i64 m.ent.c.who, .slice a.c.Ak m.ent.c.key.length a.c.ck, .slice a.c.Av m.ent.c.val.length a.c.cv, .slice a.c.Ao m.ent.c.old.length a.c.co] 29)).alloc (.cells #[.int .i64 m'.kind, .int .i64 m'.frm, .int .i64 m'.dst, .int .i64 m'.view, .int .i64 m'.inst, .int .i64 m'.len, .bool m'.has, .int .i64 m'.mem, .int .i64 m'.src, .int .i64 m'.pos, .int .i64 m'.tot, .slice a'.Ad m'.data.length a'.cd, .int .i64 m'.hop, .int .i64 m'.seq, .slice a'.Ah m'.hav.length a'.ch, .slice a'.An m'.nee.length a'.cn, .int .i64 m'.idx, .int .i64 m'.ent.s, .int .i64 m'.ent.q, .int .i64 m'.ent.c.kind, .int .i64 m'.ent.c.who, .slice a'.c.Ak m'.ent.c.key.length a'.c.ck, .slice a'.c.Av m'.ent.c.val.length a'.c.cv, .slice a'.c.Ao m'.ent.c.old.length a'.c.co] 29) = x := ⟨_, rfl⟩
  have bb : Below w.heap.size w wa := by rw [← hwa]; exact ((Below.refl _ _).alloc (Nat.le_refl _) _).alloc (by rw [World.size_alloc]; omega) _
  obtain ⟨g, hg⟩ : ∃ g, w.heap.size = g := ⟨_, rfl⟩
  have k1 : Blk wa g 29 #[.int .i64 m.kind, .int .i64 m.frm, .int .i64 m.dst, .int .i64 m.view, .int .i64 m.inst, .int .i64 m.len, .bool m.has, .int .i64 m.mem, .int .i64 m.src, .int .i64 m.pos, .int .i64 m.tot, .slice a.Ad m.data.length a.cd, .int .i64 m.hop, .int .i64 m.seq, .slice a.Ah m.hav.length a.ch, .slice a.An m.nee.length a.cn, .int .i64 m.idx, .int .i64 m.ent.s, .int .i64 m.ent.q, .int .i64 m.ent.c.kind, .int .i64 m.ent.c.who, .slice a.c.Ak m.ent.c.key.length a.c.ck, .slice a.c.Av m.ent.c.val.length a.c.cv, .slice a.c.Ao m.ent.c.old.length a.c.co] := by rw [← hwa, ← hg]; exact (Blk.new _ _ _).alloc _
  have k2 : Blk wa (g + 1) 29 #[.int .i64 m'.kind, .int .i64 m'.frm, .int .i64 m'.dst, .int .i64 m'.view, .int .i64 m'.inst, .int .i64 m'.len, .bool m'.has, .int .i64 m'.mem, .int .i64 m'.src, .int .i64 m'.pos, .int .i64 m'.tot, .slice a'.Ad m'.data.length a'.cd, .int .i64 m'.hop, .int .i64 m'.seq, .slice a'.Ah m'.hav.length a'.ch, .slice a'.An m'.nee.length a'.cn, .int .i64 m'.idx, .int .i64 m'.ent.s, .int .i64 m'.ent.q, .int .i64 m'.ent.c.kind, .int .i64 m'.ent.c.who, .slice a'.c.Ak m'.ent.c.key.length a'.c.ck, .slice a'.c.Av m'.ent.c.val.length a'.c.cv, .slice a'.c.Ao m'.ent.c.old.length a'.c.co] := by
    rw [← hwa, ← hg]
    have := Blk.new (w.alloc (.cells #[.int .i64 m.kind, .int .i64 m.frm, .int .i64 m.dst, .int .i64 m.view, .int .i64 m.inst, .int .i64 m.len, .bool m.has, .int .i64 m.mem, .int .i64 m.src, .int .i64 m.pos, .int .i64 m.tot, .slice a.Ad m.data.length a.cd, .int .i64 m.hop, .int .i64 m.seq, .slice a.Ah m.hav.length a.ch, .slice a.An m.nee.length a.cn, .int .i64 m.idx, .int .i64 m.ent.s, .int .i64 m.ent.q, .int .i64 m.ent.c.kind, .int .i64 m.ent.c.who, .slice a.c.Ak m.ent.c.key.length a.c.ck, .slice a.c.Av m.ent.c.val.length a.c.cv, .slice a.c.Ao m.ent.c.old.length a.c.co] 29)) 29 #[.int .i64 m'.kind, .int .i64 m'.frm, .int .i64 m'.dst, .int .i64 m'.view, .int .i64 m'.inst, .int .i64 m'.len, .bool m'.has, .int .i64 m'.mem, .int .i64 m'.src, .int .i64 m'.pos, .int .i64 m'.tot, .slice a'.Ad m'.data.length a'.cd, .int .i64 m'.hop, .int .i64 m'.seq, .slice a'.Ah m'.hav.length a'.ch, .slice a'.An m'.nee.length a'.cn, .int .i64 m'.idx, .int .i64 m'.ent.s, .int .i64 m'.ent.q, .int .i64 m'.ent.c.kind, .int .i64 m'.ent.c.who, .slice a'.c.Ak m'.ent.c.key.length a'.c.ck, .slice a'.c.Av m'.ent.c.val.length a'.c.cv, .slice a'.c.Ao m'.ent.c.old.length a'.c.co]
    rwa [World.size_alloc] at this
  have HB := Lib.hid bb
  have HWA := Lib.hid hwa
  have HG := Lib.hid hg
  have R := h.fit.below bb
  have R' := h'.fit.below bb
  obtain ⟨D0, d0⟩ : ∃ D : Bool, decide (m.kind = m'.kind) = D := ⟨_, rfl⟩
  obtain ⟨D1, d1⟩ : ∃ D : Bool, decide (m.frm = m'.frm) = D := ⟨_, rfl⟩
  obtain ⟨D2, d2⟩ : ∃ D : Bool, decide (m.dst = m'.dst) = D := ⟨_, rfl⟩
  obtain ⟨D3, d3⟩ : ∃ D : Bool, decide (m.view = m'.view) = D := ⟨_, rfl⟩
  obtain ⟨D4, d4⟩ : ∃ D : Bool, decide (m.inst = m'.inst) = D := ⟨_, rfl⟩
  obtain ⟨D5, d5⟩ : ∃ D : Bool, decide (m.len = m'.len) = D := ⟨_, rfl⟩
  obtain ⟨D6, d6⟩ : ∃ D : Bool, decide (m.has = m'.has) = D := ⟨_, rfl⟩
  obtain ⟨D7, d7⟩ : ∃ D : Bool, decide (m.mem = m'.mem) = D := ⟨_, rfl⟩
  obtain ⟨D8, d8⟩ : ∃ D : Bool, decide (m.src = m'.src) = D := ⟨_, rfl⟩
  obtain ⟨D9, d9⟩ : ∃ D : Bool, decide (m.pos = m'.pos) = D := ⟨_, rfl⟩
  obtain ⟨D10, d10⟩ : ∃ D : Bool, decide (m.tot = m'.tot) = D := ⟨_, rfl⟩
  obtain ⟨D11, d11⟩ : ∃ D : Bool, decide (m.data = m'.data) = D := ⟨_, rfl⟩
  obtain ⟨D12, d12⟩ : ∃ D : Bool, decide (m.hop = m'.hop) = D := ⟨_, rfl⟩
  obtain ⟨D13, d13⟩ : ∃ D : Bool, decide (m.seq = m'.seq) = D := ⟨_, rfl⟩
  obtain ⟨D14, d14⟩ : ∃ D : Bool, decide (m.hav = m'.hav) = D := ⟨_, rfl⟩
  obtain ⟨D15, d15⟩ : ∃ D : Bool, decide (m.nee = m'.nee) = D := ⟨_, rfl⟩
  obtain ⟨D16, d16⟩ : ∃ D : Bool, decide (m.idx = m'.idx) = D := ⟨_, rfl⟩
  obtain ⟨D17, d17⟩ : ∃ D : Bool, decide (m.ent = m'.ent) = D := ⟨_, rfl⟩
  have HD : Hid (decide (m = m') = (D0 && (D1 && (D2 && (D3 && (D4 && (D5 && (D6 && (D7 && (D8 && (D9 && (D10 && (D11 && (D12 && (D13 && (D14 && (D15 && (D16 && D17)))))))))))))))))) := Lib.hid (by
    rw [← d0, ← d1, ← d2, ← d3, ← d4, ← d5, ← d6, ← d7, ← d8, ← d9, ← d10, ← d11, ← d12, ← d13, ← d14, ← d15, ← d16, ← d17, Bool.eq_iff_iff]
    simp only [decide_eq_true_eq, Bool.and_eq_true, Mg.eq_iff])
  have r0 : (m.kind == m'.kind) = D0 := by rw [← d0, Bool.eq_iff_iff]; simp
  have r1 : (m.frm == m'.frm) = D1 := by rw [← d1, Bool.eq_iff_iff]; simp
  have r2 : (m.dst == m'.dst) = D2 := by rw [← d2, Bool.eq_iff_iff]; simp
  have r3 : (m.view == m'.view) = D3 := by rw [← d3, Bool.eq_iff_iff]; simp
  have r4 : (m.inst == m'.inst) = D4 := by rw [← d4, Bool.eq_iff_iff]; simp
  have r5 : (m.len == m'.len) = D5 := by rw [← d5, Bool.eq_iff_iff]; simp
  have r6 : (m.has == m'.has) = D6 := by rw [← d6, Bool.eq_iff_iff]; simp
  have r7 : (m.mem == m'.mem) = D7 := by rw [← d7, Bool.eq_iff_iff]; simp
  have r8 : (m.src == m'.src) = D8 := by rw [← d8, Bool.eq_iff_iff]; simp
  have r9 : (m.pos == m'.pos) = D9 := by rw [← d9, Bool.eq_iff_iff]; simp
  have r10 : (m.tot == m'.tot) = D10 := by rw [← d10, Bool.eq_iff_iff]; simp
  have r12 : (m.hop == m'.hop) = D12 := by rw [← d12, Bool.eq_iff_iff]; simp
  have r13 : (m.seq == m'.seq) = D13 := by rw [← d13, Bool.eq_iff_iff]; simp
  have r16 : (m.idx == m'.idx) = D16 := by rw [← d16, Bool.eq_iff_iff]; simp
  rw [HD.out]
  have CD : Hid (∀ wx, Below wa.heap.size wa wx → Calls Try.prog 25 #[.slice a.Ad m.data.length a.cd, .slice a'.Ad m'.data.length a'.cd] wx fun e w' => e = .returned (.bool D11) ∧ w' = wx) := Lib.hid (fun wx hb => by rw [← d11]; exact equal_any wx _ _ _ _ _ _ _ _ _ _ hM.d.2 hM'.d.2 (R.d.fit.below hb) (R'.d.fit.below hb))
  have CH : Hid (∀ wx, Below wa.heap.size wa wx → Calls Try.prog 26 #[.slice a.Ah m.hav.length a.ch, .slice a'.Ah m'.hav.length a'.ch] wx fun e w' => e = .returned (.bool D14) ∧ Below wx.heap.size wx w') := Lib.hid (fun wx hb => by rw [← d14]; exact equalI_any wx _ _ _ _ _ _ _ _ _ _ (R.h.fit.below hb) (R'.h.fit.below hb) (Nat.le_trans hM.h (by unfold maxLen; omega)) (Nat.le_trans hM'.h (by unfold maxLen; omega)))
  have CN : Hid (∀ wx, Below wa.heap.size wa wx → Calls Try.prog 26 #[.slice a.An m.nee.length a.cn, .slice a'.An m'.nee.length a'.cn] wx fun e w' => e = .returned (.bool D15) ∧ Below wx.heap.size wx w') := Lib.hid (fun wx hb => by rw [← d15]; exact equalI_any wx _ _ _ _ _ _ _ _ _ _ (R.n.fit.below hb) (R'.n.fit.below hb) (Nat.le_trans hM.n (by unfold maxLen; omega)) (Nat.le_trans hM'.n (by unfold maxLen; omega)))
  have CE : Hid (∀ wx, Below wa.heap.size wa wx → Calls Try.prog 27 #[.agg #[.int .i64 m.ent.s, .int .i64 m.ent.q, .int .i64 m.ent.c.kind, .int .i64 m.ent.c.who, .slice a.c.Ak m.ent.c.key.length a.c.ck, .slice a.c.Av m.ent.c.val.length a.c.cv, .slice a.c.Ao m.ent.c.old.length a.c.co], .agg #[.int .i64 m'.ent.s, .int .i64 m'.ent.q, .int .i64 m'.ent.c.kind, .int .i64 m'.ent.c.who, .slice a'.c.Ak m'.ent.c.key.length a'.c.ck, .slice a'.c.Av m'.ent.c.val.length a'.c.cv, .slice a'.c.Ao m'.ent.c.old.length a'.c.co]] wx fun e w' => e = .returned (.bool D17) ∧ Below wx.heap.size wx w') := Lib.hid (fun wx hb => by rw [← d17]; exact sameEW wx hM.c hM'.c (R.c.fit.below hb) (R'.c.fit.below hb))
  have HF : Hid (∀ wx, Below wa.heap.size wa wx → Blk wx g 29 #[.int .i64 m.kind, .int .i64 m.frm, .int .i64 m.dst, .int .i64 m.view, .int .i64 m.inst, .int .i64 m.len, .bool m.has, .int .i64 m.mem, .int .i64 m.src, .int .i64 m.pos, .int .i64 m.tot, .slice a.Ad m.data.length a.cd, .int .i64 m.hop, .int .i64 m.seq, .slice a.Ah m.hav.length a.ch, .slice a.An m.nee.length a.cn, .int .i64 m.idx, .int .i64 m.ent.s, .int .i64 m.ent.q, .int .i64 m.ent.c.kind, .int .i64 m.ent.c.who, .slice a.c.Ak m.ent.c.key.length a.c.ck, .slice a.c.Av m.ent.c.val.length a.c.cv, .slice a.c.Ao m.ent.c.old.length a.c.co] ∧ Blk wx (g + 1) 29 #[.int .i64 m'.kind, .int .i64 m'.frm, .int .i64 m'.dst, .int .i64 m'.view, .int .i64 m'.inst, .int .i64 m'.len, .bool m'.has, .int .i64 m'.mem, .int .i64 m'.src, .int .i64 m'.pos, .int .i64 m'.tot, .slice a'.Ad m'.data.length a'.cd, .int .i64 m'.hop, .int .i64 m'.seq, .slice a'.Ah m'.hav.length a'.ch, .slice a'.An m'.nee.length a'.cn, .int .i64 m'.idx, .int .i64 m'.ent.s, .int .i64 m'.ent.q, .int .i64 m'.ent.c.kind, .int .i64 m'.ent.c.who, .slice a'.c.Ak m'.ent.c.key.length a'.c.ck, .slice a'.c.Av m'.ent.c.val.length a'.c.cv, .slice a'.c.Ao m'.ent.c.old.length a'.c.co]) := Lib.hid (fun wx hb => ⟨k1.below hb, k2.below hb⟩)
  clear h h' hM hM' bb k1 k2 R R' hwa hg HD d0 d1 d2 d3 d4 d5 d6 d7 d8 d9 d10 d11 d12 d13 d14 d15 d16 d17
  unfold msgV msgC
  go_enter Try.func13, Try.ntmps13
  go_upto_region 1 with fail
  rw [HG.out, HWA.out]
  have hS : Hid (Below wa.heap.size wa wa) := Lib.hid (Below.refl _ _)
  clear HWA
  go_cut [5] from 10 to 36 (fun s5 wx => s5 = .bool (D0 && (D1 && (D2 && D3))) ∧ Hid (Below wa.heap.size wa wx))
  case first =>
    obtain ⟨k1, k2⟩ := HF.out _ hS.out
    have x0 : wa.cell? ⟨g, 0, none⟩ = some (.int .i64 m.kind) := k1.cell 0
    have y0 : wa.cell? ⟨g + 1, 0, none⟩ = some (.int .i64 m'.kind) := k2.cell 0
    have x1 : wa.cell? ⟨g, 1, none⟩ = some (.int .i64 m.frm) := k1.cell 1
    have y1 : wa.cell? ⟨g + 1, 1, none⟩ = some (.int .i64 m'.frm) := k2.cell 1
    have x2 : wa.cell? ⟨g, 2, none⟩ = some (.int .i64 m.dst) := k1.cell 2
    have y2 : wa.cell? ⟨g + 1, 2, none⟩ = some (.int .i64 m'.dst) := k2.cell 2
    have x3 : wa.cell? ⟨g, 3, none⟩ = some (.int .i64 m.view) := k1.cell 3
    have y3 : wa.cell? ⟨g + 1, 3, none⟩ = some (.int .i64 m'.view) := k2.cell 3
    clear k1 k2
    cases D0 with
    | false =>
      go_wp2_with fail
      go_meet
      exact ⟨rfl, hS⟩
    | true =>
      cases D1 with
      | false =>
        go_wp2_with fail
        go_meet
        exact ⟨rfl, hS⟩
      | true =>
        cases D2 with
        | false =>
          go_wp2_with fail
          go_meet
          exact ⟨rfl, hS⟩
        | true =>
          cases D3 with
          | false =>
            go_wp2_with fail
            go_meet
            exact ⟨rfl, hS⟩
          | true =>
            go_wp2_with fail
            go_meet
            exact ⟨rfl, hS⟩
  case rest =>
  obtain ⟨rfl, hS⟩ := hcut
  rename World => wb1
  obtain ⟨E1, e1⟩ : ∃ E : Bool, (D0 && (D1 && (D2 && D3))) = E := ⟨_, rfl⟩
  rw [e1]
  have HE1 := Lib.hid e1
  clear e1
  go_upto_region 2 with fail
  go_cut [6] from 36 to 69 (fun s6 wx => s6 = .bool (D4 && (D5 && (D6 && (D7 && D8)))) ∧ Hid (Below wa.heap.size wa wx))
  case first =>
    obtain ⟨k1, k2⟩ := HF.out _ hS.out
    have x4 : wb1.cell? ⟨g, 4, none⟩ = some (.int .i64 m.inst) := k1.cell 4
    have y4 : wb1.cell? ⟨g + 1, 4, none⟩ = some (.int .i64 m'.inst) := k2.cell 4
    have x5 : wb1.cell? ⟨g, 5, none⟩ = some (.int .i64 m.len) := k1.cell 5
    have y5 : wb1.cell? ⟨g + 1, 5, none⟩ = some (.int .i64 m'.len) := k2.cell 5
    have x6 : wb1.cell? ⟨g, 6, none⟩ = some (.bool m.has) := k1.cell 6
    have y6 : wb1.cell? ⟨g + 1, 6, none⟩ = some (.bool m'.has) := k2.cell 6
    have x7 : wb1.cell? ⟨g, 7, none⟩ = some (.int .i64 m.mem) := k1.cell 7
    have y7 : wb1.cell? ⟨g + 1, 7, none⟩ = some (.int .i64 m'.mem) := k2.cell 7
    have x8 : wb1.cell? ⟨g, 8, none⟩ = some (.int .i64 m.src) := k1.cell 8
    have y8 : wb1.cell? ⟨g + 1, 8, none⟩ = some (.int .i64 m'.src) := k2.cell 8
    clear k1 k2
    cases D4 with
    | false =>
      go_wp2_with fail
      go_meet
      exact ⟨rfl, hS⟩
    | true =>
      cases D5 with
      | false =>
        go_wp2_with fail
        go_meet
        exact ⟨rfl, hS⟩
      | true =>
        cases D6 with
        | false =>
          go_wp2_with fail
          go_meet
          exact ⟨rfl, hS⟩
        | true =>
          cases D7 with
          | false =>
            go_wp2_with fail
            go_meet
            exact ⟨rfl, hS⟩
          | true =>
            cases D8 with
            | false =>
              go_wp2_with fail
              go_meet
              exact ⟨rfl, hS⟩
            | true =>
              go_wp2_with fail
              go_meet
              exact ⟨rfl, hS⟩
  case rest =>
  obtain ⟨rfl, hS⟩ := hcut
  rename World => wb2
  obtain ⟨E2, e2⟩ : ∃ E : Bool, (D4 && (D5 && (D6 && (D7 && D8)))) = E := ⟨_, rfl⟩
  rw [e2]
  have HE2 := Lib.hid e2
  clear e2
  go_upto_region 3 with fail
  go_cut [7] from 69 to 88 (fun s7 wx => s7 = .bool (D9 && (D10 && D11)) ∧ Hid (Below wa.heap.size wa wx))
  case first =>
    obtain ⟨k1, k2⟩ := HF.out _ hS.out
    have x9 : wb2.cell? ⟨g, 9, none⟩ = some (.int .i64 m.pos) := k1.cell 9
    have y9 : wb2.cell? ⟨g + 1, 9, none⟩ = some (.int .i64 m'.pos) := k2.cell 9
    have x10 : wb2.cell? ⟨g, 10, none⟩ = some (.int .i64 m.tot) := k1.cell 10
    have y10 : wb2.cell? ⟨g + 1, 10, none⟩ = some (.int .i64 m'.tot) := k2.cell 10
    have x11 : wb2.cell? ⟨g, 11, none⟩ = some (.slice a.Ad m.data.length a.cd) := k1.cell 11
    have y11 : wb2.cell? ⟨g + 1, 11, none⟩ = some (.slice a'.Ad m'.data.length a'.cd) := k2.cell 11
    clear k1 k2
    cases D9 with
    | false =>
      go_wp2_with (first
        | (go_at_call 25; refine (CD.out _ hS.out).mono ?_; rintro en w1 ⟨rfl, rfl⟩)
        | fail)
      go_meet
      exact ⟨rfl, hS⟩
    | true =>
      cases D10 with
      | false =>
        go_wp2_with (first
          | (go_at_call 25; refine (CD.out _ hS.out).mono ?_; rintro en w1 ⟨rfl, rfl⟩)
          | fail)
        go_meet
        exact ⟨rfl, hS⟩
      | true =>
        cases D11 with
        | false =>
          go_wp2_with (first
            | (go_at_call 25; refine (CD.out _ hS.out).mono ?_; rintro en w1 ⟨rfl, rfl⟩)
            | fail)
          go_meet
          exact ⟨rfl, hS⟩
        | true =>
          go_wp2_with (first
            | (go_at_call 25; refine (CD.out _ hS.out).mono ?_; rintro en w1 ⟨rfl, rfl⟩)
            | fail)
          go_meet
          exact ⟨rfl, hS⟩
  case rest =>
  obtain ⟨rfl, hS⟩ := hcut
  rename World => wb3
  obtain ⟨E3, e3⟩ : ∃ E : Bool, (D9 && (D10 && D11)) = E := ⟨_, rfl⟩
  rw [e3]
  have HE3 := Lib.hid e3
  clear e3
  go_upto_region 4 with fail
  go_cut [8] from 88 to 114 (fun s8 wx => s8 = .bool (D12 && (D13 && (D14 && D15))) ∧ Hid (Below wa.heap.size wa wx))
  case first =>
    obtain ⟨k1, k2⟩ := HF.out _ hS.out
    have x12 : wb3.cell? ⟨g, 12, none⟩ = some (.int .i64 m.hop) := k1.cell 12
    have y12 : wb3.cell? ⟨g + 1, 12, none⟩ = some (.int .i64 m'.hop) := k2.cell 12
    have x13 : wb3.cell? ⟨g, 13, none⟩ = some (.int .i64 m.seq) := k1.cell 13
    have y13 : wb3.cell? ⟨g + 1, 13, none⟩ = some (.int .i64 m'.seq) := k2.cell 13
    have x14 : wb3.cell? ⟨g, 14, none⟩ = some (.slice a.Ah m.hav.length a.ch) := k1.cell 14
    have y14 : wb3.cell? ⟨g + 1, 14, none⟩ = some (.slice a'.Ah m'.hav.length a'.ch) := k2.cell 14
    have x15 : wb3.cell? ⟨g, 15, none⟩ = some (.slice a.An m.nee.length a.cn) := k1.cell 15
    have y15 : wb3.cell? ⟨g + 1, 15, none⟩ = some (.slice a'.An m'.nee.length a'.cn) := k2.cell 15
    clear k1 k2
    cases D12 with
    | false =>
      go_wp2_with (first
        | (go_at_call 26; refine (CH.out _ hS.out).mono ?_; rintro en w1 ⟨rfl, hb1⟩
           have hS := Lib.hid (hS.out.trans (hb1.mono hS.out.size))
           obtain ⟨k1, k2⟩ := HF.out _ hS.out
           have x15 : w1.cell? ⟨g, 15, none⟩ = some (.slice a.An m.nee.length a.cn) := k1.cell 15
           have y15 : w1.cell? ⟨g + 1, 15, none⟩ = some (.slice a'.An m'.nee.length a'.cn) := k2.cell 15
           clear k1 k2 hb1 CH)
        | (go_at_call 26; refine (CN.out _ hS.out).mono ?_; rintro en w1 ⟨rfl, hb1⟩
           have hS := Lib.hid (hS.out.trans (hb1.mono hS.out.size))
           clear hb1 CN)
        | fail)
      go_meet
      exact ⟨rfl, hS⟩
    | true =>
      cases D13 with
      | false =>
        go_wp2_with (first
          | (go_at_call 26; refine (CH.out _ hS.out).mono ?_; rintro en w1 ⟨rfl, hb1⟩
             have hS := Lib.hid (hS.out.trans (hb1.mono hS.out.size))
             obtain ⟨k1, k2⟩ := HF.out _ hS.out
             have x15 : w1.cell? ⟨g, 15, none⟩ = some (.slice a.An m.nee.length a.cn) := k1.cell 15
             have y15 : w1.cell? ⟨g + 1, 15, none⟩ = some (.slice a'.An m'.nee.length a'.cn) := k2.cell 15
             clear k1 k2 hb1 CH)
          | (go_at_call 26; refine (CN.out _ hS.out).mono ?_; rintro en w1 ⟨rfl, hb1⟩
             have hS := Lib.hid (hS.out.trans (hb1.mono hS.out.size))
             clear hb1 CN)
          | fail)
        go_meet
        exact ⟨rfl, hS⟩
      | true =>
        cases D14 with
        | false =>
          go_wp2_with (first
            | (go_at_call 26; refine (CH.out _ hS.out).mono ?_; rintro en w1 ⟨rfl, hb1⟩
               have hS := Lib.hid (hS.out.trans (hb1.mono hS.out.size))
               obtain ⟨k1, k2⟩ := HF.out _ hS.out
               have x15 : w1.cell? ⟨g, 15, none⟩ = some (.slice a.An m.nee.length a.cn) := k1.cell 15
               have y15 : w1.cell? ⟨g + 1, 15, none⟩ = some (.slice a'.An m'.nee.length a'.cn) := k2.cell 15
               clear k1 k2 hb1 CH)
            | (go_at_call 26; refine (CN.out _ hS.out).mono ?_; rintro en w1 ⟨rfl, hb1⟩
               have hS := Lib.hid (hS.out.trans (hb1.mono hS.out.size))
               clear hb1 CN)
            | fail)
          go_meet
          exact ⟨rfl, hS⟩
        | true =>
          cases D15 with
          | false =>
            go_wp2_with (first
              | (go_at_call 26; refine (CH.out _ hS.out).mono ?_; rintro en w1 ⟨rfl, hb1⟩
                 have hS := Lib.hid (hS.out.trans (hb1.mono hS.out.size))
                 obtain ⟨k1, k2⟩ := HF.out _ hS.out
                 have x15 : w1.cell? ⟨g, 15, none⟩ = some (.slice a.An m.nee.length a.cn) := k1.cell 15
                 have y15 : w1.cell? ⟨g + 1, 15, none⟩ = some (.slice a'.An m'.nee.length a'.cn) := k2.cell 15
                 clear k1 k2 hb1 CH)
              | (go_at_call 26; refine (CN.out _ hS.out).mono ?_; rintro en w1 ⟨rfl, hb1⟩
                 have hS := Lib.hid (hS.out.trans (hb1.mono hS.out.size))
                 clear hb1 CN)
              | fail)
            go_meet
            exact ⟨rfl, hS⟩
          | true =>
            go_wp2_with (first
              | (go_at_call 26; refine (CH.out _ hS.out).mono ?_; rintro en w1 ⟨rfl, hb1⟩
                 have hS := Lib.hid (hS.out.trans (hb1.mono hS.out.size))
                 obtain ⟨k1, k2⟩ := HF.out _ hS.out
                 have x15 : w1.cell? ⟨g, 15, none⟩ = some (.slice a.An m.nee.length a.cn) := k1.cell 15
                 have y15 : w1.cell? ⟨g + 1, 15, none⟩ = some (.slice a'.An m'.nee.length a'.cn) := k2.cell 15
                 clear k1 k2 hb1 CH)
              | (go_at_call 26; refine (CN.out _ hS.out).mono ?_; rintro en w1 ⟨rfl, hb1⟩
                 have hS := Lib.hid (hS.out.trans (hb1.mono hS.out.size))
                 clear hb1 CN)
              | fail)
            go_meet
            exact ⟨rfl, hS⟩
  case rest =>
  obtain ⟨rfl, hS⟩ := hcut
  rename World => wb4
  obtain ⟨E4, e4⟩ : ∃ E : Bool, (D12 && (D13 && (D14 && D15))) = E := ⟨_, rfl⟩
  rw [e4]
  have HE4 := Lib.hid e4
  clear e4
  go_upto_region 5 with fail
  go_cut [9] from 114 to 126 (fun s9 wx => s9 = .bool (D16 && D17) ∧ Hid (Below wa.heap.size wa wx))
  case first =>
    obtain ⟨k1, k2⟩ := HF.out _ hS.out
    have x16 : wb4.cell? ⟨g, 16, none⟩ = some (.int .i64 m.idx) := k1.cell 16
    have y16 : wb4.cell? ⟨g + 1, 16, none⟩ = some (.int .i64 m'.idx) := k2.cell 16
    have x17 : wb4.cell? ⟨g, 17, none⟩ = some (.int .i64 m.ent.s) := k1.cell 17
    have y17 : wb4.cell? ⟨g + 1, 17, none⟩ = some (.int .i64 m'.ent.s) := k2.cell 17
    have x18 : wb4.cell? ⟨g, 18, none⟩ = some (.int .i64 m.ent.q) := k1.cell 18
    have y18 : wb4.cell? ⟨g + 1, 18, none⟩ = some (.int .i64 m'.ent.q) := k2.cell 18
    have x19 : wb4.cell? ⟨g, 19, none⟩ = some (.int .i64 m.ent.c.kind) := k1.cell 19
    have y19 : wb4.cell? ⟨g + 1, 19, none⟩ = some (.int .i64 m'.ent.c.kind) := k2.cell 19
    have x20 : wb4.cell? ⟨g, 20, none⟩ = some (.int .i64 m.ent.c.who) := k1.cell 20
    have y20 : wb4.cell? ⟨g + 1, 20, none⟩ = some (.int .i64 m'.ent.c.who) := k2.cell 20
    have x21 : wb4.cell? ⟨g, 21, none⟩ = some (.slice a.c.Ak m.ent.c.key.length a.c.ck) := k1.cell 21
    have y21 : wb4.cell? ⟨g + 1, 21, none⟩ = some (.slice a'.c.Ak m'.ent.c.key.length a'.c.ck) := k2.cell 21
    have x22 : wb4.cell? ⟨g, 22, none⟩ = some (.slice a.c.Av m.ent.c.val.length a.c.cv) := k1.cell 22
    have y22 : wb4.cell? ⟨g + 1, 22, none⟩ = some (.slice a'.c.Av m'.ent.c.val.length a'.c.cv) := k2.cell 22
    have x23 : wb4.cell? ⟨g, 23, none⟩ = some (.slice a.c.Ao m.ent.c.old.length a.c.co) := k1.cell 23
    have y23 : wb4.cell? ⟨g + 1, 23, none⟩ = some (.slice a'.c.Ao m'.ent.c.old.length a'.c.co) := k2.cell 23
    clear k1 k2
    cases D16 with
    | false =>
      go_wp2_with (first
        | (go_at_call 27; refine (CE.out _ hS.out).mono ?_; rintro en w1 ⟨rfl, hb1⟩; have hS := Lib.hid (hS.out.trans (hb1.mono hS.out.size)); clear hb1)
        | fail)
      go_meet
      exact ⟨rfl, hS⟩
    | true =>
      cases D17 with
      | false =>
        go_wp2_with (first
          | (go_at_call 27; refine (CE.out _ hS.out).mono ?_; rintro en w1 ⟨rfl, hb1⟩; have hS := Lib.hid (hS.out.trans (hb1.mono hS.out.size)); clear hb1)
          | fail)
        go_meet
        exact ⟨rfl, hS⟩
      | true =>
        go_wp2_with (first
          | (go_at_call 27; refine (CE.out _ hS.out).mono ?_; rintro en w1 ⟨rfl, hb1⟩; have hS := Lib.hid (hS.out.trans (hb1.mono hS.out.size)); clear hb1)
          | fail)
        go_meet
        exact ⟨rfl, hS⟩
  case rest =>
  obtain ⟨rfl, hS⟩ := hcut
  rename World => wb5
  obtain ⟨E5, e5⟩ : ∃ E : Bool, (D16 && D17) = E := ⟨_, rfl⟩
  rw [e5]
  have HE5 := Lib.hid e5
  clear e5
  have HALL : Hid ((D0 && (D1 && (D2 && (D3 && (D4 && (D5 && (D6 && (D7 && (D8 && (D9 && (D10 && (D11 && (D12 && (D13 && (D14 && (D15 && (D16 && D17))))))))))))))))) = (E1 && (E2 && (E3 && (E4 && E5))))) := Lib.hid (by rw [← HE1.out, ← HE2.out, ← HE3.out, ← HE4.out, ← HE5.out]; simp only [Bool.and_assoc])
  clear HE1 HE2 HE3 HE4 HE5
  cases E1 with
  | false =>
    go_wp2_with fail
    go_ret
    exact ⟨by rw [HALL.out]; rfl, HB.out.trans (hS.out.mono HB.out.size)⟩
  | true =>
    cases E2 with
    | false =>
      go_wp2_with fail
      go_ret
      exact ⟨by rw [HALL.out]; rfl, HB.out.trans (hS.out.mono HB.out.size)⟩
    | true =>
      cases E3 with
      | false =>
        go_wp2_with fail
        go_ret
        exact ⟨by rw [HALL.out]; rfl, HB.out.trans (hS.out.mono HB.out.size)⟩
      | true =>
        cases E4 with
        | false =>
          go_wp2_with fail
          go_ret
          exact ⟨by rw [HALL.out]; rfl, HB.out.trans (hS.out.mono HB.out.size)⟩
        | true =>
          cases E5 with
          | false =>
            go_wp2_with fail
            go_ret
            exact ⟨by rw [HALL.out]; rfl, HB.out.trans (hS.out.mono HB.out.size)⟩
          | true =>
            go_wp2_with fail
            go_ret
            exact ⟨by rw [HALL.out]; rfl, HB.out.trans (hS.out.mono HB.out.size)⟩
end Go.Proofs.Ytijcbbommaeejaa

namespace Go.Proofs.Ytijcbbommaeejaa
open Go.RowKit
set_option linter.unusedVariables false
namespace mesgA
def M1 : Mg := { Mg.zero with kind := 7, frm := 1, dst := 2, view := 300, hop := 4, seq := 5, hav := [5, 4], nee := [5] }
def M7 : Mg := { Mg.zero with kind := 1, frm := 7 }
theorem e1 : M1.enc = [7, 1, 2, 172, 2, 4, 5, 2, 5, 4, 1, 5] := by decide +kernel
theorem d1 : Mg.dec [7, 1, 2, 172, 2, 4, 5, 2, 5, 4, 1, 5] = some M1 := by decide +kernel
theorem d2 : Mg.dec ([7, 1, 2, 172, 2, 4, 5, 2, 5, 4, 1, 5] ++ [0]) = none := by decide +kernel
theorem e0 : Mg.zero.enc = [] := by decide +kernel
theorem e7 : M7.enc = [] := by decide +kernel
theorem n1 : decide (M1 = Mg.zero) = false := by decide +kernel
theorem w1 : M1.Wide := ⟨⟨by decide, by decide⟩, by decide, by decide, Cm.Fits.zero.wide⟩
theorem w7 : M7.Wide := ⟨⟨by decide, by decide⟩, by decide, by decide, Cm.Fits.zero.wide⟩
end mesgA
/-- a load of a whole block, where it is asked for -/
theorem wpList_load_rowG {P : Program} {ops : Array Oper} {rest : List Oper} {o : Oper} {a : Act} {w : World} {Q : Exit → Act → World → Prop} (hw : Region.wanted o (yielded ops a.tmps) = true) (ty : TypeId) (x : Operand) (ho : o.op = .load ty x)
    (g : Nat) (hx : a.eval x = .pointer (some ⟨g, 0, none⟩)) (t : TypeId) (cs : Array Value) (fr : Nat × Nat) (d : TypeDesc) (hg : w.heap[g]? = some (.cells cs t fr))
    (hu : P.underlying ty = some d) (hd : (match d with | .struct _ | .array _ _ => true | _ => false) = true) (hi : (P.info? ty).map (·.size) = some cs.size)
    (h : wpList P ops Q rest (a.put o.dst (.agg cs)) w) : wpList P ops Q (o :: rest) a w := by
  unfold wpList
  rw [if_pos hw]
  exact Or.inl (wp_load_row ty x ho g hx t cs fr d hg hu hd hi h)
/-- append of one byte; the row that it came of stays -/
theorem wpList_append_keep {W w : World} {ops : Array Oper} {rest : List Oper} {o : Oper} {a : Act} {Q : Exit → Act → World → Prop} (hg : o.guard = none) (s x : Operand)
    (ho : o.op = .call { callee := .builtin .append, args := #[s, x], argTypes := #[23, 23] })
    {A : Option Addr} {n c : Nat} {l : List Nat} (hs : a.eval s = .slice A n c) (hown : OwnB W w A n c l) {k y : Nat} (hx : a.eval x = .slice (some ⟨k, 0, none⟩) 1 1) (hr : w.cell? ⟨k, 0, none⟩ = some (.int .u8 (y : Int))) (hn : n ≤ 1000000) (hB : Below W.heap.size W w)
    (h : ∀ A2 c2 w2, OwnB W w2 A2 (n + 1) c2 (l ++ [y]) → Rd w2 w2.heap.size A n (bv l) → Below W.heap.size W w2 → w.grownBy w2 (Value.slice A n c).ownBlock → wpList Try.prog ops Q rest (a.put o.dst (.slice A2 (n + 1) c2)) w2) : wpList Try.prog ops Q (o :: rest) a w := by
  have hln := own_len hown
  have hbv : bv (l ++ [y]) = bv l ++ [.int .u8 (y : Int)] := by simp [bv]
  have hnew : ∀ j u, ([.int .u8 (y : Int)] : List Value)[j]? = some u → w.cell? ((⟨k, 0, none⟩ : Addr).add j) = some u := by
    intro j u hu
    cases j with
    | zero => simp at hu; subst hu; simpa [Addr.add] using hr
    | succ j => simp at hu
  obtain ⟨ht, hz, hu⟩ := cellB
  cases hi : Try.prog.info? 5 with
  | none => rw [hi] at hz; cases hz
  | some i =>
  rw [hi] at hz
  have hz' : i.zero = some (.int .u8 0) ∧ i.size = 1 ∧ i.bytes = 1 := by simpa using hz
  by_cases hfit : n + 1 ≤ c
  · rcases hown.2 with ⟨h1, _⟩ | ⟨g, cap, cur, h1, hrest⟩
    · injection h1 with h1 h2 h3; omega
    · have h1' : Value.slice A n c = .slice (some ⟨g, 0, none⟩) n cap := h1
      injection h1' with e1 e2 e3
      subst e1 e3
      refine wpList_append_fits (P := Try.prog) w hg s x 23 ho W.heap.size 5 i 1 ht hi hz'.2.1 g n c (bv l) hs hown ⟨k, 0, none⟩ 1 1 [.int .u8 (y : Int)] hx rfl hnew (by intro u hu; simp at hu; subst hu; rfl) hfit ?_
      intro w' r1 r2
      have r1' : OwnB W w' (some ⟨g, 0, none⟩) (n + 1) c (l ++ [y]) := by unfold OwnB; rw [hbv]; exact r1
      refine h (some ⟨g, 0, none⟩) c w' r1' ?_ (hB.grown r2 hB.size (fun k hk => (hown.lt k hk).1)) r2
      have q := Rd.own_ r1'
      refine ⟨by rw [bv_length]; exact hln, fun hn0 => ?_⟩
      obtain ⟨b', o', q1, q2, q3⟩ := q.2 (by omega)
      refine ⟨b', o', q1, q2, fun i hi => ?_⟩
      rw [q3 i (by omega), hbv, List.getElem?_append_left (by rw [bv_length]; omega)]
  · have hA : A = none → n = 0 ∧ c = 0 := by
      intro hA
      rcases hown.2 with ⟨h1, _⟩ | ⟨g, cap, cur, h1, _⟩
      · injection h1 with h1 h2 h3; exact ⟨h2, h3⟩
      · have h1' : Value.slice A n c = .slice (some ⟨g, 0, none⟩) n cap := h1
        injection h1' with e1; rw [hA] at e1; cases e1
    refine wpList_append_grows (P := Try.prog) w hg s x 23 ho 5 i (.int .u8 0) 1 1 ht hi hz'.1 hz'.2.1 hz'.2.2 rfl (by omega) A n c (bv l) hs hA (by rw [bv_length, hln]; omega) ?_ ⟨k, 0, none⟩ 1 1 [.int .u8 (y : Int)] hx rfl hnew (by intro u hu; simp at hu; subst hu; rfl) (by omega) (by unfold maxLen; omega) (by omega) ?_
    · intro b hb j u hj
      obtain ⟨b', o', q1, q2, q3⟩ := (Rd.own_ hown).2 (by have := (List.getElem?_eq_some_iff.1 hj).1; rw [bv_length] at this; omega)
      rw [hb] at q1; injection q1 with q1; subst q1
      have := q3 j (by have := (List.getElem?_eq_some_iff.1 hj).1; rw [bv_length] at this; omega)
      rw [hj] at this
      have e : (⟨b', o', none⟩ : Addr).add j = ⟨b', o' + j, none⟩ := by unfold Addr.add; split <;> simp_all
      rw [e]; exact this
    · intro v' w' r1 r2
      have hbw : Below w.heap.size w w' := ⟨r2.os, r2.tape, r2.output, r2.size, fun i hi => r2.block i hi (by simp)⟩
      rcases r1.2 with ⟨h1, h2⟩ | ⟨g, cap, cur, h1, hrest⟩
      · exfalso; simp at h2
      · subst h1
        have r1' : OwnB w w' (some ⟨g, 0, none⟩) (n + 1) cap (l ++ [y]) := by unfold OwnB; rw [hbv]; exact r1
        exact h (some ⟨g, 0, none⟩) cap w' (own_of hB.size r1') ((Rd.own_ hown).below hbw).fit (hB.trans (hbw.mono hB.size)) ⟨r2.os, r2.tape, r2.output, r2.size, fun i hi _ => r2.block i hi (by simp)⟩
end Go.Proofs.Ytijcbbommaeejaa

