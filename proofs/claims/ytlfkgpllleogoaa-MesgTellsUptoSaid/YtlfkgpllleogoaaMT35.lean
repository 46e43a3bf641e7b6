/- MesgDec -/
import Derived.Test.YtlfkgpllleogoaaMT34
namespace Go.Proofs.Ytlfkgpllleogoaa
open Go.RowKit
set_option linter.unusedVariables false
theorem RgSt.alloc {w wx : World} {b : Nat} {s : Pk.St} (h : RgSt w wx b s) (o : Obj) : RgSt w (wx.alloc o) b s := h.below ((Below.refl _ _).alloc (Nat.le_refl _) o)
set_option maxHeartbeats 4000000 in
set_option maxRecDepth 100000 in
theorem decode11_raw {w : World} {A : Option Addr} {n c B : Nat} {l : List Nat} (hl : l.length ≤ 2000000) (hb : ∀ x ∈ l, x < 256) (h : Rd w B A n (bv l)) : Calls Try.prog 19 #[.slice A n c] w (GotG w w (Mg.dec l)) := by
  obtain ⟨g, hg⟩ : ∃ g, w.heap.size = g := ⟨_, rfl⟩
  obtain ⟨wz, hwz⟩ : ∃ wz, w.alloc (.cells #[.int .i64 0, .int .i64 0, .int .i64 0, .int .i64 0, .int .i64 0, .int .i64 0, .bool false, .int .i64 0, .int .i64 0, .int .i64 0, .int .i64 0, .slice none 0 0, .int .i64 0, .int .i64 0, .slice none 0 0, .slice none 0 0, .int .i64 0, .int .i64 0, .int .i64 0, .int .i64 0, .int .i64 0, .slice none 0 0, .slice none 0 0, .slice none 0 0] 29) = wz := ⟨_, rfl⟩
  have hbb : Below w.heap.size w wz := by rw [← hwz]; exact (Below.refl _ _).alloc (Nat.le_refl _) _
  have k1 : Blk wz g 29 msgZ := by rw [← hwz, ← hg]; exact Blk.new _ _ _
  have hn := h.length
  have hgz : g < wz.heap.size := k1.lt
  have HC1 := Lib.hid (read_in (W := wz) (c := c) (by unfold Lim; omega) hb (h.fit.below hbb) (Below.refl _ _))
  obtain ⟨M, hM⟩ : ∃ x, (Mg.get (some l)).1 = x := ⟨_, rfl⟩
  obtain ⟨s', hs⟩ : ∃ x, (Mg.get (some l)).2 = x := ⟨_, rfl⟩
  have HR : Hid (Mg.dec l = if M.kind ≠ 0 ∧ s' = some [] then some M else none) := Lib.hid (by unfold Mg.dec; rw [hM, hs])
  have HC2 : Hid (∀ wx b3, RdrAt wx b3 (some l) → Calls Try.prog 39 #[.iface 72 (.agg #[.pointer (some ⟨b3, 0, none⟩)]), .agg #[.int .i64 0, .int .i64 0, .int .i64 0, .int .i64 0, .int .i64 0, .int .i64 0, .bool false, .int .i64 0, .int .i64 0, .int .i64 0, .int .i64 0, .slice none 0 0, .int .i64 0, .int .i64 0, .slice none 0 0, .slice none 0 0, .int .i64 0, .int .i64 0, .int .i64 0, .int .i64 0, .int .i64 0, .slice none 0 0, .slice none 0 0, .slice none 0 0]] wx fun e w' => ∃ a, e = .returned (.agg #[.int .i64 M.kind, .int .i64 M.frm, .int .i64 M.dst, .int .i64 M.view, .int .i64 M.inst, .int .i64 M.len, .bool M.has, .int .i64 M.mem, .int .i64 M.src, .int .i64 M.pos, .int .i64 M.tot, .slice a.Ad M.data.length a.cd, .int .i64 M.hop, .int .i64 M.seq, .slice a.Ah M.hav.length a.ch, .slice a.An M.nee.length a.cn, .int .i64 M.idx, .int .i64 M.ent.s, .int .i64 M.ent.q, .int .i64 M.ent.c.kind, .int .i64 M.ent.c.who, .slice a.c.Ak M.ent.c.key.length a.c.ck, .slice a.c.Av M.ent.c.val.length a.c.cv, .slice a.c.Ao M.ent.c.old.length a.c.co]) ∧ OwnG wx w' a M ∧ RdrAt w' b3 s' ∧ Only b3 wx w') := Lib.hid (fun wx b3 hq => by
    have q := ralong_any wx b3 (some l) hq
    rw [hM, hs] at q
    exact q)
  have HB := Lib.hid hbb
  have HK1 := Lib.hid k1
  have HWZ := Lib.hid hwz
  have HG := Lib.hid hg
  have HGZ := Lib.hid hgz
  clear hl hb h hbb k1 hn hM hs hwz hg hgz
  go_enter Try.func19, Try.ntmps19
  go_upto_region 1 with fail
  rw [HG.out, HWZ.out]
  clear HWZ
  go_upto_region 2 with (first
    | (go_at_call 45; refine HC1.out.mono ?_; rintro en w1 ⟨b3, rfl, hr1, hb3, hb3', hB1, hb1⟩; have HR1 := Lib.hid hr1; have HB1 := Lib.hid hB1; have HK1 := Lib.hid (HK1.out.below hB1); clear hr1 hB1 hb1 hb3' HC1)
    | fail)
  have HC3 := Lib.hid (HC2.out w1 b3 HR1.out)
  have hlt3 := HR1.out.lt
  clear HC2
  go_upto_region 3 with (first
    | (go_at_call 39; refine HC3.out.mono ?_; rintro en w2 ⟨a, rfl, ho, hr2, ho2⟩
       have HK2 := Lib.hid (HK1.out.grown ho2 (by have := HGZ.out; simp; omega))
       have HRG := Lib.hid ((⟨hr2, ho2⟩ : RgSt w1 w2 b3 s').alloc (.cells #[.int .i64 0, .int .i64 0, .int .i64 0, .int .i64 0, .int .i64 0, .int .i64 0, .bool false, .int .i64 0, .int .i64 0, .int .i64 0, .int .i64 0, .slice none 0 0, .int .i64 0, .int .i64 0, .slice none 0 0, .slice none 0 0, .int .i64 0, .int .i64 0, .int .i64 0, .int .i64 0, .int .i64 0, .slice none 0 0, .slice none 0 0, .slice none 0 0] 29))
       have HOW := Lib.hid (ho.below ((Below.refl _ _).alloc (Nat.le_refl _) (.cells #[.int .i64 0, .int .i64 0, .int .i64 0, .int .i64 0, .int .i64 0, .int .i64 0, .bool false, .int .i64 0, .int .i64 0, .int .i64 0, .int .i64 0, .slice none 0 0, .int .i64 0, .int .i64 0, .slice none 0 0, .slice none 0 0, .int .i64 0, .int .i64 0, .int .i64 0, .int .i64 0, .int .i64 0, .slice none 0 0, .slice none 0 0, .slice none 0 0] 29)))
       have HKN := Lib.hid (Blk.new w2 29 #[.int .i64 0, .int .i64 0, .int .i64 0, .int .i64 0, .int .i64 0, .int .i64 0, .bool false, .int .i64 0, .int .i64 0, .int .i64 0, .int .i64 0, .slice none 0 0, .int .i64 0, .int .i64 0, .slice none 0 0, .slice none 0 0, .int .i64 0, .int .i64 0, .int .i64 0, .int .i64 0, .int .i64 0, .slice none 0 0, .slice none 0 0, .slice none 0 0])
       have HKO := Lib.hid (HK2.out.alloc (.cells #[.int .i64 0, .int .i64 0, .int .i64 0, .int .i64 0, .int .i64 0, .int .i64 0, .bool false, .int .i64 0, .int .i64 0, .int .i64 0, .int .i64 0, .slice none 0 0, .int .i64 0, .int .i64 0, .slice none 0 0, .slice none 0 0, .int .i64 0, .int .i64 0, .int .i64 0, .int .i64 0, .int .i64 0, .slice none 0 0, .slice none 0 0, .slice none 0 0] 29))
       have HSZ : Hid (w1.heap.size ≤ w2.heap.size) := Lib.hid ho2.size
       clear ho hr2 ho2 HC3)
    | (refine wpList_store_row rfl 29 (.tmp 5) (.tmp 12) rfl w2.heap.size #[.int .i64 M.kind, .int .i64 M.frm, .int .i64 M.dst, .int .i64 M.view, .int .i64 M.inst, .int .i64 M.len, .bool M.has, .int .i64 M.mem, .int .i64 M.src, .int .i64 M.pos, .int .i64 M.tot, .slice a.Ad M.data.length a.cd, .int .i64 M.hop, .int .i64 M.seq, .slice a.Ah M.hav.length a.ch, .slice a.An M.nee.length a.cn, .int .i64 M.idx, .int .i64 M.ent.s, .int .i64 M.ent.q, .int .i64 M.ent.c.kind, .int .i64 M.ent.c.who, .slice a.c.Ak M.ent.c.key.length a.c.ck, .slice a.c.Av M.ent.c.val.length a.c.cv, .slice a.c.Ao M.ent.c.old.length a.c.co] rfl rfl 29 #[.int .i64 0, .int .i64 0, .int .i64 0, .int .i64 0, .int .i64 0, .int .i64 0, .bool false, .int .i64 0, .int .i64 0, .int .i64 0, .int .i64 0, .slice none 0 0, .int .i64 0, .int .i64 0, .slice none 0 0, .slice none 0 0, .int .i64 0, .int .i64 0, .int .i64 0, .int .i64 0, .int .i64 0, .slice none 0 0, .slice none 0 0, .slice none 0 0] HKN.out (by kernel_rfl) rfl (by kernel_rfl) ?_)
    | fail)
  have hz1 : w1.heap.size ≤ w2.heap.size := HSZ.out
  have hgw : g < w1.heap.size := by have := HGZ.out; have := HB1.out.size; omega
  have HRG := Lib.hid (HRG.out.rowS HKN.out (cs := #[.int .i64 M.kind, .int .i64 M.frm, .int .i64 M.dst, .int .i64 M.view, .int .i64 M.inst, .int .i64 M.len, .bool M.has, .int .i64 M.mem, .int .i64 M.src, .int .i64 M.pos, .int .i64 M.tot, .slice a.Ad M.data.length a.cd, .int .i64 M.hop, .int .i64 M.seq, .slice a.Ah M.hav.length a.ch, .slice a.An M.nee.length a.cn, .int .i64 M.idx, .int .i64 M.ent.s, .int .i64 M.ent.q, .int .i64 M.ent.c.kind, .int .i64 M.ent.c.who, .slice a.c.Ak M.ent.c.key.length a.c.ck, .slice a.c.Av M.ent.c.val.length a.c.cv, .slice a.c.Ao M.ent.c.old.length a.c.co]) (by decide) (by decide) hz1)
  have HOW := Lib.hid (HOW.out.rowS HKN.out (cs := #[.int .i64 M.kind, .int .i64 M.frm, .int .i64 M.dst, .int .i64 M.view, .int .i64 M.inst, .int .i64 M.len, .bool M.has, .int .i64 M.mem, .int .i64 M.src, .int .i64 M.pos, .int .i64 M.tot, .slice a.Ad M.data.length a.cd, .int .i64 M.hop, .int .i64 M.seq, .slice a.Ah M.hav.length a.ch, .slice a.An M.nee.length a.cn, .int .i64 M.idx, .int .i64 M.ent.s, .int .i64 M.ent.q, .int .i64 M.ent.c.kind, .int .i64 M.ent.c.who, .slice a.c.Ak M.ent.c.key.length a.c.ck, .slice a.c.Av M.ent.c.val.length a.c.cv, .slice a.c.Ao M.ent.c.old.length a.c.co]) (by decide) (by decide))
  have HKO := Lib.hid (HKO.out.row_other (g := w2.heap.size) (by omega) #[.int .i64 M.kind, .int .i64 M.frm, .int .i64 M.dst, .int .i64 M.view, .int .i64 M.inst, .int .i64 M.len, .bool M.has, .int .i64 M.mem, .int .i64 M.src, .int .i64 M.pos, .int .i64 M.tot, .slice a.Ad M.data.length a.cd, .int .i64 M.hop, .int .i64 M.seq, .slice a.Ah M.hav.length a.ch, .slice a.An M.nee.length a.cn, .int .i64 M.idx, .int .i64 M.ent.s, .int .i64 M.ent.q, .int .i64 M.ent.c.kind, .int .i64 M.ent.c.who, .slice a.c.Ak M.ent.c.key.length a.c.ck, .slice a.c.Av M.ent.c.val.length a.c.cv, .slice a.c.Ao M.ent.c.old.length a.c.co])
  have HKN := Lib.hid (HKN.out.row #[.int .i64 M.kind, .int .i64 M.frm, .int .i64 M.dst, .int .i64 M.view, .int .i64 M.inst, .int .i64 M.len, .bool M.has, .int .i64 M.mem, .int .i64 M.src, .int .i64 M.pos, .int .i64 M.tot, .slice a.Ad M.data.length a.cd, .int .i64 M.hop, .int .i64 M.seq, .slice a.Ah M.hav.length a.ch, .slice a.An M.nee.length a.cn, .int .i64 M.idx, .int .i64 M.ent.s, .int .i64 M.ent.q, .int .i64 M.ent.c.kind, .int .i64 M.ent.c.who, .slice a.c.Ak M.ent.c.key.length a.c.ck, .slice a.c.Av M.ent.c.val.length a.c.cv, .slice a.c.Ao M.ent.c.old.length a.c.co])
  obtain ⟨g5, hg5⟩ : ∃ x, w2.heap.size = x := ⟨_, rfl⟩
  rw [hg5] at HRG HOW HKO HKN hz1 ⊢
  clear HK2 hg5 HSZ
  generalize (w2.alloc (.cells #[.int .i64 0, .int .i64 0, .int .i64 0, .int .i64 0, .int .i64 0, .int .i64 0, .bool false, .int .i64 0, .int .i64 0, .int .i64 0, .int .i64 0, .slice none 0 0, .int .i64 0, .int .i64 0, .slice none 0 0, .slice none 0 0, .int .i64 0, .int .i64 0, .int .i64 0, .int .i64 0, .int .i64 0, .slice none 0 0, .slice none 0 0, .slice none 0 0] 29)).setRow g5 #[.int .i64 M.kind, .int .i64 M.frm, .int .i64 M.dst, .int .i64 M.view, .int .i64 M.inst, .int .i64 M.len, .bool M.has, .int .i64 M.mem, .int .i64 M.src, .int .i64 M.pos, .int .i64 M.tot, .slice a.Ad M.data.length a.cd, .int .i64 M.hop, .int .i64 M.seq, .slice a.Ah M.hav.length a.ch, .slice a.An M.nee.length a.cn, .int .i64 M.idx, .int .i64 M.ent.s, .int .i64 M.ent.q, .int .i64 M.ent.c.kind, .int .i64 M.ent.c.who, .slice a.c.Ak M.ent.c.key.length a.c.ck, .slice a.c.Av M.ent.c.val.length a.c.cv, .slice a.c.Ao M.ent.c.old.length a.c.co] = w3 at HRG HOW HKO HKN ⊢
  have HE := Lib.hid (end_any w3 b3 s' HRG.out.r)
  have x0 : w3.cell? ⟨g5, 0, none⟩ = some (.int .i64 M.kind) := HKN.out.cell 0
  have hend : ∀ (X : Option Mg) (aX : GA) (mX : Mg) (cs : Array Value), X.getD Mg.zero = mX → cs = msgC aX mX → OwnG w1 w3 aX mX → GotG w w X (.returned (.tuple #[.agg cs, .bool X.isSome])) (w3.setRow g cs) := by
    intro X aX mX cs h1 h2 h3
    have hw1 : Below w.heap.size w w1 := HB.out.trans (HB1.out.mono HB.out.size)
    have hbel : Below w.heap.size w w3 := hw1.grown HRG.out.only hw1.size (fun k hk => by injection hk with hk; have := HB.out.size; omega)
    have hbr : Below w.heap.size w (w3.setRow g cs) := below_setRow hbel (by rw [HG.out]; exact Nat.le_refl _) cs
    refine ⟨aX, by rw [h1, h2]; rfl, ?_, hbr, hbr⟩
    rw [h1]
    exact (h3.rowS HKO.out (by decide) (by decide)).of hw1.size
  have HEND := Lib.hid hend
  clear hend
  by_cases h0 : M.kind = 0
  · have r0 : (M.kind == 0) = true := by simpa using h0
    have hr : Mg.dec l = none := by rw [HR.out, if_neg (fun h => h.1 h0)]
    clear h0
    go_wp2_with (first
      | (refine wpList_store_row rfl 29 (.tmp 2) (.tmp 21) rfl g #[.int .i64 0, .int .i64 0, .int .i64 0, .int .i64 0, .int .i64 0, .int .i64 0, .bool false, .int .i64 0, .int .i64 0, .int .i64 0, .int .i64 0, .slice none 0 0, .int .i64 0, .int .i64 0, .slice none 0 0, .slice none 0 0, .int .i64 0, .int .i64 0, .int .i64 0, .int .i64 0, .int .i64 0, .slice none 0 0, .slice none 0 0, .slice none 0 0] rfl rfl 29 msgZ HKO.out (by kernel_rfl) rfl (by kernel_rfl) ?_)
      | fail)
    refine bodyPost_ret (results_cell_tmp rfl _ _ _ _ _ _ rfl (HKO.out.row #[.int .i64 0, .int .i64 0, .int .i64 0, .int .i64 0, .int .i64 0, .int .i64 0, .bool false, .int .i64 0, .int .i64 0, .int .i64 0, .int .i64 0, .slice none 0 0, .int .i64 0, .int .i64 0, .slice none 0 0, .slice none 0 0, .int .i64 0, .int .i64 0, .int .i64 0, .int .i64 0, .int .i64 0, .slice none 0 0, .slice none 0 0, .slice none 0 0]) Try.underlying29 rfl (by kernel_rfl)) rfl ?_
    rw [hr]
    exact HEND.out none GA.zero Mg.zero _ rfl rfl (OwnG.zero _ _)
  · have r0 : (M.kind == 0) = false := by simpa using h0
    by_cases h1 : s' = some []
    · have hr : Mg.dec l = some M := by rw [HR.out, if_pos ⟨h0, h1⟩]
      have he : Pk.endOf s' = true := by rw [h1]; rfl
      rw [he] at HE
      clear h0 h1 he
      go_wp2_with (first
        | (go_at_call 46; refine HE.out.mono ?_; rintro en wq ⟨rfl, rfl⟩)
        | (refine wpList_load_row rfl 29 (.tmp 5) rfl g5 rfl 29 #[.int .i64 M.kind, .int .i64 M.frm, .int .i64 M.dst, .int .i64 M.view, .int .i64 M.inst, .int .i64 M.len, .bool M.has, .int .i64 M.mem, .int .i64 M.src, .int .i64 M.pos, .int .i64 M.tot, .slice a.Ad M.data.length a.cd, .int .i64 M.hop, .int .i64 M.seq, .slice a.Ah M.hav.length a.ch, .slice a.An M.nee.length a.cn, .int .i64 M.idx, .int .i64 M.ent.s, .int .i64 M.ent.q, .int .i64 M.ent.c.kind, .int .i64 M.ent.c.who, .slice a.c.Ak M.ent.c.key.length a.c.ck, .slice a.c.Av M.ent.c.val.length a.c.cv, .slice a.c.Ao M.ent.c.old.length a.c.co] (0, 0) _ HKN.out Try.underlying29 rfl (by kernel_rfl) ?_)
        | (refine wpList_store_row rfl 29 (.tmp 2) (.tmp 22) rfl g #[.int .i64 M.kind, .int .i64 M.frm, .int .i64 M.dst, .int .i64 M.view, .int .i64 M.inst, .int .i64 M.len, .bool M.has, .int .i64 M.mem, .int .i64 M.src, .int .i64 M.pos, .int .i64 M.tot, .slice a.Ad M.data.length a.cd, .int .i64 M.hop, .int .i64 M.seq, .slice a.Ah M.hav.length a.ch, .slice a.An M.nee.length a.cn, .int .i64 M.idx, .int .i64 M.ent.s, .int .i64 M.ent.q, .int .i64 M.ent.c.kind, .int .i64 M.ent.c.who, .slice a.c.Ak M.ent.c.key.length a.c.ck, .slice a.c.Av M.ent.c.val.length a.c.cv, .slice a.c.Ao M.ent.c.old.length a.c.co] rfl rfl 29 msgZ HKO.out (by kernel_rfl) rfl (by kernel_rfl) ?_)
        | fail)
      refine bodyPost_ret (results_cell_tmp rfl _ _ _ _ _ _ rfl (HKO.out.row #[.int .i64 M.kind, .int .i64 M.frm, .int .i64 M.dst, .int .i64 M.view, .int .i64 M.inst, .int .i64 M.len, .bool M.has, .int .i64 M.mem, .int .i64 M.src, .int .i64 M.pos, .int .i64 M.tot, .slice a.Ad M.data.length a.cd, .int .i64 M.hop, .int .i64 M.seq, .slice a.Ah M.hav.length a.ch, .slice a.An M.nee.length a.cn, .int .i64 M.idx, .int .i64 M.ent.s, .int .i64 M.ent.q, .int .i64 M.ent.c.kind, .int .i64 M.ent.c.who, .slice a.c.Ak M.ent.c.key.length a.c.ck, .slice a.c.Av M.ent.c.val.length a.c.cv, .slice a.c.Ao M.ent.c.old.length a.c.co]) Try.underlying29 rfl (by kernel_rfl)) rfl ?_
      rw [hr]
      exact HEND.out (some M) a M _ rfl rfl HOW.out
    · have hr : Mg.dec l = none := by rw [HR.out, if_neg (fun h => h1 h.2)]
      have he : Pk.endOf s' = false := by
        cases s' with
        | none => rfl
        | some x => cases x with
          | nil => exact absurd rfl h1
          | cons y z => rfl
      rw [he] at HE
      clear h0 h1 he
      go_wp2_with (first
        | (go_at_call 46; refine HE.out.mono ?_; rintro en wq ⟨rfl, rfl⟩)
        | (refine wpList_store_row rfl 29 (.tmp 2) (.tmp 21) rfl g #[.int .i64 0, .int .i64 0, .int .i64 0, .int .i64 0, .int .i64 0, .int .i64 0, .bool false, .int .i64 0, .int .i64 0, .int .i64 0, .int .i64 0, .slice none 0 0, .int .i64 0, .int .i64 0, .slice none 0 0, .slice none 0 0, .int .i64 0, .int .i64 0, .int .i64 0, .int .i64 0, .int .i64 0, .slice none 0 0, .slice none 0 0, .slice none 0 0] rfl rfl 29 msgZ HKO.out (by kernel_rfl) rfl (by kernel_rfl) ?_)
        | fail)
      refine bodyPost_ret (results_cell_tmp rfl _ _ _ _ _ _ rfl (HKO.out.row #[.int .i64 0, .int .i64 0, .int .i64 0, .int .i64 0, .int .i64 0, .int .i64 0, .bool false, .int .i64 0, .int .i64 0, .int .i64 0, .int .i64 0, .slice none 0 0, .int .i64 0, .int .i64 0, .slice none 0 0, .slice none 0 0, .int .i64 0, .int .i64 0, .int .i64 0, .int .i64 0, .int .i64 0, .slice none 0 0, .slice none 0 0, .slice none 0 0]) Try.underlying29 rfl (by kernel_rfl)) rfl ?_
      rw [hr]
      exact HEND.out none GA.zero Mg.zero _ rfl rfl (OwnG.zero _ _)
theorem decode11 : DecodeC11 := fun hl hb hr hB => (decode11_raw hl hb hr).mono fun e w' h => GotG.of hB h
end Go.Proofs.Ytlfkgpllleogoaa

