/- FramOpen -/
import Derived.Test.YtlfkgpllleogoaaFQ30
import Derived.Test.YtlfkgpllleogoaaFQ33
import Derived.Test.YtlfkgpllleogoaaFQ34
import Derived.BigQuiet
namespace Go.Proofs.Ytlfkgpllleogoaa
open Go.RowKit
set_option linter.unusedVariables false
set_option maxHeartbeats 4000000 in
set_option maxRecDepth 100000 in
theorem fropen_raw {w : World} {A : Option Addr} {n c B : Nat} {l : List Nat} (hl : l.length ≤ 2000000) (hb : ∀ x ∈ l, x < 256) (hc : n ≤ c) (h : Rd w B A n (bv l)) : Calls Try.prog 22 #[.slice A n c] w (GotG w w (Fr.opn l)) := by
  obtain ⟨g, hg⟩ : ∃ g, w.heap.size = g := ⟨_, rfl⟩
  obtain ⟨wz, hwz⟩ : ∃ wz, w.alloc (.cells #[.int .i64 0, .int .i64 0, .int .i64 0, .int .i64 0, .int .i64 0, .int .i64 0, .bool false, .int .i64 0, .int .i64 0, .int .i64 0, .int .i64 0, .slice none 0 0, .int .i64 0, .int .i64 0, .slice none 0 0, .slice none 0 0, .int .i64 0, .int .i64 0, .int .i64 0, .int .i64 0, .int .i64 0, .slice none 0 0, .slice none 0 0, .slice none 0 0] 29) = wz := ⟨_, rfl⟩
  have hbb : Below w.heap.size w wz := by rw [← hwz]; exact (Below.refl _ _).alloc (Nat.le_refl _) _
  have k1 : Blk wz g 29 msgZ := by rw [← hwz, ← hg]; exact Blk.new _ _ _
  have hgz : g < wz.heap.size := k1.lt
  have HRZ := Lib.hid (h.fit.below hbb)
  have HB := Lib.hid hbb
  have HK1 := Lib.hid k1
  have HWZ := Lib.hid hwz
  have HG := Lib.hid hg
  have HEND : Hid (∀ (wx : World) (X : Option Mg) (aX : GA) (mX : Mg) (cs : Array Value), X.getD Mg.zero = mX → cs = msgC aX mX → Below wz.heap.size wz wx → OwnG wz wx aX mX → GotG w w X (.returned (.tuple #[.agg cs, .bool X.isSome])) (wx.setRow g cs)) := Lib.hid (by
    intro wx X aX mX cs h1 h2 h3 h4
    have hbel : Below w.heap.size w wx := hbb.trans (h3.mono hbb.size)
    have hbr : Below w.heap.size w (wx.setRow g cs) := below_setRow hbel (by rw [hg]; exact Nat.le_refl _) cs
    refine ⟨aX, by rw [h1, h2]; rfl, ?_, hbr, hbr⟩
    rw [h1]
    exact (h4.rowS (k1.below h3) (by decide) (by decide)).of hbb.size)
  have hu := Fr.opn_unf l
  have CL : Hid (Calls Try.prog 53 #[.slice A n c] wz (GotU wz wz (Fr.unf l))) := Lib.hid (seallift rfl hb hl hc HRZ.out (Below.refl _ _))
  have hlu : ∀ x, Fr.unf l = some x → (∀ y ∈ x, y < 256) ∧ x.length ≤ 2000000 := fun x hx => by
    obtain ⟨e, _⟩ := Fr.unf_is hx
    subst e
    exact ⟨fun y hy => hb y (List.mem_of_mem_drop hy), by rw [List.length_drop]; omega⟩
  obtain ⟨U, hU⟩ : ∃ U, Fr.unf l = U := ⟨_, rfl⟩
  rw [hU] at hu CL hlu
  obtain ⟨X, hX⟩ : ∃ x, Fr.opn l = x := ⟨_, rfl⟩
  rw [hX] at hu ⊢
  clear hl hb hbb k1 hwz hg h hc hU hX HRZ hgz
  cases U with
  | none =>
    have HX : Hid (X = none) := Lib.hid hu
    clear hu hlu
    go_enter Try.func22, Try.ntmps22
    go_upto_region 1 with fail
    rw [HG.out, HWZ.out]
    clear HWZ
    go_wp2_with (first
      | (go_at_call 53; refine CL.out.mono ?_; rintro en w1 ⟨A1, c1, rfl, ho, hB, hb⟩; have HB1 := Lib.hid hB; have HK2 := Lib.hid (HK1.out.below hB); clear ho hB hb)
      | (refine wpList_store_row rfl 29 (.tmp 2) (.tmp 13) rfl g #[.int .i64 0, .int .i64 0, .int .i64 0, .int .i64 0, .int .i64 0, .int .i64 0, .bool false, .int .i64 0, .int .i64 0, .int .i64 0, .int .i64 0, .slice none 0 0, .int .i64 0, .int .i64 0, .slice none 0 0, .slice none 0 0, .int .i64 0, .int .i64 0, .int .i64 0, .int .i64 0, .int .i64 0, .slice none 0 0, .slice none 0 0, .slice none 0 0] rfl rfl 29 msgZ HK2.out (by kernel_rfl) rfl (by kernel_rfl) ?_)
      | fail)
    refine bodyPost_ret (results_cell_tmp rfl _ _ _ _ _ _ rfl (HK2.out.row #[.int .i64 0, .int .i64 0, .int .i64 0, .int .i64 0, .int .i64 0, .int .i64 0, .bool false, .int .i64 0, .int .i64 0, .int .i64 0, .int .i64 0, .slice none 0 0, .int .i64 0, .int .i64 0, .slice none 0 0, .slice none 0 0, .int .i64 0, .int .i64 0, .int .i64 0, .int .i64 0, .int .i64 0, .slice none 0 0, .slice none 0 0, .slice none 0 0]) Try.underlying29 rfl (by kernel_rfl)) rfl ?_
    rw [HX.out]
    exact HEND.out _ none GA.zero Mg.zero _ rfl rfl HB1.out (OwnG.zero _ _)
  | some D =>
    obtain ⟨hx1, hx2⟩ := hlu D rfl
    have HX1 := Lib.hid hx1
    have HX2 := Lib.hid hx2
    have HX : Hid (X = Mg.dec D) := Lib.hid hu
    clear hu hlu hx1 hx2
    go_enter Try.func22, Try.ntmps22
    go_upto_region 1 with fail
    rw [HG.out, HWZ.out]
    clear HWZ
    go_wp2_with (first
      | (go_at_call 53; refine CL.out.mono ?_; rintro en w1 ⟨A1, c1, rfl, ho, hB, hb⟩
         have ho1 : OwnB wz w1 A1 D.length c1 D := ho
         have HO1 := Lib.hid ho1
         have HB1 := Lib.hid hB
         clear ho ho1 hB hb)
      | (go_at_call 19; refine (decode11.is (W := wz) HX.out.symm HX2.out HX1.out (Rd.own_ HO1.out) HB1.out).mono ?_; rintro en w3 ⟨a, hen, ho, hB3, hb3⟩
         obtain ⟨M, hM⟩ : ∃ x, X.getD Mg.zero = x := ⟨_, rfl⟩
         have hen2 : en = .returned (.tuple #[.agg #[.int .i64 M.kind, .int .i64 M.frm, .int .i64 M.dst, .int .i64 M.view, .int .i64 M.inst, .int .i64 M.len, .bool M.has, .int .i64 M.mem, .int .i64 M.src, .int .i64 M.pos, .int .i64 M.tot, .slice a.Ad M.data.length a.cd, .int .i64 M.hop, .int .i64 M.seq, .slice a.Ah M.hav.length a.ch, .slice a.An M.nee.length a.cn, .int .i64 M.idx, .int .i64 M.ent.s, .int .i64 M.ent.q, .int .i64 M.ent.c.kind, .int .i64 M.ent.c.who, .slice a.c.Ak M.ent.c.key.length a.c.ck, .slice a.c.Av M.ent.c.val.length a.c.cv, .slice a.c.Ao M.ent.c.old.length a.c.co], .bool X.isSome]) := by rw [hM] at hen; exact hen
         rw [hM] at ho
         clear hen
         subst hen2
         have HO := Lib.hid ho
         have HM := Lib.hid hM
         have HB3 := Lib.hid hB3
         have HK3 := Lib.hid (HK1.out.below hB3)
         clear ho hB3 hb3 hM)
      | (refine wpList_store_row rfl 29 (.tmp 2) (.tmp 16) rfl g #[.int .i64 M.kind, .int .i64 M.frm, .int .i64 M.dst, .int .i64 M.view, .int .i64 M.inst, .int .i64 M.len, .bool M.has, .int .i64 M.mem, .int .i64 M.src, .int .i64 M.pos, .int .i64 M.tot, .slice a.Ad M.data.length a.cd, .int .i64 M.hop, .int .i64 M.seq, .slice a.Ah M.hav.length a.ch, .slice a.An M.nee.length a.cn, .int .i64 M.idx, .int .i64 M.ent.s, .int .i64 M.ent.q, .int .i64 M.ent.c.kind, .int .i64 M.ent.c.who, .slice a.c.Ak M.ent.c.key.length a.c.ck, .slice a.c.Av M.ent.c.val.length a.c.cv, .slice a.c.Ao M.ent.c.old.length a.c.co] rfl rfl 29 msgZ HK3.out (by kernel_rfl) rfl (by kernel_rfl) ?_)
      | fail)
    refine bodyPost_ret (results_cell_tmp rfl _ _ _ _ _ _ rfl (HK3.out.row #[.int .i64 M.kind, .int .i64 M.frm, .int .i64 M.dst, .int .i64 M.view, .int .i64 M.inst, .int .i64 M.len, .bool M.has, .int .i64 M.mem, .int .i64 M.src, .int .i64 M.pos, .int .i64 M.tot, .slice a.Ad M.data.length a.cd, .int .i64 M.hop, .int .i64 M.seq, .slice a.Ah M.hav.length a.ch, .slice a.An M.nee.length a.cn, .int .i64 M.idx, .int .i64 M.ent.s, .int .i64 M.ent.q, .int .i64 M.ent.c.kind, .int .i64 M.ent.c.who, .slice a.c.Ak M.ent.c.key.length a.c.ck, .slice a.c.Av M.ent.c.val.length a.c.cv, .slice a.c.Ao M.ent.c.old.length a.c.co]) Try.underlying29 rfl (by kernel_rfl)) rfl ?_
    exact HEND.out _ X a M _ HM.out rfl HB3.out HO.out
theorem fropen_any {W w : World} {A : Option Addr} {n c B : Nat} {l : List Nat} (hl : l.length ≤ 2000000) (hb : ∀ x ∈ l, x < 256) (hc : n ≤ c) (h : Rd w B A n (bv l)) (hB : Below W.heap.size W w) : Calls Try.prog 22 #[.slice A n c] w (GotG W w (Fr.opn l)) :=
  (fropen_raw hl hb hc h).mono fun e w' hh => GotG.of hB hh
theorem fropen_is {W w : World} {A : Option Addr} {n c B : Nat} {l : List Nat} {r : Option Mg} (he : Fr.opn l = r) (hl : l.length ≤ 2000000) (hb : ∀ x ∈ l, x < 256) (hc : n ≤ c) (h : Rd w B A n (bv l)) (hB : Below W.heap.size W w) : Calls Try.prog 22 #[.slice A n c] w (GotG W w r) := by
  subst he; exact fropen_any hl hb hc h hB
end Go.Proofs.Ytlfkgpllleogoaa

