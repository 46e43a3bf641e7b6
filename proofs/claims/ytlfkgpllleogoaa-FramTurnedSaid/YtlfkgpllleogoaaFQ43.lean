/- FramTurnedWalk -/
import Derived.Test.YtlfkgpllleogoaaFQ40
namespace Go.Proofs.Ytlfkgpllleogoaa
open Go.RowKit
set_option linter.unusedVariables false
set_option maxHeartbeats 8000000 in
set_option maxRecDepth 100000 in
theorem framTurned_raw (n m : Int) (w : World) : Calls Try.prog 7 #[.int .i64 n, .int .i64 m] w fun e w' => e = .returned (.bool true) ∧ Below w.heap.size w w' := by
  obtain ⟨M, L, hF⟩ := frOf n m
  have HF := Lib.hid hF
  have C1 := Lib.hid hF.msg
  clear hF
  go_enter Try.func7, Try.ntmps7
  go_upto_region 2 with (first
    | (go_at_call 14; refine (C1.out _).mono ?_; rintro e1 w1 ⟨ax, rfl, hrx, hb1⟩; have HX := Lib.hid hrx; have HB1 := Lib.hid hb1; have HZ1 := Lib.hid (Blk.new w1 29 #[.int .i64 0, .int .i64 0, .int .i64 0, .int .i64 0, .int .i64 0, .int .i64 0, .bool false, .int .i64 0, .int .i64 0, .int .i64 0, .int .i64 0, .slice none 0 0, .int .i64 0, .int .i64 0, .slice none 0 0, .slice none 0 0, .int .i64 0, .int .i64 0, .int .i64 0, .int .i64 0, .int .i64 0, .slice none 0 0, .slice none 0 0, .slice none 0 0]); clear hrx hb1 C1)
    | (refine wpList_store_row rfl 29 (.tmp 5) (.tmp 15) rfl w1.heap.size #[.int .i64 M.kind, .int .i64 M.frm, .int .i64 M.dst, .int .i64 M.view, .int .i64 M.inst, .int .i64 M.len, .bool M.has, .int .i64 M.mem, .int .i64 M.src, .int .i64 M.pos, .int .i64 M.tot, .slice ax.Ad M.data.length ax.cd, .int .i64 M.hop, .int .i64 M.seq, .slice ax.Ah M.hav.length ax.ch, .slice ax.An M.nee.length ax.cn, .int .i64 M.idx, .int .i64 M.ent.s, .int .i64 M.ent.q, .int .i64 M.ent.c.kind, .int .i64 M.ent.c.who, .slice ax.c.Ak M.ent.c.key.length ax.c.ck, .slice ax.c.Av M.ent.c.val.length ax.c.cv, .slice ax.c.Ao M.ent.c.old.length ax.c.co] rfl rfl 29 #[.int .i64 0, .int .i64 0, .int .i64 0, .int .i64 0, .int .i64 0, .int .i64 0, .bool false, .int .i64 0, .int .i64 0, .int .i64 0, .int .i64 0, .slice none 0 0, .int .i64 0, .int .i64 0, .slice none 0 0, .slice none 0 0, .int .i64 0, .int .i64 0, .int .i64 0, .int .i64 0, .int .i64 0, .slice none 0 0, .slice none 0 0, .slice none 0 0] HZ1.out (by kernel_rfl) rfl (by kernel_rfl) ?_)
    | fail)
  have b12 : Below w1.heap.size w1 ((w1.alloc (.cells #[.int .i64 0, .int .i64 0, .int .i64 0, .int .i64 0, .int .i64 0, .int .i64 0, .bool false, .int .i64 0, .int .i64 0, .int .i64 0, .int .i64 0, .slice none 0 0, .int .i64 0, .int .i64 0, .slice none 0 0, .slice none 0 0, .int .i64 0, .int .i64 0, .int .i64 0, .int .i64 0, .int .i64 0, .slice none 0 0, .slice none 0 0, .slice none 0 0] 29)).setRow w1.heap.size #[.int .i64 M.kind, .int .i64 M.frm, .int .i64 M.dst, .int .i64 M.view, .int .i64 M.inst, .int .i64 M.len, .bool M.has, .int .i64 M.mem, .int .i64 M.src, .int .i64 M.pos, .int .i64 M.tot, .slice ax.Ad M.data.length ax.cd, .int .i64 M.hop, .int .i64 M.seq, .slice ax.Ah M.hav.length ax.ch, .slice ax.An M.nee.length ax.cn, .int .i64 M.idx, .int .i64 M.ent.s, .int .i64 M.ent.q, .int .i64 M.ent.c.kind, .int .i64 M.ent.c.who, .slice ax.c.Ak M.ent.c.key.length ax.c.ck, .slice ax.c.Av M.ent.c.val.length ax.c.cv, .slice ax.c.Ao M.ent.c.old.length ax.c.co]) := below_setRow ((Below.refl _ _).alloc (Nat.le_refl _) _) (Nat.le_refl _) _
  have k5 := HZ1.out.row #[.int .i64 M.kind, .int .i64 M.frm, .int .i64 M.dst, .int .i64 M.view, .int .i64 M.inst, .int .i64 M.len, .bool M.has, .int .i64 M.mem, .int .i64 M.src, .int .i64 M.pos, .int .i64 M.tot, .slice ax.Ad M.data.length ax.cd, .int .i64 M.hop, .int .i64 M.seq, .slice ax.Ah M.hav.length ax.ch, .slice ax.An M.nee.length ax.cn, .int .i64 M.idx, .int .i64 M.ent.s, .int .i64 M.ent.q, .int .i64 M.ent.c.kind, .int .i64 M.ent.c.who, .slice ax.c.Ak M.ent.c.key.length ax.c.ck, .slice ax.c.Av M.ent.c.val.length ax.c.cv, .slice ax.c.Ao M.ent.c.old.length ax.c.co]
  obtain ⟨h5, hh5⟩ : ∃ h, w1.heap.size = h := ⟨_, rfl⟩
  generalize (w1.alloc (.cells #[.int .i64 0, .int .i64 0, .int .i64 0, .int .i64 0, .int .i64 0, .int .i64 0, .bool false, .int .i64 0, .int .i64 0, .int .i64 0, .int .i64 0, .slice none 0 0, .int .i64 0, .int .i64 0, .slice none 0 0, .slice none 0 0, .int .i64 0, .int .i64 0, .int .i64 0, .int .i64 0, .int .i64 0, .slice none 0 0, .slice none 0 0, .slice none 0 0] 29)).setRow w1.heap.size #[.int .i64 M.kind, .int .i64 M.frm, .int .i64 M.dst, .int .i64 M.view, .int .i64 M.inst, .int .i64 M.len, .bool M.has, .int .i64 M.mem, .int .i64 M.src, .int .i64 M.pos, .int .i64 M.tot, .slice ax.Ad M.data.length ax.cd, .int .i64 M.hop, .int .i64 M.seq, .slice ax.Ah M.hav.length ax.ch, .slice ax.An M.nee.length ax.cn, .int .i64 M.idx, .int .i64 M.ent.s, .int .i64 M.ent.q, .int .i64 M.ent.c.kind, .int .i64 M.ent.c.who, .slice ax.c.Ak M.ent.c.key.length ax.c.ck, .slice ax.c.Av M.ent.c.val.length ax.c.cv, .slice ax.c.Ao M.ent.c.old.length ax.c.co] = w2 at b12 k5 ⊢
  rw [hh5] at k5 ⊢
  have HX := Lib.hid (HX.out.below' b12)
  have HB2 := Lib.hid (HB1.out.trans (b12.mono HB1.out.size))
  have HK5 := Lib.hid k5
  clear b12 k5 hh5 HB1 HZ1
  have CW : Hid (Calls Try.prog 21 #[.agg #[.int .i64 M.kind, .int .i64 M.frm, .int .i64 M.dst, .int .i64 M.view, .int .i64 M.inst, .int .i64 M.len, .bool M.has, .int .i64 M.mem, .int .i64 M.src, .int .i64 M.pos, .int .i64 M.tot, .slice ax.Ad M.data.length ax.cd, .int .i64 M.hop, .int .i64 M.seq, .slice ax.Ah M.hav.length ax.ch, .slice ax.An M.nee.length ax.cn, .int .i64 M.idx, .int .i64 M.ent.s, .int .i64 M.ent.q, .int .i64 M.ent.c.kind, .int .i64 M.ent.c.who, .slice ax.c.Ak M.ent.c.key.length ax.c.ck, .slice ax.c.Av M.ent.c.val.length ax.c.cv, .slice ax.c.Ao M.ent.c.old.length ax.c.co]] w2 (GotIn w2 w2 L)) := Lib.hid (frwrap_is (a := ax) (m := M) HF.out.wrap HF.out.wide HX.out (Below.refl _ _))
  go_upto_region 3 with (first
    | (refine wpList_load_row rfl 29 (.tmp 5) rfl h5 rfl 29 #[.int .i64 M.kind, .int .i64 M.frm, .int .i64 M.dst, .int .i64 M.view, .int .i64 M.inst, .int .i64 M.len, .bool M.has, .int .i64 M.mem, .int .i64 M.src, .int .i64 M.pos, .int .i64 M.tot, .slice ax.Ad M.data.length ax.cd, .int .i64 M.hop, .int .i64 M.seq, .slice ax.Ah M.hav.length ax.ch, .slice ax.An M.nee.length ax.cn, .int .i64 M.idx, .int .i64 M.ent.s, .int .i64 M.ent.q, .int .i64 M.ent.c.kind, .int .i64 M.ent.c.who, .slice ax.c.Ak M.ent.c.key.length ax.c.ck, .slice ax.c.Av M.ent.c.val.length ax.c.cv, .slice ax.c.Ao M.ent.c.old.length ax.c.co] (0, 0) _ HK5.out Try.underlying29 rfl (by kernel_rfl) ?_)
    | (go_at_call 21; refine CW.out.mono ?_; rintro e w3 ⟨A, c, rfl, ho, hB, hb⟩; have HO3 := Lib.hid ho; have HB23 := Lib.hid hB; clear ho hB hb CW)
    | fail)
  have CO : Hid (Calls Try.prog 22 #[.slice A L.length c] w3 (GotG w3 w3 (some M))) := Lib.hid (fropen_is HF.out.opn (by have := HF.out.len; omega) HF.out.lt (own_cap HO3.out).1 (Rd.own_ HO3.out) (Below.refl _ _))
  go_upto_region 4 with (first
    | (go_at_call 22; refine CO.out.mono ?_; rintro e w4 ⟨az, he, hoz, hBz, hbz⟩
       have he2 : e = .returned (.tuple #[.agg #[.int .i64 M.kind, .int .i64 M.frm, .int .i64 M.dst, .int .i64 M.view, .int .i64 M.inst, .int .i64 M.len, .bool M.has, .int .i64 M.mem, .int .i64 M.src, .int .i64 M.pos, .int .i64 M.tot, .slice az.Ad M.data.length az.cd, .int .i64 M.hop, .int .i64 M.seq, .slice az.Ah M.hav.length az.ch, .slice az.An M.nee.length az.cn, .int .i64 M.idx, .int .i64 M.ent.s, .int .i64 M.ent.q, .int .i64 M.ent.c.kind, .int .i64 M.ent.c.who, .slice az.c.Ak M.ent.c.key.length az.c.ck, .slice az.c.Av M.ent.c.val.length az.c.cv, .slice az.c.Ao M.ent.c.old.length az.c.co], .bool true]) := he
       clear he
       subst he2
       have hoz2 : OwnG w3 w4 az M := hoz
       have HOZ := Lib.hid hoz2
       have HB34 := Lib.hid hBz
       have HZ4 := Lib.hid (Blk.new w4 29 #[.int .i64 0, .int .i64 0, .int .i64 0, .int .i64 0, .int .i64 0, .int .i64 0, .bool false, .int .i64 0, .int .i64 0, .int .i64 0, .int .i64 0, .slice none 0 0, .int .i64 0, .int .i64 0, .slice none 0 0, .slice none 0 0, .int .i64 0, .int .i64 0, .int .i64 0, .int .i64 0, .int .i64 0, .slice none 0 0, .slice none 0 0, .slice none 0 0])
       clear hoz hoz2 hBz hbz CO)
    | (refine wpList_store_row rfl 29 (.tmp 7) (.tmp 21) rfl w4.heap.size #[.int .i64 M.kind, .int .i64 M.frm, .int .i64 M.dst, .int .i64 M.view, .int .i64 M.inst, .int .i64 M.len, .bool M.has, .int .i64 M.mem, .int .i64 M.src, .int .i64 M.pos, .int .i64 M.tot, .slice az.Ad M.data.length az.cd, .int .i64 M.hop, .int .i64 M.seq, .slice az.Ah M.hav.length az.ch, .slice az.An M.nee.length az.cn, .int .i64 M.idx, .int .i64 M.ent.s, .int .i64 M.ent.q, .int .i64 M.ent.c.kind, .int .i64 M.ent.c.who, .slice az.c.Ak M.ent.c.key.length az.c.ck, .slice az.c.Av M.ent.c.val.length az.c.cv, .slice az.c.Ao M.ent.c.old.length az.c.co] rfl rfl 29 #[.int .i64 0, .int .i64 0, .int .i64 0, .int .i64 0, .int .i64 0, .int .i64 0, .bool false, .int .i64 0, .int .i64 0, .int .i64 0, .int .i64 0, .slice none 0 0, .int .i64 0, .int .i64 0, .slice none 0 0, .slice none 0 0, .int .i64 0, .int .i64 0, .int .i64 0, .int .i64 0, .int .i64 0, .slice none 0 0, .slice none 0 0, .slice none 0 0] HZ4.out (by kernel_rfl) rfl (by kernel_rfl) ?_)
    | fail)
  have b45 : Below w4.heap.size w4 ((w4.alloc (.cells #[.int .i64 0, .int .i64 0, .int .i64 0, .int .i64 0, .int .i64 0, .int .i64 0, .bool false, .int .i64 0, .int .i64 0, .int .i64 0, .int .i64 0, .slice none 0 0, .int .i64 0, .int .i64 0, .slice none 0 0, .slice none 0 0, .int .i64 0, .int .i64 0, .int .i64 0, .int .i64 0, .int .i64 0, .slice none 0 0, .slice none 0 0, .slice none 0 0] 29)).setRow w4.heap.size #[.int .i64 M.kind, .int .i64 M.frm, .int .i64 M.dst, .int .i64 M.view, .int .i64 M.inst, .int .i64 M.len, .bool M.has, .int .i64 M.mem, .int .i64 M.src, .int .i64 M.pos, .int .i64 M.tot, .slice az.Ad M.data.length az.cd, .int .i64 M.hop, .int .i64 M.seq, .slice az.Ah M.hav.length az.ch, .slice az.An M.nee.length az.cn, .int .i64 M.idx, .int .i64 M.ent.s, .int .i64 M.ent.q, .int .i64 M.ent.c.kind, .int .i64 M.ent.c.who, .slice az.c.Ak M.ent.c.key.length az.c.ck, .slice az.c.Av M.ent.c.val.length az.c.cv, .slice az.c.Ao M.ent.c.old.length az.c.co]) := below_setRow ((Below.refl _ _).alloc (Nat.le_refl _) _) (Nat.le_refl _) _
  have k7 := HZ4.out.row #[.int .i64 M.kind, .int .i64 M.frm, .int .i64 M.dst, .int .i64 M.view, .int .i64 M.inst, .int .i64 M.len, .bool M.has, .int .i64 M.mem, .int .i64 M.src, .int .i64 M.pos, .int .i64 M.tot, .slice az.Ad M.data.length az.cd, .int .i64 M.hop, .int .i64 M.seq, .slice az.Ah M.hav.length az.ch, .slice az.An M.nee.length az.cn, .int .i64 M.idx, .int .i64 M.ent.s, .int .i64 M.ent.q, .int .i64 M.ent.c.kind, .int .i64 M.ent.c.who, .slice az.c.Ak M.ent.c.key.length az.c.ck, .slice az.c.Av M.ent.c.val.length az.c.cv, .slice az.c.Ao M.ent.c.old.length az.c.co]
  obtain ⟨h7, hh7⟩ : ∃ h, w4.heap.size = h := ⟨_, rfl⟩
  generalize (w4.alloc (.cells #[.int .i64 0, .int .i64 0, .int .i64 0, .int .i64 0, .int .i64 0, .int .i64 0, .bool false, .int .i64 0, .int .i64 0, .int .i64 0, .int .i64 0, .slice none 0 0, .int .i64 0, .int .i64 0, .slice none 0 0, .slice none 0 0, .int .i64 0, .int .i64 0, .int .i64 0, .int .i64 0, .int .i64 0, .slice none 0 0, .slice none 0 0, .slice none 0 0] 29)).setRow w4.heap.size #[.int .i64 M.kind, .int .i64 M.frm, .int .i64 M.dst, .int .i64 M.view, .int .i64 M.inst, .int .i64 M.len, .bool M.has, .int .i64 M.mem, .int .i64 M.src, .int .i64 M.pos, .int .i64 M.tot, .slice az.Ad M.data.length az.cd, .int .i64 M.hop, .int .i64 M.seq, .slice az.Ah M.hav.length az.ch, .slice az.An M.nee.length az.cn, .int .i64 M.idx, .int .i64 M.ent.s, .int .i64 M.ent.q, .int .i64 M.ent.c.kind, .int .i64 M.ent.c.who, .slice az.c.Ak M.ent.c.key.length az.c.ck, .slice az.c.Av M.ent.c.val.length az.c.cv, .slice az.c.Ao M.ent.c.old.length az.c.co] = w5 at b45 k7 ⊢
  rw [hh7] at k7 ⊢
  have b35 : Below w3.heap.size w3 w5 := HB34.out.trans (b45.mono HB34.out.size)
  have b25 : Below w2.heap.size w2 w5 := HB23.out.trans (b35.mono HB23.out.size)
  have HRZ := Lib.hid (HOZ.out.rd.below' b45)
  have HRX := Lib.hid (HX.out.below' b25)
  have HK5 := Lib.hid (HK5.out.below b25)
  have HK7 := Lib.hid k7
  have HRL := Lib.hid ((Rd.own_ HO3.out).below b35)
  have HRL := Lib.hid HRL.out.fit
  have HB := Lib.hid (HB2.out.trans (b25.mono HB2.out.size))
  have SA : Hid (Calls Try.prog 18 #[.agg #[.int .i64 M.kind, .int .i64 M.frm, .int .i64 M.dst, .int .i64 M.view, .int .i64 M.inst, .int .i64 M.len, .bool M.has, .int .i64 M.mem, .int .i64 M.src, .int .i64 M.pos, .int .i64 M.tot, .slice ax.Ad M.data.length ax.cd, .int .i64 M.hop, .int .i64 M.seq, .slice ax.Ah M.hav.length ax.ch, .slice ax.An M.nee.length ax.cn, .int .i64 M.idx, .int .i64 M.ent.s, .int .i64 M.ent.q, .int .i64 M.ent.c.kind, .int .i64 M.ent.c.who, .slice ax.c.Ak M.ent.c.key.length ax.c.ck, .slice ax.c.Av M.ent.c.val.length ax.c.cv, .slice ax.c.Ao M.ent.c.old.length ax.c.co], .agg #[.int .i64 M.kind, .int .i64 M.frm, .int .i64 M.dst, .int .i64 M.view, .int .i64 M.inst, .int .i64 M.len, .bool M.has, .int .i64 M.mem, .int .i64 M.src, .int .i64 M.pos, .int .i64 M.tot, .slice az.Ad M.data.length az.cd, .int .i64 M.hop, .int .i64 M.seq, .slice az.Ah M.hav.length az.ch, .slice az.An M.nee.length az.cn, .int .i64 M.idx, .int .i64 M.ent.s, .int .i64 M.ent.q, .int .i64 M.ent.c.kind, .int .i64 M.ent.c.who, .slice az.c.Ak M.ent.c.key.length az.c.ck, .slice az.c.Av M.ent.c.val.length az.c.cv, .slice az.c.Ao M.ent.c.old.length az.c.co]] w5 fun e w' => e = .returned (.bool true) ∧ Below w5.heap.size w5 w') := Lib.hid (by
    have q := refSame11_eq (a := ax) (m := M) (a' := az) (m' := M) w5 rfl HF.out.wide HF.out.wide HRX.out HRZ.out
    rw [decide_eq_true rfl] at q
    exact q)
  have hl300 : ¬ (300 : Int) < (L.length : Int) := by have := HF.out.len; omega
  clear b45 b35 b25 k7 hh7 HOZ HO3 HB34 HB23 HX HRZ HRX HB2 HZ4
  go_upto_region 6 with (first
    | (refine wpList_load_rowG (by rfl) 29 (.tmp 5) rfl h5 rfl 29 #[.int .i64 M.kind, .int .i64 M.frm, .int .i64 M.dst, .int .i64 M.view, .int .i64 M.inst, .int .i64 M.len, .bool M.has, .int .i64 M.mem, .int .i64 M.src, .int .i64 M.pos, .int .i64 M.tot, .slice ax.Ad M.data.length ax.cd, .int .i64 M.hop, .int .i64 M.seq, .slice ax.Ah M.hav.length ax.ch, .slice ax.An M.nee.length ax.cn, .int .i64 M.idx, .int .i64 M.ent.s, .int .i64 M.ent.q, .int .i64 M.ent.c.kind, .int .i64 M.ent.c.who, .slice ax.c.Ak M.ent.c.key.length ax.c.ck, .slice ax.c.Av M.ent.c.val.length ax.c.cv, .slice ax.c.Ao M.ent.c.old.length ax.c.co] (0, 0) _ HK5.out Try.underlying29 rfl (by kernel_rfl) ?_)
    | (refine wpList_load_rowG (by rfl) 29 (.tmp 7) rfl h7 rfl 29 #[.int .i64 M.kind, .int .i64 M.frm, .int .i64 M.dst, .int .i64 M.view, .int .i64 M.inst, .int .i64 M.len, .bool M.has, .int .i64 M.mem, .int .i64 M.src, .int .i64 M.pos, .int .i64 M.tot, .slice az.Ad M.data.length az.cd, .int .i64 M.hop, .int .i64 M.seq, .slice az.Ah M.hav.length az.ch, .slice az.An M.nee.length az.cn, .int .i64 M.idx, .int .i64 M.ent.s, .int .i64 M.ent.q, .int .i64 M.ent.c.kind, .int .i64 M.ent.c.who, .slice az.c.Ak M.ent.c.key.length az.c.ck, .slice az.c.Av M.ent.c.val.length az.c.cv, .slice az.c.Ao M.ent.c.old.length az.c.co] (0, 0) _ HK7.out Try.underlying29 rfl (by kernel_rfl) ?_)
    | (go_at_call 18; refine SA.out.mono ?_; rintro en w6 ⟨rfl, hb6⟩; have HB6 := Lib.hid (HB.out.trans (hb6.mono HB.out.size)); have HRL6 := Lib.hid (HRL.out.below hb6); clear hb6 SA)
    | fail)
  have HRL := Lib.hid HRL6.out.fit
  clear HRL6 HK5 HK7 hl300
  go_wp2_with fail
  go_loopw [9, 10, 11, 12] (fun s9 s10 s11 s12 wr => ∃ k : Nat, k ≤ 8 * L.length ∧ s9 = .int .i64 (k : Int) ∧ Hid (Below w.heap.size w wr) ∧ Hid (Rd wr wr.heap.size A L.length (bv L))) (fun s9 _ _ _ _ => 8 * L.length - (intOf s9).toNat)
  case atStart => exact ⟨0, Nat.zero_le _, rfl, HB6, HRL⟩
  case round =>
    clear HB6 HRL HB
    obtain ⟨k, hk, rfl, HBR, HRR⟩ := hrel
    by_cases hlt : k < 8 * L.length
    · have hl294 := HF.out.len.2
      obtain ⟨q, r, hq, hr, hq2, hr2⟩ : ∃ q r : Nat, (k : Int) / 8 = (q : Int) ∧ bits .and .i64 (k : Int) 7 = (r : Int) ∧ q < L.length ∧ r < 8 :=
        ⟨k / 8, k % 8, by omega, by rw [fram_and_7]; omega, by omega, by omega⟩
      have hr8 : 2 ^ r < 256 := by have h2 := Nat.pow_lt_pow_right (a := 2) (show 1 < 2 by omega) hr2; have e8 : (2 : Nat) ^ 8 = 256 := rfl; omega
      have hLq : L[q]?.getD 0 < 256 := by rw [List.getElem?_eq_getElem (by omega)]; exact HF.out.lt _ (List.getElem_mem (by omega))
      have hNO : Fr.opn (L.set q (L[q]?.getD 0 ^^^ 2 ^ r)) = none := by
        have e := Fr.opn_bit HF.out.ok HF.out.wide q (by rw [HF.out.wrap]; exact hq2) (2 ^ r) hr8 (by have := Nat.two_pow_pos r; omega)
        rw [HF.out.wrap, List.getD_eq_getElem?_getD] at e
        exact e
      have hyy : L.getD q 0 = L[q]?.getD 0 := List.getD_eq_getElem?_getD
      obtain ⟨y, hy⟩ : ∃ y, L[q]?.getD 0 = y := ⟨_, rfl⟩
      rw [hy] at hLq hNO hyy
      have HNO := Lib.hid hNO
      have HYY := Lib.hid hyy
      clear hNO hy hyy
      have hx : bits .xor .u8 ((y : Nat) : Int) (2 ^ r % 256) = ((y ^^^ 2 ^ r : Nat) : Int) := by
        have e : ((2 : Int) ^ r % 256) = ((2 ^ r : Nat) : Int) := by
          have e1 : ((2 ^ r : Nat) : Int) = (2 : Int) ^ r := Int.natCast_pow 2 r
          rw [← e1]; exact Int.emod_eq_of_lt (Int.natCast_nonneg _) (Int.ofNat_lt.2 hr8)
        rw [e]; exact u8_xor_nat _ _ hLq hr8
      have HSL := Lib.hid (fram_set_lt HF.out.lt q (Crc.xor_lt8 hLq hr8))
      have HLQ := Lib.hid hLq
      clear hLq
      go_upto_region 10 with (first
        | (at_builtin
           refine wpList_append_bytes (W := wr) byteT (.tmp 43) (.tmp 44) rfl (by rfl) rfl (own_empty (Below.refl _ _) 5) rfl (HRR.out.alloc (Nat.le_refl _) _) (by omega) ((Below.refl _ _).alloc (Nat.le_refl _) _) ?_
           intro A1 c1 w6a hown1 hr1 hB1
           simp only [Nat.zero_add, List.nil_append] at hown1 hr1
           obtain ⟨g1, rfl, hg1, hg2⟩ := own_addr hown1 (by omega)
           have HO1 := Lib.hid hown1
           have HBA := Lib.hid hB1
           clear hown1 hr1 hB1)
        | fail)
      have hc1 := own_byte HO1.out hq2
      have hf1 := HO1.out.frozenAt q
      rw [HYY.out] at hc1
      go_upto_region 11 with fail
      have hown2 := own_set HO1.out q (y ^^^ 2 ^ r)
      have hB2 := HBA.out.setCell (p := ⟨g1, q, none⟩) hg1 (.int .u8 ((y ^^^ 2 ^ r : Nat) : Int))
      clear hc1 hf1 hx
      generalize w6a.setCell ⟨g1, q, none⟩ (.int .u8 ((y ^^^ 2 ^ r : Nat) : Int)) = w7 at hown2 hB2 ⊢
      have CO : Hid (Calls Try.prog 22 #[.slice (some ⟨g1, 0, none⟩) L.length c1] w7 (GotG wr w7 none)) := Lib.hid (fropen_is HNO.out (by rw [List.length_set]; omega) HSL.out (own_cap hown2).1 (Rd.own_ hown2) hB2)
      have HBB := Lib.hid hB2
      clear hown2 hB2 HBA HO1
      go_wp2_with (first
        | (go_at_call 22; refine CO.out.mono ?_; rintro e w8 ⟨a9, he, hoz, hBz, hbz⟩
           have he2 : e = .returned (.tuple #[.agg #[.int .i64 0, .int .i64 0, .int .i64 0, .int .i64 0, .int .i64 0, .int .i64 0, .bool false, .int .i64 0, .int .i64 0, .int .i64 0, .int .i64 0, .slice a9.Ad 0 a9.cd, .int .i64 0, .int .i64 0, .slice a9.Ah 0 a9.ch, .slice a9.An 0 a9.cn, .int .i64 0, .int .i64 0, .int .i64 0, .int .i64 0, .int .i64 0, .slice a9.c.Ak 0 a9.c.ck, .slice a9.c.Av 0 a9.c.cv, .slice a9.c.Ao 0 a9.c.co], .bool false]) := he
           clear he
           subst he2
           have HB8 := Lib.hid hBz
           have HZ8 := Lib.hid (Blk.new w8 29 #[.int .i64 0, .int .i64 0, .int .i64 0, .int .i64 0, .int .i64 0, .int .i64 0, .bool false, .int .i64 0, .int .i64 0, .int .i64 0, .int .i64 0, .slice none 0 0, .int .i64 0, .int .i64 0, .slice none 0 0, .slice none 0 0, .int .i64 0, .int .i64 0, .int .i64 0, .int .i64 0, .int .i64 0, .slice none 0 0, .slice none 0 0, .slice none 0 0])
           clear hoz hBz hbz CO)
        | (refine wpList_store_row rfl 29 (.tmp 11) (.tmp 63) rfl w8.heap.size #[.int .i64 0, .int .i64 0, .int .i64 0, .int .i64 0, .int .i64 0, .int .i64 0, .bool false, .int .i64 0, .int .i64 0, .int .i64 0, .int .i64 0, .slice a9.Ad 0 a9.cd, .int .i64 0, .int .i64 0, .slice a9.Ah 0 a9.ch, .slice a9.An 0 a9.cn, .int .i64 0, .int .i64 0, .int .i64 0, .int .i64 0, .int .i64 0, .slice a9.c.Ak 0 a9.c.ck, .slice a9.c.Av 0 a9.c.cv, .slice a9.c.Ao 0 a9.c.co] rfl rfl 29 #[.int .i64 0, .int .i64 0, .int .i64 0, .int .i64 0, .int .i64 0, .int .i64 0, .bool false, .int .i64 0, .int .i64 0, .int .i64 0, .int .i64 0, .slice none 0 0, .int .i64 0, .int .i64 0, .slice none 0 0, .slice none 0 0, .int .i64 0, .int .i64 0, .int .i64 0, .int .i64 0, .int .i64 0, .slice none 0 0, .slice none 0 0, .slice none 0 0] HZ8.out (by kernel_rfl) rfl (by kernel_rfl) ?_)
        | fail)
      have b89 : Below w8.heap.size w8 ((w8.alloc (.cells #[.int .i64 0, .int .i64 0, .int .i64 0, .int .i64 0, .int .i64 0, .int .i64 0, .bool false, .int .i64 0, .int .i64 0, .int .i64 0, .int .i64 0, .slice none 0 0, .int .i64 0, .int .i64 0, .slice none 0 0, .slice none 0 0, .int .i64 0, .int .i64 0, .int .i64 0, .int .i64 0, .int .i64 0, .slice none 0 0, .slice none 0 0, .slice none 0 0] 29)).setRow w8.heap.size #[.int .i64 0, .int .i64 0, .int .i64 0, .int .i64 0, .int .i64 0, .int .i64 0, .bool false, .int .i64 0, .int .i64 0, .int .i64 0, .int .i64 0, .slice a9.Ad 0 a9.cd, .int .i64 0, .int .i64 0, .slice a9.Ah 0 a9.ch, .slice a9.An 0 a9.cn, .int .i64 0, .int .i64 0, .int .i64 0, .int .i64 0, .int .i64 0, .slice a9.c.Ak 0 a9.c.ck, .slice a9.c.Av 0 a9.c.cv, .slice a9.c.Ao 0 a9.c.co]) := below_setRow ((Below.refl _ _).alloc (Nat.le_refl _) _) (Nat.le_refl _) _
      have br9 : Below wr.heap.size wr ((w8.alloc (.cells #[.int .i64 0, .int .i64 0, .int .i64 0, .int .i64 0, .int .i64 0, .int .i64 0, .bool false, .int .i64 0, .int .i64 0, .int .i64 0, .int .i64 0, .slice none 0 0, .int .i64 0, .int .i64 0, .slice none 0 0, .slice none 0 0, .int .i64 0, .int .i64 0, .int .i64 0, .int .i64 0, .int .i64 0, .slice none 0 0, .slice none 0 0, .slice none 0 0] 29)).setRow w8.heap.size #[.int .i64 0, .int .i64 0, .int .i64 0, .int .i64 0, .int .i64 0, .int .i64 0, .bool false, .int .i64 0, .int .i64 0, .int .i64 0, .int .i64 0, .slice a9.Ad 0 a9.cd, .int .i64 0, .int .i64 0, .slice a9.Ah 0 a9.ch, .slice a9.An 0 a9.cn, .int .i64 0, .int .i64 0, .int .i64 0, .int .i64 0, .int .i64 0, .slice a9.c.Ak 0 a9.c.ck, .slice a9.c.Av 0 a9.c.cv, .slice a9.c.Ao 0 a9.c.co]) := HB8.out.trans (b89.mono HB8.out.size)
      go_roundw
      case rel => exact ⟨k + 1, by omega, by go_num, Lib.hid (HBR.out.trans (br9.mono HBR.out.size)), Lib.hid (HRR.out.below br9).fit⟩
      case measure => simp [intOf]; omega
    · go_wp2_with (go_at_call 23; refine (framAwake _).mono ?_; rintro e w6 ⟨rfl, hB6⟩)
      go_ret
      exact ⟨rfl, HBR.out.trans (hB6.mono HBR.out.size)⟩
theorem framTurned_walk (a0 : Int) (a1 : Int) (w : World) (w0 : (Lit.int .i64 a0).wf = true) (w1 : (Lit.int .i64 a1).wf = true) : Calls Try.prog 7 #[.int .i64 a0, .int .i64 a1] w fun e w' => e = .returned (.bool true) ∧ Below w.heap.size w w' := framTurned_raw a0 a1 w
end Go.Proofs.Ytlfkgpllleogoaa

