/- ToknRisesWalk -/
import Derived.Test.YtbgagmpifaakgaaTK50
import Derived.Below
import Derived.Deep.RegionHeld
import Derived.Lib.Hide
import Derived.StillTail
namespace Go.Proofs.Ytbgagmpifaakgaa
open Go.RowKit
set_option linter.unusedVariables false
set_option maxHeartbeats 16000000 in
set_option maxRecDepth 100000 in
theorem toknRises_walk (a0 : Int) (a1 : Option Addr) (len1 cap1 : Nat) (z1 : List Int) (a2 : Int) (w : World) (w0 : (Lit.int .i64 a0).wf = true) (w1 : IsRow .i64 w a1 len1 cap1 z1) (w2 : (Lit.int .i64 a2).wf = true) :
    Calls Try.prog 5 #[.int .i64 a0, .slice a1 len1 cap1, .int .i64 a2] w fun e w' => e = .returned (.bool true) ∧ Below w.heap.size w w' := by
  obtain ⟨hz1, hzl1, hle1, hcap1⟩ := w1.ints
  obtain ⟨zs, hzs⟩ : ∃ x, z1.take len1 = x := ⟨_, rfl⟩
  rw [hzs] at hz1 hzl1
  have hn1 : len1 ≤ 9223372036854775807 := by unfold maxLen at *; omega
  have HL1 := Lib.hid hz1
  have HN1 := Lib.hid hzl1
  clear w0 w1 w2 hzs hz1 hzl1 hle1 hcap1
  have c0 := and_255 a0
  have c2 := and_255 a2
  obtain ⟨N, hN⟩ : ∃ N : Nat, a0 % 256 % 7 + 1 = (N : Int) := ⟨(a0 % 256 % 7 + 1).toNat, by omega⟩
  obtain ⟨LEN, hLEN⟩ : ∃ x, a2 % 256 = x := ⟨_, rfl⟩
  have hL0 : 0 ≤ LEN ∧ LEN ≤ 255 := by omega
  have hN7 : 1 ≤ N ∧ N ≤ 7 := by omega
  have hwn : IntKind.i64.wrap (N : Int) = (N : Int) := IntWalk.i64_in _ (by omega)
  rw [hLEN] at c2
  have HNN := Lib.hid hN7
  have HLL := Lib.hid hL0
  have CF := Lib.hid (first17 w 8 (N : Int) LEN)
  have HR0 := Lib.hid (Tk.Ris.start N LEN hN7.1 hN7.2)
  clear hLEN hL0 hN7
  go_enter Try.func5, Try.ntmps5
  go_wp2_with fail
  refine CF.out.mono ?_
  rintro e x1 ⟨aa, rfl, ho1, hB1, hb1⟩
  obtain ⟨M, hM⟩ : ∃ M, Tk.first 8 (N : Int) LEN = M := ⟨_, rfl⟩
  rw [hM] at ho1 HR0 ⊢
  have HO1 := Lib.hid ho1
  have HB1 := Lib.hid hb1
  clear ho1 hB1 hb1 CF hM
  unfold msgV msgC
  go_upto_region 3 with (first
    | (refine wpList_store_row rfl 29 (.tmp 7) (.tmp 31) rfl x1.heap.size #[.int .i64 M.kind, .int .i64 M.frm, .int .i64 M.dst, .int .i64 M.view, .int .i64 M.inst, .int .i64 M.len, .bool M.has, .int .i64 M.mem, .int .i64 M.src, .int .i64 M.pos, .int .i64 M.tot, .slice aa.Ad M.data.length aa.cd, .int .i64 M.hop, .int .i64 M.seq, .slice aa.Ah M.hav.length aa.ch, .slice aa.An M.nee.length aa.cn, .int .i64 M.idx, .int .i64 M.ent.s, .int .i64 M.ent.q, .int .i64 M.ent.c.kind, .int .i64 M.ent.c.who, .slice aa.c.Ak M.ent.c.key.length aa.c.ck, .slice aa.c.Av M.ent.c.val.length aa.c.cv, .slice aa.c.Ao M.ent.c.old.length aa.c.co] rfl rfl 29 #[.int .i64 0, .int .i64 0, .int .i64 0, .int .i64 0, .int .i64 0, .int .i64 0, .bool false, .int .i64 0, .int .i64 0, .int .i64 0, .int .i64 0, .slice none 0 0, .int .i64 0, .int .i64 0, .slice none 0 0, .slice none 0 0, .int .i64 0, .int .i64 0, .int .i64 0, .int .i64 0, .int .i64 0, .slice none 0 0, .slice none 0 0, .slice none 0 0] (Blk.new x1 29 #[.int .i64 0, .int .i64 0, .int .i64 0, .int .i64 0, .int .i64 0, .int .i64 0, .bool false, .int .i64 0, .int .i64 0, .int .i64 0, .int .i64 0, .slice none 0 0, .int .i64 0, .int .i64 0, .slice none 0 0, .slice none 0 0, .int .i64 0, .int .i64 0, .int .i64 0, .int .i64 0, .int .i64 0, .slice none 0 0, .slice none 0 0, .slice none 0 0]) (by kernel_rfl) rfl (by kernel_rfl) ?_)
    | fail)
  obtain ⟨g, x2, hgE, hwE, hbE, hkE⟩ := boxed x1 #[.int .i64 0, .int .i64 0, .int .i64 0, .int .i64 0, .int .i64 0, .int .i64 0, .bool false, .int .i64 0, .int .i64 0, .int .i64 0, .int .i64 0, .slice none 0 0, .int .i64 0, .int .i64 0, .slice none 0 0, .slice none 0 0, .int .i64 0, .int .i64 0, .int .i64 0, .int .i64 0, .int .i64 0, .slice none 0 0, .slice none 0 0, .slice none 0 0] #[.int .i64 M.kind, .int .i64 M.frm, .int .i64 M.dst, .int .i64 M.view, .int .i64 M.inst, .int .i64 M.len, .bool M.has, .int .i64 M.mem, .int .i64 M.src, .int .i64 M.pos, .int .i64 M.tot, .slice aa.Ad M.data.length aa.cd, .int .i64 M.hop, .int .i64 M.seq, .slice aa.Ah M.hav.length aa.ch, .slice aa.An M.nee.length aa.cn, .int .i64 M.idx, .int .i64 M.ent.s, .int .i64 M.ent.q, .int .i64 M.ent.c.kind, .int .i64 M.ent.c.who, .slice aa.c.Ak M.ent.c.key.length aa.c.ck, .slice aa.c.Av M.ent.c.val.length aa.c.cv, .slice aa.c.Ao M.ent.c.old.length aa.c.co] 29
  try rw [hgE, hwE]
  have HG : Hid (w.heap.size ≤ g) := Lib.hid (by rw [← hgE]; exact HB1.out.size)
  have HK : Hid (Blk x2 g 29 (msgC aa M)) := Lib.hid hkE
  have HO : Hid (OwnG w x2 aa M) := Lib.hid (HO1.out.below hbE)
  have HB : Hid (Below w.heap.size w x2) := Lib.hid (HB1.out.trans (hbE.mono HB1.out.size))
  clear hgE hwE hbE hkE HO1 HB1
  obtain ⟨q, hq⟩ : ∃ q, x2.heap.size = q := ⟨_, rfl⟩
  have HQ := Lib.hid hq
  clear hq
  go_wp2_with (first
    | (at_make
       refine wpList_make_ints (W := w) cellI rfl (.tmp 32) (.tmp 32) rfl (n := N) rfl rfl (by have := HNN.out; omega) HB.out ?_
       intro x3 hown3 hB3 hg3
       rw [HQ.out]
       have HS : Hid (RisM w x3 N q g aa M (List.replicate N 0)) := Lib.hid (by
         have hb3 : Below x2.heap.size x2 x3 := (Below.refl _ _).grown hg3 (Nat.le_refl _) (fun k hk => by cases hk)
         rw [HQ.out] at hown3
         exact ⟨HK.out.below hb3, (OwX.old HO.out.h (by rw [HQ.out]; exact Nat.le_refl _)).below hb3, (OwX.old HO.out.n (by rw [HQ.out]; exact Nat.le_refl _)).below hb3, hown3, hB3, HG.out⟩)
       clear hown3 hB3 hg3 HK HO HB HQ)
    | fail)
  -- have: length for each
  go_loopw [36] (fun s36 wr => ∃ k : Nat, k ≤ N ∧ s36 = .int .i64 (k : Int) ∧ Hid (RisM w wr N q g aa M (repL N k LEN))) (fun s36 _ => (N - intOf s36).toNat)
  case atStart => exact ⟨0, by omega, rfl, by rw [repL_zero]; exact HS⟩
  case round =>
    clear HS
    obtain ⟨k, hk, rfl, HS⟩ := hrel
    by_cases hlt : k < N
    · obtain ⟨z, hz⟩ : ∃ z, (repL N k LEN)[k]? = some z := ⟨_, List.getElem?_eq_getElem (by simp [repL]; omega)⟩
      obtain ⟨c1, f1⟩ := ownI_cell HS.out.hv hz
      have hwk : IntKind.i64.wrap (k : Int) = (k : Int) := IntWalk.i64_in _ (by have := HNN.out; omega)
      have hwi : IntKind.i64.wrap ((k : Int) + 1) = (k : Int) + 1 := IntWalk.i64_in _ (by have := HNN.out; omega)
      have HP := Lib.hid (HS.out.put (p := k) LEN)
      have hset : (repL N k LEN).set k LEN = repL N (k + 1) LEN := by
        apply List.ext_getElem?
        intro j
        simp only [repL, List.getElem?_set, List.getElem?_append, List.getElem?_replicate, List.length_append, List.length_replicate]
        split <;> split <;> (try split) <;> (try split) <;> first | rfl | omega | (simp; omega)
      rw [hset] at HP
      clear hz hset
      go_wp2_with fail
      go_roundw
      case rel => exact ⟨k + 1, by omega, by go_num, HP⟩
      case measure => simp [intOf]; omega
    · obtain rfl : k = N := by omega
      have HS1 := HS.out
      rw [repL_all] at HS1
      have HS := Lib.hid HS1
      have hsf : Tk.safe (List.replicate k LEN) = LEN := by
        have h1 := HNN.out.1
        have h2 := Tk.safe_le (l := List.replicate k LEN) (y := LEN) (by rw [List.mem_replicate]; exact ⟨by omega, rfl⟩)
        have h3 := Tk.le_safe (l := List.replicate k LEN) (b := LEN) (by intro e; have := congrArg List.length e; simp at this; omega) (fun y hy => by rw [List.mem_replicate] at hy; rw [hy.2]; exact Int.le_refl _)
        omega
      have HSF := Lib.hid hsf
      clear hsf HS1
      have HL1r := Lib.hid HL1.out.fit
      clear HL1
      go_wp2_with fail
      go_loopw [10, 11] (fun s10 s11 wr => ∃ (i : Nat) (a : GA) (T : Mg) (H : List Int), s10 = .int .i64 (Tk.safe H) ∧ s11 = .int .i64 (i : Int) ∧ i ≤ 60 ∧ i ≤ len1 ∧ Hid (Tk.Ris k LEN i T H) ∧ Hid (RisM w wr k q g a T H)) (fun _ s11 _ => (60 - intOf s11).toNat)
      case atStart => exact ⟨0, aa, M, List.replicate k LEN, by rw [HSF.out], rfl, by omega, by omega, HR0, HS⟩
      case round =>
        clear HS HR0 HSF
        obtain ⟨i, a, T, H, rfl, rfl, hi60, hil, HR, HS⟩ := hrel
        by_cases hlt : i < len1 ∧ i < 60
        · obtain ⟨hl1, hl2⟩ := hlt
          have hl1' : (i : Int) < (len1 : Int) := by omega
          have hl2' : (i : Int) < 60 := by omega
          obtain ⟨z, hz⟩ : ∃ z, zs[i]? = some z := ⟨_, List.getElem?_eq_getElem (by have := HN1.out; omega)⟩
          have HLr := Lib.hid (HL1r.out.below HS.out.bel)
          obtain ⟨b, o, rfl, _⟩ := HLr.out.int_at hl1
          have cl := HLr.out.int_cell hl1 hz
          obtain ⟨p, hp⟩ : ∃ p, i % k = p := ⟨_, rfl⟩
          have hpk : p < k := by rw [← hp]; exact Nat.mod_lt _ (by have := HNN.out; omega)
          have hpi : (i : Int) % (k : Int) = (p : Int) := by omega
          have hpt : Int.tmod (i : Int) (k : Int) = (p : Int) := by rw [Int.tmod_eq_emod_of_nonneg (by omega)]; exact hpi
          have hk0 : ¬ (k : Int) = 0 := by have := HNN.out; omega
          obtain ⟨f, hf⟩ : ∃ f, z % 8 = f := ⟨_, rfl⟩
          have a7 := and_7 z
          rw [hf] at a7
          obtain ⟨d, hd⟩ : ∃ f, z / 8 % 8 = f := ⟨_, rfl⟩
          have b7 := and_7 (z / 8)
          rw [hd] at b7
          have HF : Hid (0 ≤ f ∧ f ≤ 7 ∧ 0 ≤ d ∧ d ≤ 7) := Lib.hid (by omega)
          have HLE := HR.out.len
          obtain ⟨x, hx⟩ : ∃ x, H[p]? = some x := ⟨_, List.getElem?_eq_getElem (by omega)⟩
          have hxm : x ∈ H := List.mem_of_getElem? hx
          obtain ⟨cx, fx⟩ := ownI_cell HS.out.hv hx
          obtain ⟨rm, hrm⟩ : ∃ r, Tk.room T.seq (Tk.safe H) = r := ⟨_, rfl⟩
          have hrm4 : 0 ≤ rm ∧ rm ≤ 4 := by rw [← hrm]; unfold Tk.room; split <;> omega
          obtain ⟨mf, hmf⟩ : ∃ r, min f rm = r := ⟨_, rfl⟩
          obtain ⟨S, hS⟩ : ∃ r, T.seq + mf = r := ⟨_, rfl⟩
          obtain ⟨h', hh⟩ : ∃ r, min (x + d) S = r := ⟨_, rfl⟩
          have hb1 := HR.out.s0; have hb2 := HR.out.s1; have hb3 := HR.out.lo x hxm; have hb4 := HR.out.hi x hxm
          have hLL := HLL.out; have hFF := HF.out
          have HBD : Hid (0 ≤ T.seq ∧ T.seq ≤ 1000 ∧ 0 ≤ S ∧ S ≤ 1000 ∧ 0 ≤ x ∧ x ≤ 1000 ∧ 0 ≤ h' ∧ h' ≤ 1000 ∧ T.seq ≤ S) := Lib.hid (by omega)
          have hmin1 : ∀ ts t (w : World), (Builtin.min_ ts t #[.int .i64 f, .int .i64 rm]).run Try.prog w = .ok (.int .i64 mf) w := fun ts t w => by rw [run_min_int2]; congr 2; omega
          have hmin2 : ∀ ts t (w : World), (Builtin.min_ ts t #[.int .i64 (x + d), .int .i64 S]).run Try.prog w = .ok (.int .i64 h') w := fun ts t w => by rw [run_min_int2]; congr 2; omega
          have hw1 : IntKind.i64.wrap (T.seq + mf) = S := by rw [hS]; exact IntWalk.i64_in _ (by omega)
          have hw2 : IntKind.i64.wrap (x + d) = x + d := IntWalk.i64_in _ (by omega)
          have hw9 : wrap64 (x + d) = x + d := IntWalk.wrap64_in _ (by omega)
          have hif : (if S < x + d then S else x + d) = h' := by split <;> omega
          have hw3 : IntKind.i64.wrap (h' + 1) = h' + 1 := IntWalk.i64_in _ (by omega)
          have hw4 : IntKind.i64.wrap S = S := IntWalk.i64_in _ (by omega)
          have HX := Lib.hid hx
          have HRM := Lib.hid hrm
          have HSS := Lib.hid (And.intro hmf (And.intro hS hh))
          have hsl : -1099511627776 ≤ Tk.safe H ∧ Tk.safe H ≤ 1099511627776 := by
            have h1 := Tk.safe_le hxm
            have h2 := Tk.le_safe (l := H) (b := LEN) (by intro e; rw [e] at hxm; cases hxm) HR.out.lo
            omega
          have CR : Hid (Calls Try.prog 9 #[.agg #[.int .i64 T.kind, .int .i64 T.frm, .int .i64 T.dst, .int .i64 T.view, .int .i64 T.inst, .int .i64 T.len, .bool T.has, .int .i64 T.mem, .int .i64 T.src, .int .i64 T.pos, .int .i64 T.tot, .slice a.Ad T.data.length a.cd, .int .i64 T.hop, .int .i64 T.seq, .slice a.Ah T.hav.length a.ch, .slice a.An T.nee.length a.cn, .int .i64 T.idx, .int .i64 T.ent.s, .int .i64 T.ent.q, .int .i64 T.ent.c.kind, .int .i64 T.ent.c.who, .slice a.c.Ak T.ent.c.key.length a.c.ck, .slice a.c.Av T.ent.c.val.length a.c.cv, .slice a.c.Ao T.ent.c.old.length a.c.co]] wr fun e w' => e = .returned (.int .i64 rm) ∧ Below wr.heap.size wr w') := Lib.hid (room17 (a := a) (m := T) wr (by rw [HR.out.hav]; exact hrm) HS.out.h.rd (by rw [HR.out.hav]; omega) (by omega) (by rw [HR.out.hav]; exact hsl))
          clear hz hp hf hd HLE hx hxm hrm hrm4 hmf hS hh hb1 hb2 hb3 hb4 hLL hFF hsl
          have ct := HS.out.blk.cell 13
          simp [msgC] at ct
          go_upto_region 17 with (first
            | (refine wpList_load_row rfl 29 (.tmp 7) rfl g rfl 29 #[.int .i64 T.kind, .int .i64 T.frm, .int .i64 T.dst, .int .i64 T.view, .int .i64 T.inst, .int .i64 T.len, .bool T.has, .int .i64 T.mem, .int .i64 T.src, .int .i64 T.pos, .int .i64 T.tot, .slice a.Ad T.data.length a.cd, .int .i64 T.hop, .int .i64 T.seq, .slice a.Ah T.hav.length a.ch, .slice a.An T.nee.length a.cn, .int .i64 T.idx, .int .i64 T.ent.s, .int .i64 T.ent.q, .int .i64 T.ent.c.kind, .int .i64 T.ent.c.who, .slice a.c.Ak T.ent.c.key.length a.c.ck, .slice a.c.Av T.ent.c.val.length a.c.cv, .slice a.c.Ao T.ent.c.old.length a.c.co] (0, 0) _ HS.out.blk Try.underlying29 rfl (by kernel_rfl) ?_)
            | (go_at_call 9; refine CR.out.mono ?_; rintro e x5 ⟨rfl, hb5⟩
               have cl := (Below.cell hb5 (World.block_lt_of_cell? _ _ cl)).trans cl
               have cx := (Below.cell hb5 (World.block_lt_of_cell? _ _ cx)).trans cx
               have ct := (Below.cell hb5 (World.block_lt_of_cell? _ _ ct)).trans ct
               have HS5 := Lib.hid (HS.out.below hb5)
               clear hb5)
            | fail)
          clear CR cx fx
          obtain ⟨cx, fx⟩ := ownI_cell HS5.out.hv HX.out
          have HP := Lib.hid ((HS5.out.below ((Below.refl _ _).drew)).put (p := p) h')
          clear HS
          go_region
          try simp only [b7, hw9, hif]
          obtain ⟨x6, hx6⟩ : ∃ y, (x5.setCell ⟨q, p, none⟩ (.int .i64 h')).drew = y := ⟨_, rfl⟩
          have hx6' : x5.drew.setCell ⟨q, p, none⟩ (.int .i64 h') = x6 := hx6
          rw [hx6'] at HP
          rw [hx6]
          clear hx6'
          clear hx6 cl cx fx ct HS5 hmin1 hmin2 hw1 hw2 hw9 hif a7 b7 hpt hpi hk0
          -- what is missing
          obtain ⟨H', hH'⟩ : ∃ l, H.set p h' = l := ⟨_, rfl⟩
          have HXP : Hid (H'[p]? = some h') := Lib.hid (by rw [← hH', List.getElem?_set_self (by have := (List.getElem?_eq_some_iff.1 HX.out).1; omega)])
          have HH' := Lib.hid hH'
          rw [hH'] at HP
          clear hH'
          obtain ⟨cx, fx⟩ := ownI_cell HP.out.hv HXP.out
          have HBS := Lib.hid HBD.out
          go_upto_block 4 with fail
          go_cut [16, 17] from 92 to 105 (fun s16 s17 wx => ∃ (Am : Option Addr) (cm : Nat) (mis : List Int), s16 = .slice Am mis.length cm ∧ mis.length ≤ 8 ∧ Hid (∀ y ∈ mis, y ≤ S) ∧ Hid (Rd wx wx.heap.size Am mis.length (iv mis)) ∧ Hid (Below x6.heap.size x6 wx))
          case first =>
            go_wp2_with fail
            go_loopw [16, 17] (fun s16 s17 wy => ∃ (Am : Option Addr) (cm : Nat) (mis : List Int), s17 = .int .i64 (h' + 1 + (mis.length : Int)) ∧ s16 = .slice Am mis.length cm ∧ mis.length ≤ 8 ∧ Hid (∀ y ∈ mis, y ≤ S) ∧ Hid (OwnI x6 wy Am mis.length cm mis) ∧ Hid (Below x6.heap.size x6 wy)) (fun s16 s17 _ => (h' + 20 - intOf s17).toNat)
            case atStart => exact ⟨none, 0, [], by simp, rfl, by simp, Lib.hid (fun y hy => by cases hy), Lib.hid (ownI_nil _ _), Lib.hid (Below.refl _ _)⟩
            case round =>
              rename_i wy0
              obtain ⟨Am, cm, mis, rfl, rfl, h8, HMI, HOM, HBM⟩ := hrel
              obtain ⟨m, hm⟩ : ∃ m, mis.length = m := ⟨_, rfl⟩
              rw [hm] at h8 HOM ⊢
              have HM := Lib.hid hm
              have hq := HBS.out
              by_cases hle : h' + 1 + (m : Int) ≤ S
              · by_cases hlt8 : m < 8
                · have h8' : (m : Int) < 8 := by omega
                  have hwn : IntKind.i64.wrap (h' + 1 + (m : Int) + 1) = h' + 1 + (m : Int) + 1 := IntWalk.i64_in _ (by omega)
                  clear hq hm
                  go_wp2_with (first
                    | (at_builtin
                       refine wpList_append_cells (W := x6) cellI (.tmp 102) (.tmp 104) rfl (by rfl) rfl (ownsRow_below HOM.out ((Below.refl _ _).alloc (Nat.le_refl _) _)) rfl (Rd.oneV _ _ _) (iv_one [_]) (by omega) (by omega) (HBM.out.alloc HBM.out.size _) ?_
                       intro A9 c9 w9 hown9 hB9 hg9)
                    | fail)
                  go_roundw
                  case rel =>
                    refine ⟨A9, c9, mis ++ [h' + 1 + (m : Int)], ?_, ?_, ?_, Lib.hid (fun y hy => ?_), Lib.hid ?_, Lib.hid hB9⟩
                    · rw [List.length_append, HM.out]; simp; omega
                    · rw [List.length_append, HM.out]; rfl
                    · rw [List.length_append, HM.out]; simp; omega
                    · rcases List.mem_append.1 hy with h | h
                      · exact HMI.out y h
                      · simp at h; omega
                    · rw [List.length_append, HM.out]
                      unfold OwnI
                      rw [iv_snoc17]
                      exact hown9
                  case measure => simp [intOf]; omega
                · have h8' : ¬ (m : Int) < 8 := by omega
                  clear hq
                  go_wp2_with fail
                  go_meet
                  exact ⟨Am, cm, mis, by rw [HM.out], by rw [HM.out]; omega, HMI, Lib.hid (by rw [HM.out]; exact Rd.own_ HOM.out), HBM⟩
              · clear hq
                go_wp2_with fail
                go_meet
                exact ⟨Am, cm, mis, by rw [HM.out], by rw [HM.out]; omega, HMI, Lib.hid (by rw [HM.out]; exact Rd.own_ HOM.out), HBM⟩
          rename_i hcut
          obtain ⟨Am, cm, mis, rfl, hm8, HMI, HRM8, HBM⟩ := hcut
          rename World => x7
          have HP := Lib.hid (HP.out.below HBM.out)
          clear cx fx HBM
          -- the token is handed on
          obtain ⟨nx, hnx⟩ : ∃ x : Int, ((p : Int) + 1).tmod (k : Int) = x := ⟨_, rfl⟩
          have hk0 : ¬ k = 0 := by have := HNN.out; omega
          have hpn : IntKind.i64.wrap ((p : Int) + 1) = (p : Int) + 1 := IntWalk.i64_in _ (by omega)
          obtain ⟨U, hU⟩ : ∃ U, Tk.pass T (p : Int) (p : Int) nx h' f [] mis = U := ⟨_, rfl⟩
          obtain ⟨I, hI⟩ : ∃ I, Tk.inn T.nee [] = I := ⟨_, rfl⟩
          have hxm := List.mem_of_getElem? HX.out
          have hsl : 0 ≤ Tk.safe H ∧ Tk.safe H ≤ 1000 := by
            have h1 := Tk.safe_le hxm
            have h2 := Tk.le_safe (l := H) (b := LEN) (by intro e; rw [e] at hxm; cases hxm) HR.out.lo
            have := HLL.out; have := HBS.out
            omega
          have CP : Hid (∀ W, Below x7.heap.size x7 W → Calls Try.prog 7 #[.agg #[.int .i64 T.kind, .int .i64 T.frm, .int .i64 T.dst, .int .i64 T.view, .int .i64 T.inst, .int .i64 T.len, .bool T.has, .int .i64 T.mem, .int .i64 T.src, .int .i64 T.pos, .int .i64 T.tot, .slice a.Ad T.data.length a.cd, .int .i64 T.hop, .int .i64 T.seq, .slice a.Ah T.hav.length a.ch, .slice a.An T.nee.length a.cn, .int .i64 T.idx, .int .i64 T.ent.s, .int .i64 T.ent.q, .int .i64 T.ent.c.kind, .int .i64 T.ent.c.who, .slice a.c.Ak T.ent.c.key.length a.c.ck, .slice a.c.Av T.ent.c.val.length a.c.cv, .slice a.c.Ao T.ent.c.old.length a.c.co], .int .i64 (p : Int), .int .i64 (p : Int), .int .i64 nx, .int .i64 h', .int .i64 f, .slice none 0 0, .slice Am mis.length cm] W (GotP W W U I)) := Lib.hid (fun W hW =>
            pass17 W (a := a) (m := T) (p : Int) (p : Int) nx h' f (has := []) (mis := mis) (by rw [HR.out.ent]; exact Cm.Fits.zero) (by rw [HR.out.data]; simp) (by rw [HR.out.hav]; have := HR.out.len; omega) (by have := HR.out.n8; omega)
              ((HP.out.rdG HR.out.data HR.out.ent).below hW) (Rd.none_ W 0 _) (HRM8.out.below hW) (by omega) (by omega) (by have := HBS.out; omega) (by rw [HR.out.hav]; omega) (by rw [HR.out.hop]; omega) (by omega) hU hI)
          obtain ⟨cx, fx⟩ := ownI_cell HP.out.hv HXP.out
          have HU := Lib.hid hU
          clear hU hI hxm hsl
          go_upto_region 23 with fail
          go_cut [18, 19] from 106 to 122 (fun s18 s19 wx => ∃ (g9 : Nat) (au : GA) (A9 : Option Addr) (c9 n9 : Nat), s18 = .pointer (some ⟨g9, 0, none⟩) ∧ s19 = .slice A9 n9 c9 ∧ Hid (RisM w wx k q g a T H') ∧ Hid (RisM w wx k q g9 au U H'))
          case first =>
            go_upto_region 23 with fail
            refine wp_region_held_drew (S := fun wq => Below x7.heap.size x7 wq) (by kernel_rfl) (Below.refl _ _).drew (fun hS0 => ?_)
            generalize x7.drew = xa at hS0 ⊢
            have hS := Lib.hid hS0
            clear hS0
            refine wpAnyH_take (i := 1) (v := .int .i64 (p : Int)) rfl (by kernel_rfl) (by kernel_rfl) (by kernel_rfl) (fun _ _ _ h => h) (Or.inl ⟨by kernel_rfl, fun w _ => by go_simp⟩) hS.out ?_
            refine wpAnyH_take (i := 2) (v := .int .i64 (p : Int)) rfl (by kernel_rfl) (by kernel_rfl) (by kernel_rfl) (fun _ _ _ h => h) (Or.inl ⟨by kernel_rfl, fun w _ => by go_simp⟩) hS.out ?_
            refine wpAnyH_take (i := 3) (v := .int .i64 (p : Int)) rfl (by kernel_rfl) (by kernel_rfl) (by kernel_rfl) (fun _ _ _ h => h) (Or.inl ⟨by kernel_rfl, fun w _ => by go_simp⟩) hS.out ?_
            refine wpAnyH_take (i := 4) (v := .int .i64 ((p : Int) + 1)) rfl (by kernel_rfl) (by kernel_rfl) (by kernel_rfl) (fun _ _ _ h => h) (Or.inl ⟨by kernel_rfl, fun w _ => by go_simp⟩) hS.out ?_
            refine wpAnyH_take (i := 5) (v := .int .i64 (k : Int)) rfl (by kernel_rfl) (by kernel_rfl) (by kernel_rfl) (fun _ _ _ h => h) (Or.inl ⟨by kernel_rfl, fun w _ => by go_simp⟩) hS.out ?_
            refine wpAnyH_take (i := 6) (v := .int .i64 nx) rfl (by kernel_rfl) (by kernel_rfl) (by kernel_rfl) (fun _ _ _ h => h) (Or.inl ⟨by kernel_rfl, fun w _ => by go_simp⟩) hS.out ?_
            refine wpAnyH_take (i := 0) (v := .agg #[.int .i64 T.kind, .int .i64 T.frm, .int .i64 T.dst, .int .i64 T.view, .int .i64 T.inst, .int .i64 T.len, .bool T.has, .int .i64 T.mem, .int .i64 T.src, .int .i64 T.pos, .int .i64 T.tot, .slice a.Ad T.data.length a.cd, .int .i64 T.hop, .int .i64 T.seq, .slice a.Ah T.hav.length a.ch, .slice a.An T.nee.length a.cn, .int .i64 T.idx, .int .i64 T.ent.s, .int .i64 T.ent.q, .int .i64 T.ent.c.kind, .int .i64 T.ent.c.who, .slice a.c.Ak T.ent.c.key.length a.c.ck, .slice a.c.Av T.ent.c.val.length a.c.cv, .slice a.c.Ao T.ent.c.old.length a.c.co]) rfl (by kernel_rfl) (by kernel_rfl) (by kernel_rfl) (fun _ _ _ h => h) (yieldsIf_load_mid (by kernel_rfl) 29 (.tmp 7) rfl g 0 (by kernel_rfl) [.int .i64 T.kind, .int .i64 T.frm, .int .i64 T.dst, .int .i64 T.view, .int .i64 T.inst, .int .i64 T.len, .bool T.has, .int .i64 T.mem, .int .i64 T.src, .int .i64 T.pos, .int .i64 T.tot, .slice a.Ad T.data.length a.cd, .int .i64 T.hop, .int .i64 T.seq, .slice a.Ah T.hav.length a.ch, .slice a.An T.nee.length a.cn, .int .i64 T.idx, .int .i64 T.ent.s, .int .i64 T.ent.q, .int .i64 T.ent.c.kind, .int .i64 T.ent.c.who, .slice a.c.Ak T.ent.c.key.length a.c.ck, .slice a.c.Av T.ent.c.val.length a.c.cv, .slice a.c.Ao T.ent.c.old.length a.c.co] _ (fun wq hq => range_msg (HP.out.blk.below hq)) Try.underlying29 rfl (by kernel_rfl)) hS.out ?_
            refine wpAnyH_take (i := 7) (v := .slice (some ⟨q, 0, none⟩) k k) rfl (by kernel_rfl) (by kernel_rfl) (by kernel_rfl) (fun _ _ _ h => h) (Or.inl ⟨by kernel_rfl, fun w _ => by go_simp⟩) hS.out ?_
            refine wpAnyH_take (i := 8) (v := .int .i64 (p : Int)) rfl (by kernel_rfl) (by kernel_rfl) (by kernel_rfl) (fun _ _ _ h => h) (Or.inl ⟨by kernel_rfl, fun w _ => by go_simp⟩) hS.out ?_
            refine wpAnyH_take (i := 9) (v := .pointer (some ⟨q, p, none⟩)) rfl (by kernel_rfl) (by kernel_rfl) (by kernel_rfl) (fun _ _ _ h => h) (Or.inl ⟨by kernel_rfl, fun w _ => by go_simp⟩) hS.out ?_
            refine wpAnyH_take (i := 10) (v := .int .i64 h') rfl (by kernel_rfl) (by kernel_rfl) (by kernel_rfl) (fun _ _ _ h => h) (Or.inl ⟨by kernel_rfl, fun wq hq => by have qq := (Below.cell hq (p := ⟨q, p, none⟩) HP.out.wq.2).trans cx; go_simp⟩) hS.out ?_
            refine wpAnyH_take (i := 11) (v := .int .i64 f) rfl (by kernel_rfl) (by kernel_rfl) (by kernel_rfl) (fun _ _ _ h => h) (Or.inl ⟨by kernel_rfl, fun w _ => by go_simp⟩) hS.out ?_
            refine wpAnyH_take (i := 12) (v := .slice Am mis.length cm) rfl (by kernel_rfl) (by kernel_rfl) (by kernel_rfl) (fun _ _ _ h => h) (Or.inl ⟨by kernel_rfl, fun w _ => by go_simp⟩) hS.out ?_
            refine wpAnyH_ready (rs := [13, 17]) (by kernel_rfl) (by simp) ?_
            refine AllReadyH.cons rfl (fun K hK => ?_) (AllReadyH.cons rfl (fun K hK => ?_) AllReadyH.nil)
            · -- the call first
              go_simp
              refine (CP.out _ hS.out).mono ?_
              rintro e x8 ⟨au, A9, c9, rfl, hoU, hoI, hBU, hbU⟩
              have hS8 := Lib.hid (hS.out.trans (hbU.mono hS.out.size))
              have HOU := Lib.hid hoU
              have HQW := Lib.hid (show q < xa.heap.size by have := hS.out.size; have := HP.out.wq.2; omega)
              unfold msgV msgC
              go_simp
              refine hK.out _ _ hS8.out (fun _ => ?_)
              clear hK K hS
              have hS := hS8
              clear hS8
              refine wpAnyH_take (i := 14) (v := .tuple #[.agg #[.int .i64 U.kind, .int .i64 U.frm, .int .i64 U.dst, .int .i64 U.view, .int .i64 U.inst, .int .i64 U.len, .bool U.has, .int .i64 U.mem, .int .i64 U.src, .int .i64 U.pos, .int .i64 U.tot, .slice au.Ad U.data.length au.cd, .int .i64 U.hop, .int .i64 U.seq, .slice au.Ah U.hav.length au.ch, .slice au.An U.nee.length au.cn, .int .i64 U.idx, .int .i64 U.ent.s, .int .i64 U.ent.q, .int .i64 U.ent.c.kind, .int .i64 U.ent.c.who, .slice au.c.Ak U.ent.c.key.length au.c.ck, .slice au.c.Av U.ent.c.val.length au.c.cv, .slice au.c.Ao U.ent.c.old.length au.c.co], .slice A9 I.length c9]) rfl (by kernel_rfl) (by kernel_rfl) (by kernel_rfl) (fun _ _ _ h => h) (Or.inl ⟨by kernel_rfl, fun w _ => by go_simp⟩) hS.out ?_
              refine wpAnyH_take (i := 15) (v := .agg #[.int .i64 U.kind, .int .i64 U.frm, .int .i64 U.dst, .int .i64 U.view, .int .i64 U.inst, .int .i64 U.len, .bool U.has, .int .i64 U.mem, .int .i64 U.src, .int .i64 U.pos, .int .i64 U.tot, .slice au.Ad U.data.length au.cd, .int .i64 U.hop, .int .i64 U.seq, .slice au.Ah U.hav.length au.ch, .slice au.An U.nee.length au.cn, .int .i64 U.idx, .int .i64 U.ent.s, .int .i64 U.ent.q, .int .i64 U.ent.c.kind, .int .i64 U.ent.c.who, .slice au.c.Ak U.ent.c.key.length au.c.ck, .slice au.c.Av U.ent.c.val.length au.c.cv, .slice au.c.Ao U.ent.c.old.length au.c.co]) rfl (by kernel_rfl) (by kernel_rfl) (by kernel_rfl) (fun _ _ _ h => h) (Or.inl ⟨by kernel_rfl, fun w _ => by go_simp⟩) hS.out ?_
              refine wpAnyH_take (i := 16) (v := .slice A9 I.length c9) rfl (by kernel_rfl) (by kernel_rfl) (by kernel_rfl) (fun _ _ _ h => h) (Or.inl ⟨by kernel_rfl, fun w _ => by go_simp⟩) hS.out ?_
              refine wpAnyH_ready (rs := [17]) (by kernel_rfl) (by simp) ?_
              refine AllReadyH.cons rfl (fun K hK => ?_) AllReadyH.nil
              go_simp
              refine hK.out _ _ (hS.out.alloc hS.out.size _) (fun _ => ?_)
              clear hK K
              have HZ := Lib.hid (Blk.new x8 29 #[.int .i64 0, .int .i64 0, .int .i64 0, .int .i64 0, .int .i64 0, .int .i64 0, .bool false, .int .i64 0, .int .i64 0, .int .i64 0, .int .i64 0, .slice none 0 0, .int .i64 0, .int .i64 0, .slice none 0 0, .slice none 0 0, .int .i64 0, .int .i64 0, .int .i64 0, .int .i64 0, .int .i64 0, .slice none 0 0, .slice none 0 0, .slice none 0 0])
              have HOU := Lib.hid (HOU.out.below ((Below.refl _ _).alloc (Nat.le_refl _) (.cells #[.int .i64 0, .int .i64 0, .int .i64 0, .int .i64 0, .int .i64 0, .int .i64 0, .bool false, .int .i64 0, .int .i64 0, .int .i64 0, .int .i64 0, .slice none 0 0, .int .i64 0, .int .i64 0, .slice none 0 0, .slice none 0 0, .int .i64 0, .int .i64 0, .int .i64 0, .int .i64 0, .int .i64 0, .slice none 0 0, .slice none 0 0, .slice none 0 0] 29)))
              have HG9 : Hid (x7.heap.size ≤ x8.heap.size) := Lib.hid hS.out.size
              have hS := Lib.hid (hS.out.alloc hS.out.size (.cells #[.int .i64 0, .int .i64 0, .int .i64 0, .int .i64 0, .int .i64 0, .int .i64 0, .bool false, .int .i64 0, .int .i64 0, .int .i64 0, .int .i64 0, .slice none 0 0, .int .i64 0, .int .i64 0, .slice none 0 0, .slice none 0 0, .int .i64 0, .int .i64 0, .int .i64 0, .int .i64 0, .int .i64 0, .slice none 0 0, .slice none 0 0, .slice none 0 0] 29))
              obtain ⟨g9, hg9⟩ : ∃ g9, x8.heap.size = g9 := ⟨_, rfl⟩
              obtain ⟨WZ, hWZ⟩ : ∃ y, x8.alloc (.cells #[.int .i64 0, .int .i64 0, .int .i64 0, .int .i64 0, .int .i64 0, .int .i64 0, .bool false, .int .i64 0, .int .i64 0, .int .i64 0, .int .i64 0, .slice none 0 0, .int .i64 0, .int .i64 0, .slice none 0 0, .slice none 0 0, .int .i64 0, .int .i64 0, .int .i64 0, .int .i64 0, .int .i64 0, .slice none 0 0, .slice none 0 0, .slice none 0 0] 29) = y := ⟨_, rfl⟩
              rw [hg9, hWZ] at HZ
              rw [hg9] at HG9
              rw [hWZ] at hS HOU
              rw [hg9, hWZ]
              clear hg9 hWZ hbU
              refine wpAnyH_ready (rs := [18]) (by kernel_rfl) (by simp) ?_
              refine AllReadyH.cons rfl (fun K hK => ?_) AllReadyH.nil
              rw [if_pos (by kernel_rfl)]
              refine wp_store_row 29 (.tmp 18) (.tmp 121) rfl g9 #[.int .i64 U.kind, .int .i64 U.frm, .int .i64 U.dst, .int .i64 U.view, .int .i64 U.inst, .int .i64 U.len, .bool U.has, .int .i64 U.mem, .int .i64 U.src, .int .i64 U.pos, .int .i64 U.tot, .slice au.Ad U.data.length au.cd, .int .i64 U.hop, .int .i64 U.seq, .slice au.Ah U.hav.length au.ch, .slice au.An U.nee.length au.cn, .int .i64 U.idx, .int .i64 U.ent.s, .int .i64 U.ent.q, .int .i64 U.ent.c.kind, .int .i64 U.ent.c.who, .slice au.c.Ak U.ent.c.key.length au.c.ck, .slice au.c.Av U.ent.c.val.length au.c.cv, .slice au.c.Ao U.ent.c.old.length au.c.co] (by kernel_rfl) (by kernel_rfl) 29 #[.int .i64 0, .int .i64 0, .int .i64 0, .int .i64 0, .int .i64 0, .int .i64 0, .bool false, .int .i64 0, .int .i64 0, .int .i64 0, .int .i64 0, .slice none 0 0, .int .i64 0, .int .i64 0, .slice none 0 0, .slice none 0 0, .int .i64 0, .int .i64 0, .int .i64 0, .int .i64 0, .int .i64 0, .slice none 0 0, .slice none 0 0, .slice none 0 0] HZ.out (by kernel_rfl) rfl (by kernel_rfl) ?_
              have HSF := Lib.hid (show Below x7.heap.size x7 (WZ.setRow g9 #[.int .i64 U.kind, .int .i64 U.frm, .int .i64 U.dst, .int .i64 U.view, .int .i64 U.inst, .int .i64 U.len, .bool U.has, .int .i64 U.mem, .int .i64 U.src, .int .i64 U.pos, .int .i64 U.tot, .slice au.Ad U.data.length au.cd, .int .i64 U.hop, .int .i64 U.seq, .slice au.Ah U.hav.length au.ch, .slice au.An U.nee.length au.cn, .int .i64 U.idx, .int .i64 U.ent.s, .int .i64 U.ent.q, .int .i64 U.ent.c.kind, .int .i64 U.ent.c.who, .slice au.c.Ak U.ent.c.key.length au.c.ck, .slice au.c.Av U.ent.c.val.length au.c.cv, .slice au.c.Ao U.ent.c.old.length au.c.co]) from below_setRow hS.out HG9.out _)
              refine hK.out _ _ HSF.out (fun _ => ?_)
              clear hK K
              have HFF : Hid (RisM w (WZ.setRow g9 #[.int .i64 U.kind, .int .i64 U.frm, .int .i64 U.dst, .int .i64 U.view, .int .i64 U.inst, .int .i64 U.len, .bool U.has, .int .i64 U.mem, .int .i64 U.src, .int .i64 U.pos, .int .i64 U.tot, .slice au.Ad U.data.length au.cd, .int .i64 U.hop, .int .i64 U.seq, .slice au.Ah U.hav.length au.ch, .slice au.An U.nee.length au.cn, .int .i64 U.idx, .int .i64 U.ent.s, .int .i64 U.ent.q, .int .i64 U.ent.c.kind, .int .i64 U.ent.c.who, .slice au.c.Ak U.ent.c.key.length au.c.ck, .slice au.c.Av U.ent.c.val.length au.c.cv, .slice au.c.Ao U.ent.c.old.length au.c.co]) k q g a T H' ∧ RisM w (WZ.setRow g9 #[.int .i64 U.kind, .int .i64 U.frm, .int .i64 U.dst, .int .i64 U.view, .int .i64 U.inst, .int .i64 U.len, .bool U.has, .int .i64 U.mem, .int .i64 U.src, .int .i64 U.pos, .int .i64 U.tot, .slice au.Ad U.data.length au.cd, .int .i64 U.hop, .int .i64 U.seq, .slice au.Ah U.hav.length au.ch, .slice au.An U.nee.length au.cn, .int .i64 U.idx, .int .i64 U.ent.s, .int .i64 U.ent.q, .int .i64 U.ent.c.kind, .int .i64 U.ent.c.who, .slice au.c.Ak U.ent.c.key.length au.c.ck, .slice au.c.Av U.ent.c.val.length au.c.cv, .slice au.c.Ao U.ent.c.old.length au.c.co]) k q g9 au U H') := Lib.hid (by
                have hbl : Below w.heap.size w (WZ.setRow g9 #[.int .i64 U.kind, .int .i64 U.frm, .int .i64 U.dst, .int .i64 U.view, .int .i64 U.inst, .int .i64 U.len, .bool U.has, .int .i64 U.mem, .int .i64 U.src, .int .i64 U.pos, .int .i64 U.tot, .slice au.Ad U.data.length au.cd, .int .i64 U.hop, .int .i64 U.seq, .slice au.Ah U.hav.length au.ch, .slice au.An U.nee.length au.cn, .int .i64 U.idx, .int .i64 U.ent.s, .int .i64 U.ent.q, .int .i64 U.ent.c.kind, .int .i64 U.ent.c.who, .slice au.c.Ak U.ent.c.key.length au.c.ck, .slice au.c.Av U.ent.c.val.length au.c.cv, .slice au.c.Ao U.ent.c.old.length au.c.co]) := HP.out.bel.trans (HSF.out.mono HP.out.bel.size)
                have hA := HP.out.below HSF.out
                exact ⟨hA, ⟨Blk.row HZ.out _, (OwX.new HOU.out.h HQW.out).row HZ.out (by decide), (OwX.new HOU.out.n HQW.out).row HZ.out (by decide), hA.hv, hbl, Nat.le_trans HP.out.bel.size HG9.out⟩⟩)
              refine wpAnyH_take (i := 19) (v := .slice A9 I.length c9) rfl (by kernel_rfl) (by kernel_rfl) (by kernel_rfl) (fun _ _ _ h => h) (Or.inl ⟨by kernel_rfl, fun w _ => by go_simp⟩) HSF.out ?_
              refine wpAnyH_done (by kernel_rfl) ?_ _
              go_simp
              go_wp2_with fail
              go_meet
              exact ⟨g9, au, A9, c9, I.length, rfl, rfl, Lib.hid HFF.out.1, Lib.hid HFF.out.2⟩
            · -- the new variable first
              go_simp
              refine hK.out _ _ (hS.out.alloc hS.out.size _) (fun _ => ?_)
              clear hK K
              have HZ := Lib.hid (Blk.new xa 29 #[.int .i64 0, .int .i64 0, .int .i64 0, .int .i64 0, .int .i64 0, .int .i64 0, .bool false, .int .i64 0, .int .i64 0, .int .i64 0, .int .i64 0, .slice none 0 0, .int .i64 0, .int .i64 0, .slice none 0 0, .slice none 0 0, .int .i64 0, .int .i64 0, .int .i64 0, .int .i64 0, .int .i64 0, .slice none 0 0, .slice none 0 0, .slice none 0 0])
              have HG9 : Hid (x7.heap.size ≤ xa.heap.size) := Lib.hid hS.out.size
              have hS := Lib.hid (hS.out.alloc hS.out.size (.cells #[.int .i64 0, .int .i64 0, .int .i64 0, .int .i64 0, .int .i64 0, .int .i64 0, .bool false, .int .i64 0, .int .i64 0, .int .i64 0, .int .i64 0, .slice none 0 0, .int .i64 0, .int .i64 0, .slice none 0 0, .slice none 0 0, .int .i64 0, .int .i64 0, .int .i64 0, .int .i64 0, .int .i64 0, .slice none 0 0, .slice none 0 0, .slice none 0 0] 29))
              obtain ⟨g9, hg9⟩ : ∃ g9, xa.heap.size = g9 := ⟨_, rfl⟩
              obtain ⟨xb, hxb⟩ : ∃ y, xa.alloc (.cells #[.int .i64 0, .int .i64 0, .int .i64 0, .int .i64 0, .int .i64 0, .int .i64 0, .bool false, .int .i64 0, .int .i64 0, .int .i64 0, .int .i64 0, .slice none 0 0, .int .i64 0, .int .i64 0, .slice none 0 0, .slice none 0 0, .int .i64 0, .int .i64 0, .int .i64 0, .int .i64 0, .int .i64 0, .slice none 0 0, .slice none 0 0, .slice none 0 0] 29) = y := ⟨_, rfl⟩
              rw [hg9, hxb] at HZ
              rw [hg9] at HG9
              rw [hxb] at hS
              rw [hg9, hxb]
              clear hg9 hxb
              refine wpAnyH_ready (rs := [13]) (by kernel_rfl) (by simp) ?_
              refine AllReadyH.cons rfl (fun K hK => ?_) AllReadyH.nil
              go_simp
              refine (CP.out _ hS.out).mono ?_
              rintro e x8 ⟨au, A9, c9, rfl, hoU, hoI, hBU, hbU⟩
              have hS8 := Lib.hid (hS.out.trans (hbU.mono hS.out.size))
              have HOU := Lib.hid hoU
              have HQW := Lib.hid (show q < xb.heap.size by have := hS.out.size; have := HP.out.wq.2; omega)
              unfold msgV msgC
              go_simp
              refine hK.out _ _ hS8.out (fun _ => ?_)
              clear hK K hS
              have hS := hS8
              clear hS8
              have HZ := Lib.hid (HZ.out.below hbU)
              clear hbU
              refine wpAnyH_take (i := 14) (v := .tuple #[.agg #[.int .i64 U.kind, .int .i64 U.frm, .int .i64 U.dst, .int .i64 U.view, .int .i64 U.inst, .int .i64 U.len, .bool U.has, .int .i64 U.mem, .int .i64 U.src, .int .i64 U.pos, .int .i64 U.tot, .slice au.Ad U.data.length au.cd, .int .i64 U.hop, .int .i64 U.seq, .slice au.Ah U.hav.length au.ch, .slice au.An U.nee.length au.cn, .int .i64 U.idx, .int .i64 U.ent.s, .int .i64 U.ent.q, .int .i64 U.ent.c.kind, .int .i64 U.ent.c.who, .slice au.c.Ak U.ent.c.key.length au.c.ck, .slice au.c.Av U.ent.c.val.length au.c.cv, .slice au.c.Ao U.ent.c.old.length au.c.co], .slice A9 I.length c9]) rfl (by kernel_rfl) (by kernel_rfl) (by kernel_rfl) (fun _ _ _ h => h) (Or.inl ⟨by kernel_rfl, fun w _ => by go_simp⟩) hS.out ?_
              refine wpAnyH_take (i := 15) (v := .agg #[.int .i64 U.kind, .int .i64 U.frm, .int .i64 U.dst, .int .i64 U.view, .int .i64 U.inst, .int .i64 U.len, .bool U.has, .int .i64 U.mem, .int .i64 U.src, .int .i64 U.pos, .int .i64 U.tot, .slice au.Ad U.data.length au.cd, .int .i64 U.hop, .int .i64 U.seq, .slice au.Ah U.hav.length au.ch, .slice au.An U.nee.length au.cn, .int .i64 U.idx, .int .i64 U.ent.s, .int .i64 U.ent.q, .int .i64 U.ent.c.kind, .int .i64 U.ent.c.who, .slice au.c.Ak U.ent.c.key.length au.c.ck, .slice au.c.Av U.ent.c.val.length au.c.cv, .slice au.c.Ao U.ent.c.old.length au.c.co]) rfl (by kernel_rfl) (by kernel_rfl) (by kernel_rfl) (fun _ _ _ h => h) (Or.inl ⟨by kernel_rfl, fun w _ => by go_simp⟩) hS.out ?_
              refine wpAnyH_take (i := 16) (v := .slice A9 I.length c9) rfl (by kernel_rfl) (by kernel_rfl) (by kernel_rfl) (fun _ _ _ h => h) (Or.inl ⟨by kernel_rfl, fun w _ => by go_simp⟩) hS.out ?_
              refine wpAnyH_ready (rs := [18]) (by kernel_rfl) (by simp) ?_
              refine AllReadyH.cons rfl (fun K hK => ?_) AllReadyH.nil
              rw [if_pos (by kernel_rfl)]
              refine wp_store_row 29 (.tmp 18) (.tmp 121) rfl g9 #[.int .i64 U.kind, .int .i64 U.frm, .int .i64 U.dst, .int .i64 U.view, .int .i64 U.inst, .int .i64 U.len, .bool U.has, .int .i64 U.mem, .int .i64 U.src, .int .i64 U.pos, .int .i64 U.tot, .slice au.Ad U.data.length au.cd, .int .i64 U.hop, .int .i64 U.seq, .slice au.Ah U.hav.length au.ch, .slice au.An U.nee.length au.cn, .int .i64 U.idx, .int .i64 U.ent.s, .int .i64 U.ent.q, .int .i64 U.ent.c.kind, .int .i64 U.ent.c.who, .slice au.c.Ak U.ent.c.key.length au.c.ck, .slice au.c.Av U.ent.c.val.length au.c.cv, .slice au.c.Ao U.ent.c.old.length au.c.co] (by kernel_rfl) (by kernel_rfl) 29 #[.int .i64 0, .int .i64 0, .int .i64 0, .int .i64 0, .int .i64 0, .int .i64 0, .bool false, .int .i64 0, .int .i64 0, .int .i64 0, .int .i64 0, .slice none 0 0, .int .i64 0, .int .i64 0, .slice none 0 0, .slice none 0 0, .int .i64 0, .int .i64 0, .int .i64 0, .int .i64 0, .int .i64 0, .slice none 0 0, .slice none 0 0, .slice none 0 0] HZ.out (by kernel_rfl) rfl (by kernel_rfl) ?_
              have HSF := Lib.hid (show Below x7.heap.size x7 (x8.setRow g9 #[.int .i64 U.kind, .int .i64 U.frm, .int .i64 U.dst, .int .i64 U.view, .int .i64 U.inst, .int .i64 U.len, .bool U.has, .int .i64 U.mem, .int .i64 U.src, .int .i64 U.pos, .int .i64 U.tot, .slice au.Ad U.data.length au.cd, .int .i64 U.hop, .int .i64 U.seq, .slice au.Ah U.hav.length au.ch, .slice au.An U.nee.length au.cn, .int .i64 U.idx, .int .i64 U.ent.s, .int .i64 U.ent.q, .int .i64 U.ent.c.kind, .int .i64 U.ent.c.who, .slice au.c.Ak U.ent.c.key.length au.c.ck, .slice au.c.Av U.ent.c.val.length au.c.cv, .slice au.c.Ao U.ent.c.old.length au.c.co]) from below_setRow hS.out HG9.out _)
              refine hK.out _ _ HSF.out (fun _ => ?_)
              clear hK K
              have HFF : Hid (RisM w (x8.setRow g9 #[.int .i64 U.kind, .int .i64 U.frm, .int .i64 U.dst, .int .i64 U.view, .int .i64 U.inst, .int .i64 U.len, .bool U.has, .int .i64 U.mem, .int .i64 U.src, .int .i64 U.pos, .int .i64 U.tot, .slice au.Ad U.data.length au.cd, .int .i64 U.hop, .int .i64 U.seq, .slice au.Ah U.hav.length au.ch, .slice au.An U.nee.length au.cn, .int .i64 U.idx, .int .i64 U.ent.s, .int .i64 U.ent.q, .int .i64 U.ent.c.kind, .int .i64 U.ent.c.who, .slice au.c.Ak U.ent.c.key.length au.c.ck, .slice au.c.Av U.ent.c.val.length au.c.cv, .slice au.c.Ao U.ent.c.old.length au.c.co]) k q g a T H' ∧ RisM w (x8.setRow g9 #[.int .i64 U.kind, .int .i64 U.frm, .int .i64 U.dst, .int .i64 U.view, .int .i64 U.inst, .int .i64 U.len, .bool U.has, .int .i64 U.mem, .int .i64 U.src, .int .i64 U.pos, .int .i64 U.tot, .slice au.Ad U.data.length au.cd, .int .i64 U.hop, .int .i64 U.seq, .slice au.Ah U.hav.length au.ch, .slice au.An U.nee.length au.cn, .int .i64 U.idx, .int .i64 U.ent.s, .int .i64 U.ent.q, .int .i64 U.ent.c.kind, .int .i64 U.ent.c.who, .slice au.c.Ak U.ent.c.key.length au.c.ck, .slice au.c.Av U.ent.c.val.length au.c.cv, .slice au.c.Ao U.ent.c.old.length au.c.co]) k q g9 au U H') := Lib.hid (by
                have hbl : Below w.heap.size w (x8.setRow g9 #[.int .i64 U.kind, .int .i64 U.frm, .int .i64 U.dst, .int .i64 U.view, .int .i64 U.inst, .int .i64 U.len, .bool U.has, .int .i64 U.mem, .int .i64 U.src, .int .i64 U.pos, .int .i64 U.tot, .slice au.Ad U.data.length au.cd, .int .i64 U.hop, .int .i64 U.seq, .slice au.Ah U.hav.length au.ch, .slice au.An U.nee.length au.cn, .int .i64 U.idx, .int .i64 U.ent.s, .int .i64 U.ent.q, .int .i64 U.ent.c.kind, .int .i64 U.ent.c.who, .slice au.c.Ak U.ent.c.key.length au.c.ck, .slice au.c.Av U.ent.c.val.length au.c.cv, .slice au.c.Ao U.ent.c.old.length au.c.co]) := HP.out.bel.trans (HSF.out.mono HP.out.bel.size)
                have hA := HP.out.below HSF.out
                exact ⟨hA, ⟨Blk.row HZ.out _, (OwX.new HOU.out.h HQW.out).row HZ.out (by decide), (OwX.new HOU.out.n HQW.out).row HZ.out (by decide), hA.hv, hbl, Nat.le_trans HP.out.bel.size HG9.out⟩⟩)
              refine wpAnyH_take (i := 19) (v := .slice A9 I.length c9) rfl (by kernel_rfl) (by kernel_rfl) (by kernel_rfl) (fun _ _ _ h => h) (Or.inl ⟨by kernel_rfl, fun w _ => by go_simp⟩) HSF.out ?_
              refine wpAnyH_done (by kernel_rfl) ?_ _
              go_simp
              go_wp2_with fail
              go_meet
              exact ⟨g9, au, A9, c9, I.length, rfl, rfl, Lib.hid HFF.out.1, Lib.hid HFF.out.2⟩
          rename_i hcut
          obtain ⟨g9, au, A9, c9, n9, rfl, rfl, HST, HSU⟩ := hcut
          rename World => x9
          clear CP HRM8 cx fx hpn hnx hk0 HP
          -- what the round did
          have HST1 := Lib.hid (HR.out.step (me := (p : Int)) (nx := nx) (mis := mis) (by have := HNN.out; omega) HX.out HF.out.2.2.1 HF.out.1 HRM.out (by rw [HSS.out.1]; exact HSS.out.2.1) HSS.out.2.2 HMI.out)
          rw [HU.out, HH'.out] at HST1
          obtain ⟨lst, hlst⟩ : ∃ x, Tk.safe H' = x := ⟨_, rfl⟩
          rw [hlst] at HST1
          have HLS := Lib.hid hlst
          have hH0 : H' ≠ [] := by intro e; have h1 := HXP.out; rw [e] at h1; simp at h1
          have HH0 := Lib.hid hH0
          have hlen' : H'.length = k := ownI_len HSU.out.hv
          obtain ⟨y0, hy0⟩ : ∃ y, H'[0]? = some y := ⟨_, List.getElem?_eq_getElem (by have := HNN.out; omega)⟩
          have HL0 : Hid (Tk.least H' 0 = y0) := Lib.hid (by rw [Tk.least_zero]; simp [hy0])
          obtain ⟨c9, f9⟩ := ownI_cell HSU.out.hv hy0
          have hk1 : (0 : Int) < (k : Int) := by have := HNN.out; omega
          have HLN := Lib.hid hlen'
          clear hlst hy0 hH0 hlen' HMI HU
          go_wp2_with fail
          go_loopw [20, 128] (fun s20 s128 wy => ∃ j : Nat, j ≤ k ∧ s128 = .int .i64 (j : Int) ∧ s20 = .int .i64 (Tk.least H' j) ∧ x9 = wy) (fun _ s128 _ => (k - intOf s128).toNat)
          case atStart => exact ⟨0, by omega, rfl, by rw [HL0.out], rfl⟩
          case round =>
            clear c9 f9
            obtain ⟨j, hj, rfl, rfl, rfl⟩ := hrel
            by_cases hjk : j < k
            · obtain ⟨y, hy⟩ : ∃ y, H'[j]? = some y := ⟨_, List.getElem?_eq_getElem (by have := HLN.out; omega)⟩
              obtain ⟨c9, f9⟩ := ownI_cell HSU.out.hv hy
              have HY := Lib.hid (Tk.least_succ hy)
              obtain ⟨Lj, hLj⟩ : ∃ x, Tk.least H' j = x := ⟨_, rfl⟩
              rw [hLj] at HY ⊢
              have hwj : IntKind.i64.wrap (j : Int) = (j : Int) := IntWalk.i64_in _ (by omega)
              have hwi : IntKind.i64.wrap ((j : Int) + 1) = (j : Int) + 1 := IntWalk.i64_in _ (by omega)
              clear hy hLj
              go_wp2_with fail
              go_roundw
              case rel => exact ⟨j + 1, by omega, by go_num, by rw [HY.out]; congr 1; split <;> omega, trivial⟩
              case measure => simp [intOf]; omega
            · obtain rfl : j = k := by omega
              have HEL : Hid (Tk.least H' j = lst) := Lib.hid (by rw [Tk.least_all HH0.out (by have := HLN.out; omega)]; exact HLS.out)
              rw [HEL.out]
              clear HL0 HEL
              obtain ⟨hR1, hhop, hseq, hmono, h16, hnee⟩ := HST1.out
              have HR1 := Lib.hid hR1
              have HNE := Lib.hid hnee
              have q12 : x9.cell? ⟨g9, 12, none⟩ = some (.int .i64 (T.hop + 1)) := by have := HSU.out.blk.cell 12; simp [msgC] at this; rw [this, hhop]
              have q13 : x9.cell? ⟨g9, 13, none⟩ = some (.int .i64 S) := by have := HSU.out.blk.cell 13; simp [msgC] at this; rw [this, hseq]
              have p12 := HST.out.blk.cell 12
              have p13 := HST.out.blk.cell 13
              simp [msgC] at p12 p13
              have hth := HR.out.hop
              have hw5 : IntKind.i64.wrap (T.hop + 1) = T.hop + 1 := IntWalk.i64_in _ (by omega)
              have hls : 0 ≤ lst ∧ lst ≤ 1000 := by
                have h1 := Tk.safe_le (List.mem_of_getElem? HXP.out)
                have h2 := Tk.le_safe HH0.out HR1.out.lo
                rw [HLS.out] at h1 h2
                have := HBS.out; have := HLL.out
                omega
              have hw6 : IntKind.i64.wrap (lst + 16) = lst + 16 := IntWalk.i64_in _ (by omega)
              have hl10 : ¬ lst < Tk.safe H := by omega
              have hn8 : ¬ (8 : Int) < (U.nee.length : Int) := by have := HR1.out.n8; omega
              have hhl : U.hav.length = j := by rw [HR1.out.hav]; exact HLN.out
              have HHL := Lib.hid hhl
              have HQQ := Lib.hid (And.intro hhop hseq)
              have H16 := Lib.hid h16
              have CS : Hid (Calls Try.prog 8 #[.agg #[.int .i64 U.kind, .int .i64 U.frm, .int .i64 U.dst, .int .i64 U.view, .int .i64 U.inst, .int .i64 U.len, .bool U.has, .int .i64 U.mem, .int .i64 U.src, .int .i64 U.pos, .int .i64 U.tot, .slice au.Ad U.data.length au.cd, .int .i64 U.hop, .int .i64 U.seq, .slice au.Ah U.hav.length au.ch, .slice au.An U.nee.length au.cn, .int .i64 U.idx, .int .i64 U.ent.s, .int .i64 U.ent.q, .int .i64 U.ent.c.kind, .int .i64 U.ent.c.who, .slice au.c.Ak U.ent.c.key.length au.c.ck, .slice au.c.Av U.ent.c.val.length au.c.cv, .slice au.c.Ao U.ent.c.old.length au.c.co]] x9 fun e w' => e = .returned (.int .i64 lst) ∧ Below x9.heap.size x9 w') := Lib.hid (safe17 (a := au) (m := U) x9 (by rw [HR1.out.hav]; exact HLS.out) HSU.out.h.rd (by rw [hhl]; have := HNN.out; omega))
              clear hR1 hhop hseq hmono h16 hnee hth hhl hk1
              go_upto_region 30 with fail
              go_cut [187] from 138 to 186 (fun s187 wx => s187 = .bool false ∧ Hid (Below x9.heap.size x9 wx))
              case first =>
                by_cases g16 : S ≤ lst + 16
                · have g16' : ¬ lst + 16 < S := by omega
                  go_wp2_with (first
                    | (refine wpList_load_rowV (by rfl) 29 (.tmp 18) rfl g9 rfl 29 #[.int .i64 U.kind, .int .i64 U.frm, .int .i64 U.dst, .int .i64 U.view, .int .i64 U.inst, .int .i64 U.len, .bool U.has, .int .i64 U.mem, .int .i64 U.src, .int .i64 U.pos, .int .i64 U.tot, .slice au.Ad U.data.length au.cd, .int .i64 U.hop, .int .i64 U.seq, .slice au.Ah U.hav.length au.ch, .slice au.An U.nee.length au.cn, .int .i64 U.idx, .int .i64 U.ent.s, .int .i64 U.ent.q, .int .i64 U.ent.c.kind, .int .i64 U.ent.c.who, .slice au.c.Ak U.ent.c.key.length au.c.ck, .slice au.c.Av U.ent.c.val.length au.c.cv, .slice au.c.Ao U.ent.c.old.length au.c.co] (0, 0) _ HSU.out.blk Try.underlying29 rfl (by kernel_rfl) ?_)
                    | (go_at_call 8; refine CS.out.mono ?_; rintro e y2 ⟨rfl, hb2⟩
                       have HSU2 := HSU.out.below hb2
                       have q13 := (Below.cell hb2 (World.block_lt_of_cell? _ _ q13)).trans q13
                       have p13 := (Below.cell hb2 (World.block_lt_of_cell? _ _ p13)).trans p13
                       have q14 := HSU2.blk.cell 14
                       have q15 := HSU2.blk.cell 15
                       simp [msgC] at q14 q15
                       rw [HHL.out] at q14
                       have HB2 := Lib.hid hb2
                       clear hb2 HSU2)
                    | fail)
                  go_meet
                  exact ⟨by have e1 : decide (lst < Tk.safe H) = false := decide_eq_false (by omega); have e2 : decide ((8 : Int) < (U.nee.length : Int)) = false := decide_eq_false (by omega); rw [e1, e2]; rfl, HB2⟩
                · have g16' : lst + 16 < S := by omega
                  have g17 : ¬ T.seq < S := by rcases H16.out with h | h <;> omega
                  go_wp2_with (first
                    | (refine wpList_load_rowV (by rfl) 29 (.tmp 18) rfl g9 rfl 29 #[.int .i64 U.kind, .int .i64 U.frm, .int .i64 U.dst, .int .i64 U.view, .int .i64 U.inst, .int .i64 U.len, .bool U.has, .int .i64 U.mem, .int .i64 U.src, .int .i64 U.pos, .int .i64 U.tot, .slice au.Ad U.data.length au.cd, .int .i64 U.hop, .int .i64 U.seq, .slice au.Ah U.hav.length au.ch, .slice au.An U.nee.length au.cn, .int .i64 U.idx, .int .i64 U.ent.s, .int .i64 U.ent.q, .int .i64 U.ent.c.kind, .int .i64 U.ent.c.who, .slice au.c.Ak U.ent.c.key.length au.c.ck, .slice au.c.Av U.ent.c.val.length au.c.cv, .slice au.c.Ao U.ent.c.old.length au.c.co] (0, 0) _ HSU.out.blk Try.underlying29 rfl (by kernel_rfl) ?_)
                    | (go_at_call 8; refine CS.out.mono ?_; rintro e y2 ⟨rfl, hb2⟩
                       have HSU2 := HSU.out.below hb2
                       have q13 := (Below.cell hb2 (World.block_lt_of_cell? _ _ q13)).trans q13
                       have p13 := (Below.cell hb2 (World.block_lt_of_cell? _ _ p13)).trans p13
                       have q14 := HSU2.blk.cell 14
                       have q15 := HSU2.blk.cell 15
                       simp [msgC] at q14 q15
                       rw [HHL.out] at q14
                       have HB2 := Lib.hid hb2
                       clear hb2 HSU2)
                    | fail)
                  go_meet
                  exact ⟨by have e1 : decide (lst < Tk.safe H) = false := decide_eq_false (by omega); have e2 : decide ((8 : Int) < (U.nee.length : Int)) = false := decide_eq_false (by omega); have e3 : decide (T.seq < S) = false := decide_eq_false (by omega); rw [e1, e2, e3]; rfl, HB2⟩
              rename_i hcut
              obtain ⟨rfl, HBX⟩ := hcut
              rename World => y3
              have HSU := Lib.hid (HSU.out.below HBX.out)
              have HST := Lib.hid (HST.out.below HBX.out)
              clear q12 q13 p12 p13 hw5 hw6 hl10 hn8 CS HBX H16
              have q15 := HSU.out.blk.cell 15
              simp [msgC] at q15
              go_wp2_with fail
              obtain ⟨nn, hnn⟩ : ∃ x, U.nee.length = x := ⟨_, rfl⟩
              have HNL := Lib.hid hnn
              have hnn8 : nn ≤ 8 := by rw [← hnn]; exact HR1.out.n8
              try rw [hnn]
              clear hnn q15
              go_loopw [191] (fun s191 wy => ∃ v : Nat, v ≤ nn ∧ s191 = .int .i64 (v : Int) ∧ Hid (RisM w wy j q g a T H') ∧ Hid (RisM w wy j q g9 au U H')) (fun s191 _ => (nn - intOf s191).toNat)
              case atStart => exact ⟨0, by omega, rfl, HST, HSU⟩
              case round =>
                clear HST HSU
                obtain ⟨v, hv, rfl, HST, HSU⟩ := hrel
                by_cases hvn : v < nn
                · obtain ⟨y, hy⟩ : ∃ y, U.nee[v]? = some y := ⟨_, List.getElem?_eq_getElem (by have := HNL.out; omega)⟩
                  obtain ⟨hy1, hy2⟩ := HNE.out y (List.mem_of_getElem? hy)
                  obtain ⟨b9, o9, hA9, _⟩ := HSU.out.n.rd.int_at (k := v) (by have := HNL.out; omega)
                  have hrd := HSU.out.n.rd
                  rw [hA9] at hrd
                  have cy := hrd.int_cell (by have := HNL.out; omega) hy
                  have q13 := HSU.out.blk.cell 13
                  have q15 := HSU.out.blk.cell 15
                  simp [msgC] at q13 q15
                  rw [HNL.out, hA9] at q15
                  rw [HQQ.out.2] at q13
                  have hd1 : decide (y ≤ lst) = false := decide_eq_false (by omega)
                  have hd2 : decide (S < y) = false := decide_eq_false (by omega)
                  have hwv : IntKind.i64.wrap (v : Int) = (v : Int) := IntWalk.i64_in _ (by omega)
                  have hwi : IntKind.i64.wrap ((v : Int) + 1) = (v : Int) + 1 := IntWalk.i64_in _ (by omega)
                  clear hy hy1 hy2 hA9 hrd
                  go_wp2_with fail
                  go_quiet (fail)
                  go_wp2_with fail
                  go_roundw
                  case rel => exact ⟨v + 1, by omega, by go_num, Lib.hid (HST.out.below (belowN9 (Below.refl _ _) _)), Lib.hid (HSU.out.below (belowN9 (Below.refl _ _) _))⟩
                  case measure => simp [intOf]; omega
                · obtain rfl : v = nn := by omega
                  have hwi : IntKind.i64.wrap ((i : Int) + 1) = (i : Int) + 1 := IntWalk.i64_in _ (by omega)
                  go_wp2_with (first
                    | (refine wpList_load_row rfl 29 (.tmp 18) rfl g9 rfl 29 #[.int .i64 U.kind, .int .i64 U.frm, .int .i64 U.dst, .int .i64 U.view, .int .i64 U.inst, .int .i64 U.len, .bool U.has, .int .i64 U.mem, .int .i64 U.src, .int .i64 U.pos, .int .i64 U.tot, .slice au.Ad U.data.length au.cd, .int .i64 U.hop, .int .i64 U.seq, .slice au.Ah U.hav.length au.ch, .slice au.An U.nee.length au.cn, .int .i64 U.idx, .int .i64 U.ent.s, .int .i64 U.ent.q, .int .i64 U.ent.c.kind, .int .i64 U.ent.c.who, .slice au.c.Ak U.ent.c.key.length au.c.ck, .slice au.c.Av U.ent.c.val.length au.c.cv, .slice au.c.Ao U.ent.c.old.length au.c.co] (0, 0) _ HSU.out.blk Try.underlying29 rfl (by kernel_rfl) ?_)
                    | (refine wpList_store_row rfl 29 (.tmp 7) (.tmp 212) rfl g #[.int .i64 U.kind, .int .i64 U.frm, .int .i64 U.dst, .int .i64 U.view, .int .i64 U.inst, .int .i64 U.len, .bool U.has, .int .i64 U.mem, .int .i64 U.src, .int .i64 U.pos, .int .i64 U.tot, .slice au.Ad U.data.length au.cd, .int .i64 U.hop, .int .i64 U.seq, .slice au.Ah U.hav.length au.ch, .slice au.An U.nee.length au.cn, .int .i64 U.idx, .int .i64 U.ent.s, .int .i64 U.ent.q, .int .i64 U.ent.c.kind, .int .i64 U.ent.c.who, .slice au.c.Ak U.ent.c.key.length au.c.ck, .slice au.c.Av U.ent.c.val.length au.c.cv, .slice au.c.Ao U.ent.c.old.length au.c.co] rfl rfl 29 _ HST.out.blk (by kernel_rfl) rfl (by kernel_rfl) ?_)
                    | fail)
                  go_roundw
                  case rel =>
                    exact ⟨i + 1, au, U, H', by rw [HLS.out], by go_num, by omega, by omega, HR1, Lib.hid ⟨Blk.row HST.out.blk _, HSU.out.h.row HST.out.blk (by decide), HSU.out.n.row HST.out.blk (by decide), own_row_t HSU.out.hv HST.out.blk (by decide), below_setRow HST.out.bel HST.out.gg _, HST.out.gg⟩⟩
                  case measure => simp [intOf]; omega
        · have CW := Lib.hid (awake17 wr)
          by_cases hi1 : i < len1
          · have hi1' : (i : Int) < (len1 : Int) := by omega
            have hi2' : ¬ (i : Int) < 60 := by omega
            clear hlt
            go_wp2_with fail
            refine CW.out.mono ?_
            rintro e y9 ⟨rfl, hb9⟩
            go_wp2_with fail
            go_ret
            exact ⟨rfl, HS.out.bel.trans (hb9.mono HS.out.bel.size)⟩
          · have hi1' : ¬ (i : Int) < (len1 : Int) := by omega
            clear hlt
            go_wp2_with fail
            refine CW.out.mono ?_
            rintro e y9 ⟨rfl, hb9⟩
            go_wp2_with fail
            go_ret
            exact ⟨rfl, HS.out.bel.trans (hb9.mono HS.out.bel.size)⟩
end Go.Proofs.Ytbgagmpifaakgaa

