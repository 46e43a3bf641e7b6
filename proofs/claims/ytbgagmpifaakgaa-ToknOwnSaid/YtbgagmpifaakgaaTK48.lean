/- ToknOwnWalk -/
import Derived.Test.YtbgagmpifaakgaaTK44
import Derived.Test.YtbgagmpifaakgaaTK47
namespace Go.Proofs.Ytbgagmpifaakgaa
open Go.RowKit
set_option linter.unusedVariables false
/-- a block of integers from base on, of at least n -/
def Ints17 (w : World) (base g n : Nat) : Prop := base ≤ g ∧ ∃ cur, Blk w g 3 cur ∧ n ≤ cur.size
theorem blk_set17 {w : World} {b g i : Nat} {t : TypeId} {cs : Array Value} {u : Value} (h : Blk w b t cs) (hne : b ≠ g) : Blk (w.setCell ⟨g, i, none⟩ u) b t cs := (Below.heap_setCell w ⟨g, i, none⟩ u b hne).trans h
theorem Ints17.set_ {w : World} {base g n g' i : Nat} {u : Value} (h : Ints17 w base g n) : Ints17 (w.setCell ⟨g', i, none⟩ u) base g n := by
  obtain ⟨h1, cur, h2, h3⟩ := h
  by_cases e : g' = g
  · subst e; exact ⟨h1, _, h2.set_ i u, by simpa using h3⟩
  · exact ⟨h1, cur, blk_set17 h2 (Ne.symm e), h3⟩
theorem Ints17.at {w : World} {base g n j : Nat} (h : Ints17 w base g n) (hj : j < n) : base ≤ g ∧ w.frozen? ⟨g, j, none⟩ = false ∧ ∃ v, w.cell? ⟨g, j, none⟩ = some v := by
  obtain ⟨h1, cur, h2, h3⟩ := h
  exact ⟨h1, h2.frozen j, cur[j], (h2.cell j).trans (by simp)⟩
theorem ints17_own {W w : World} {A : Option Addr} {n c : Nat} {l : List Int} (h : OwnI W w A n c l) : 0 < n → ∃ g, A = some ⟨g, 0, none⟩ ∧ Ints17 w W.heap.size g n := by
  intro hn
  rcases h.2 with ⟨_, h2⟩ | ⟨g, cap, cur, h1, h2, h3, h4, h5, h6, h7⟩
  · omega
  · injection h1 with e1 e2 e3
    exact ⟨g, e1, h2, cur, h3, by rw [h6]; omega⟩
/-- what was handed on, while it is turned -/
structure OwT17 (w3 wr : World) (g7 : Nat) (au : GA) (U : Mg) (A9 : Option Addr) (n9 : Nat) : Prop where
  bel : Below w3.heap.size w3 wr
  k7 : Blk wr g7 29 (msgC au U)
  h : 0 < U.hav.length → ∃ g, au.Ah = some ⟨g, 0, none⟩ ∧ Ints17 wr w3.heap.size g U.hav.length
  n : 0 < U.nee.length → ∃ g, au.An = some ⟨g, 0, none⟩ ∧ Ints17 wr w3.heap.size g U.nee.length
  i : 0 < n9 → ∃ g, A9 = some ⟨g, 0, none⟩ ∧ Ints17 wr w3.heap.size g n9
theorem OwT17.set {w3 wr : World} {g7 g n i n9 : Nat} {au : GA} {U : Mg} {A9 : Option Addr} {u : Value} (s : OwT17 w3 wr g7 au U A9 n9) (hi : Ints17 wr w3.heap.size g n) : OwT17 w3 (wr.setCell ⟨g, i, none⟩ u) g7 au U A9 n9 := by
  obtain ⟨h1, cur, h2, h3⟩ := hi
  refine ⟨s.bel.setCell h1 _, blk_set17 s.k7 (s.k7.apart h2 (by decide)), fun h0 => ?_, fun h0 => ?_, fun h0 => ?_⟩
  · obtain ⟨q, e, hq⟩ := s.h h0; exact ⟨q, e, hq.set_⟩
  · obtain ⟨q, e, hq⟩ := s.n h0; exact ⟨q, e, hq.set_⟩
  · obtain ⟨q, e, hq⟩ := s.i h0; exact ⟨q, e, hq.set_⟩
theorem boxed2 (w : World) (R S : Array Value) (Z : Array Value) (T : TypeId) : ∃ g w2, w.heap.size = g ∧ (((w.alloc (.cells Z T)).alloc (.cells Z T)).setRow g R).setRow (g + 1) S = w2 ∧ Below w.heap.size w w2 ∧ Blk w2 g T R ∧ Blk w2 (g + 1) T S := by
  have h1 : Below w.heap.size w ((w.alloc (.cells Z T)).alloc (.cells Z T)) := ((Below.refl _ _).alloc (Nat.le_refl _) _).alloc (by simp) _
  have b1 : Blk ((w.alloc (.cells Z T)).alloc (.cells Z T)) w.heap.size T Z := (Blk.new w T Z).alloc _
  have b2 : Blk ((w.alloc (.cells Z T)).alloc (.cells Z T)) (w.heap.size + 1) T Z := by
    have := Blk.new (w.alloc (.cells Z T)) T Z
    rwa [World.size_alloc] at this
  refine ⟨_, _, rfl, rfl, below_setRow (below_setRow h1 (Nat.le_refl _) _) (by omega) _, ?_, ?_⟩
  · exact (b1.row R).row_other (by omega) S
  · exact (b2.row_other (by omega) R).row S
theorem Tk.tok_wide (zs : List Int) : (Tk.tok zs).Wide := by
  obtain ⟨h1, h2, _⟩ := Tk.tok_bounds zs
  exact ⟨⟨by show ([] : List Nat).length ≤ _; simp, fun x hx => by cases hx⟩, by omega, by omega, Cm.Fits.zero.wide⟩
set_option maxHeartbeats 8000000 in
set_option maxRecDepth 100000 in
theorem toknOwn_walk (a0 : Option Addr) (len0 cap0 : Nat) (z0 : List Int) (a1 : Int) (w : World) (w0 : IsRow .i64 w a0 len0 cap0 z0) (w1 : (Lit.int .i64 a1).wf = true) :
    Calls Try.prog 4 #[.slice a0 len0 cap0, .int .i64 a1] w fun e w' => e = .returned (.bool true) ∧ Below w.heap.size w w' := by
  obtain ⟨hz1, hzl1, hle1, hcap1⟩ := w0.ints
  obtain ⟨zs, hzs⟩ : ∃ x, z0.take len0 = x := ⟨_, rfl⟩
  rw [hzs] at hz1 hzl1
  have HL1 := Lib.hid hz1
  have c63 := and_63 a1
  obtain ⟨wl, hwl⟩ : ∃ x, a1 % 64 = x := ⟨_, rfl⟩
  rw [hwl] at c63
  have CT := Lib.hid (token17 (c := cap0) hz1 (Nat.le_refl _))
  have HWD := Lib.hid (Tk.tok_wide zs)
  have HBD := Lib.hid (Tk.tok_bounds zs)
  have HENT : Hid ((Tk.tok zs).ent.c.Fits ∧ (Tk.tok zs).data.length ≤ 2000000) := Lib.hid ⟨Cm.Fits.zero, by show ([] : List Nat).length ≤ _; simp⟩
  obtain ⟨M, hM⟩ : ∃ M, Tk.tok zs = M := ⟨_, rfl⟩
  rw [hM] at CT HWD HBD HENT
  have HME := Lib.hid hM
  clear w0 w1 hzs hzl1 hle1 hcap1 hz1 hM hwl
  go_enter Try.func4, Try.ntmps4
  go_wp2_with fail
  refine CT.out.mono ?_
  rintro e x1 ⟨t1, rfl, ho1, hB1, hb1⟩
  have HO1 := Lib.hid ho1
  have HB1 := Lib.hid hB1
  have CT := Lib.hid (token17 (c := cap0) (HL1.out.below hb1) hb1.size)
  rw [HME.out] at CT
  clear ho1 hB1 hb1
  unfold msgV msgC
  go_wp2_with fail
  refine CT.out.mono ?_
  rintro e x2 ⟨t2, rfl, ho2, hB2, hb2⟩
  have HO1 := Lib.hid (HO1.out.below hb2)
  have HO2 := Lib.hid ho2
  have HB2 := Lib.hid (HB1.out.trans (hb2.mono HB1.out.size))
  clear ho2 hB2 hb2 HB1 CT HL1
  unfold msgV msgC
  go_upto_region 2 with (first
    | (refine wpList_store_row rfl 29 (.tmp 5) (.tmp 13) rfl x2.heap.size #[.int .i64 M.kind, .int .i64 M.frm, .int .i64 M.dst, .int .i64 M.view, .int .i64 M.inst, .int .i64 M.len, .bool M.has, .int .i64 M.mem, .int .i64 M.src, .int .i64 M.pos, .int .i64 M.tot, .slice t1.Ad M.data.length t1.cd, .int .i64 M.hop, .int .i64 M.seq, .slice t1.Ah M.hav.length t1.ch, .slice t1.An M.nee.length t1.cn, .int .i64 M.idx, .int .i64 M.ent.s, .int .i64 M.ent.q, .int .i64 M.ent.c.kind, .int .i64 M.ent.c.who, .slice t1.c.Ak M.ent.c.key.length t1.c.ck, .slice t1.c.Av M.ent.c.val.length t1.c.cv, .slice t1.c.Ao M.ent.c.old.length t1.c.co] rfl rfl 29 #[.int .i64 0, .int .i64 0, .int .i64 0, .int .i64 0, .int .i64 0, .int .i64 0, .bool false, .int .i64 0, .int .i64 0, .int .i64 0, .int .i64 0, .slice none 0 0, .int .i64 0, .int .i64 0, .slice none 0 0, .slice none 0 0, .int .i64 0, .int .i64 0, .int .i64 0, .int .i64 0, .int .i64 0, .slice none 0 0, .slice none 0 0, .slice none 0 0] ((Blk.new x2 29 #[.int .i64 0, .int .i64 0, .int .i64 0, .int .i64 0, .int .i64 0, .int .i64 0, .bool false, .int .i64 0, .int .i64 0, .int .i64 0, .int .i64 0, .slice none 0 0, .int .i64 0, .int .i64 0, .slice none 0 0, .slice none 0 0, .int .i64 0, .int .i64 0, .int .i64 0, .int .i64 0, .int .i64 0, .slice none 0 0, .slice none 0 0, .slice none 0 0]).alloc _) (by kernel_rfl) rfl (by kernel_rfl) ?_)
    | (refine wpList_store_row rfl 29 (.tmp 6) (.tmp 15) rfl (x2.heap.size + 1) #[.int .i64 M.kind, .int .i64 M.frm, .int .i64 M.dst, .int .i64 M.view, .int .i64 M.inst, .int .i64 M.len, .bool M.has, .int .i64 M.mem, .int .i64 M.src, .int .i64 M.pos, .int .i64 M.tot, .slice t2.Ad M.data.length t2.cd, .int .i64 M.hop, .int .i64 M.seq, .slice t2.Ah M.hav.length t2.ch, .slice t2.An M.nee.length t2.cn, .int .i64 M.idx, .int .i64 M.ent.s, .int .i64 M.ent.q, .int .i64 M.ent.c.kind, .int .i64 M.ent.c.who, .slice t2.c.Ak M.ent.c.key.length t2.c.ck, .slice t2.c.Av M.ent.c.val.length t2.c.cv, .slice t2.c.Ao M.ent.c.old.length t2.c.co] rfl rfl 29 #[.int .i64 0, .int .i64 0, .int .i64 0, .int .i64 0, .int .i64 0, .int .i64 0, .bool false, .int .i64 0, .int .i64 0, .int .i64 0, .int .i64 0, .slice none 0 0, .int .i64 0, .int .i64 0, .slice none 0 0, .slice none 0 0, .int .i64 0, .int .i64 0, .int .i64 0, .int .i64 0, .int .i64 0, .slice none 0 0, .slice none 0 0, .slice none 0 0] (by have := Blk.new (x2.alloc (.cells #[.int .i64 0, .int .i64 0, .int .i64 0, .int .i64 0, .int .i64 0, .int .i64 0, .bool false, .int .i64 0, .int .i64 0, .int .i64 0, .int .i64 0, .slice none 0 0, .int .i64 0, .int .i64 0, .slice none 0 0, .slice none 0 0, .int .i64 0, .int .i64 0, .int .i64 0, .int .i64 0, .int .i64 0, .slice none 0 0, .slice none 0 0, .slice none 0 0] 29)) 29 #[.int .i64 0, .int .i64 0, .int .i64 0, .int .i64 0, .int .i64 0, .int .i64 0, .bool false, .int .i64 0, .int .i64 0, .int .i64 0, .int .i64 0, .slice none 0 0, .int .i64 0, .int .i64 0, .slice none 0 0, .slice none 0 0, .int .i64 0, .int .i64 0, .int .i64 0, .int .i64 0, .int .i64 0, .slice none 0 0, .slice none 0 0, .slice none 0 0]; rw [World.size_alloc] at this; exact this.row_other (by omega) _) (by kernel_rfl) rfl (by kernel_rfl) ?_)
    | fail)
  obtain ⟨g, x3, hgE, hwE, hbE, hk1, hk2⟩ := boxed2 x2 #[.int .i64 M.kind, .int .i64 M.frm, .int .i64 M.dst, .int .i64 M.view, .int .i64 M.inst, .int .i64 M.len, .bool M.has, .int .i64 M.mem, .int .i64 M.src, .int .i64 M.pos, .int .i64 M.tot, .slice t1.Ad M.data.length t1.cd, .int .i64 M.hop, .int .i64 M.seq, .slice t1.Ah M.hav.length t1.ch, .slice t1.An M.nee.length t1.cn, .int .i64 M.idx, .int .i64 M.ent.s, .int .i64 M.ent.q, .int .i64 M.ent.c.kind, .int .i64 M.ent.c.who, .slice t1.c.Ak M.ent.c.key.length t1.c.ck, .slice t1.c.Av M.ent.c.val.length t1.c.cv, .slice t1.c.Ao M.ent.c.old.length t1.c.co] #[.int .i64 M.kind, .int .i64 M.frm, .int .i64 M.dst, .int .i64 M.view, .int .i64 M.inst, .int .i64 M.len, .bool M.has, .int .i64 M.mem, .int .i64 M.src, .int .i64 M.pos, .int .i64 M.tot, .slice t2.Ad M.data.length t2.cd, .int .i64 M.hop, .int .i64 M.seq, .slice t2.Ah M.hav.length t2.ch, .slice t2.An M.nee.length t2.cn, .int .i64 M.idx, .int .i64 M.ent.s, .int .i64 M.ent.q, .int .i64 M.ent.c.kind, .int .i64 M.ent.c.who, .slice t2.c.Ak M.ent.c.key.length t2.c.ck, .slice t2.c.Av M.ent.c.val.length t2.c.cv, .slice t2.c.Ao M.ent.c.old.length t2.c.co] #[.int .i64 0, .int .i64 0, .int .i64 0, .int .i64 0, .int .i64 0, .int .i64 0, .bool false, .int .i64 0, .int .i64 0, .int .i64 0, .int .i64 0, .slice none 0 0, .int .i64 0, .int .i64 0, .slice none 0 0, .slice none 0 0, .int .i64 0, .int .i64 0, .int .i64 0, .int .i64 0, .int .i64 0, .slice none 0 0, .slice none 0 0, .slice none 0 0] 29
  try rw [hgE]
  try rw [hwE]
  have HK : Hid (Blk x3 g 29 (msgC t1 M) ∧ Blk x3 (g + 1) 29 (msgC t2 M)) := Lib.hid ⟨hk1, hk2⟩
  have HR1 : Hid (RdG x3 x3.heap.size t1 M) := Lib.hid (HO1.out.below hbE).rd
  have HR2 : Hid (RdG x3 x3.heap.size t2 M) := Lib.hid (HO2.out.below hbE).rd
  have HB3 : Hid (Below w.heap.size w x3) := Lib.hid (HB2.out.trans (hbE.mono HB2.out.size))
  clear hgE hwE hbE hk1 hk2 HO1 HO2 HB2
  have q15 := HK.out.1.cell 15
  simp [msgC] at q15
  go_wp2_with (first
    | (refine wpList_load_row rfl 29 (.tmp 5) rfl g rfl 29 #[.int .i64 M.kind, .int .i64 M.frm, .int .i64 M.dst, .int .i64 M.view, .int .i64 M.inst, .int .i64 M.len, .bool M.has, .int .i64 M.mem, .int .i64 M.src, .int .i64 M.pos, .int .i64 M.tot, .slice t1.Ad M.data.length t1.cd, .int .i64 M.hop, .int .i64 M.seq, .slice t1.Ah M.hav.length t1.ch, .slice t1.An M.nee.length t1.cn, .int .i64 M.idx, .int .i64 M.ent.s, .int .i64 M.ent.q, .int .i64 M.ent.c.kind, .int .i64 M.ent.c.who, .slice t1.c.Ak M.ent.c.key.length t1.c.ck, .slice t1.c.Av M.ent.c.val.length t1.c.cv, .slice t1.c.Ao M.ent.c.old.length t1.c.co] (0, 0) _ HK.out.1 Try.underlying29 rfl (by kernel_rfl) ?_)
    | fail)
  have HR9 : Hid (Rd (x3.alloc (.cells #[.int .i64 99] 3)) (x3.alloc (.cells #[.int .i64 99] 3)).heap.size (some ⟨x3.heap.size, 0, none⟩) 1 (iv [99])) := Lib.hid (rd_new x3 [99] #[.int .i64 99] rfl)
  have HBW : Hid (Below x3.heap.size x3 (x3.alloc (.cells #[.int .i64 99] 3))) := Lib.hid ((Below.refl _ _).alloc (Nat.le_refl _) _)
  obtain ⟨q9, hq9⟩ : ∃ q, x3.heap.size = q := ⟨_, rfl⟩
  obtain ⟨W, hW⟩ : ∃ y, x3.alloc (.cells #[.int .i64 99] 3) = y := ⟨_, rfl⟩
  rw [hW] at HR9 HBW
  rw [hq9] at HR9
  try rw [hq9]
  rw [hW]
  clear hq9 hW q15
  obtain ⟨U, hU⟩ : ∃ U, Tk.pass M 1 0 2 wl 1 M.nee [99] = U := ⟨_, rfl⟩
  obtain ⟨I, hI⟩ : ∃ I, Tk.inn M.nee M.nee = I := ⟨_, rfl⟩
  have HUL : Hid (U.hav.length ≤ 7 ∧ U.nee.length ≤ 8 ∧ I.length ≤ 7) := Lib.hid (by
    have hb := HBD.out
    refine ⟨?_, ?_, ?_⟩
    · rw [← hU]; show (Tk.hav M.hav 0 wl).length ≤ 7; rw [Tk.hav_len]; exact hb.1
    · rw [← hU]; exact Tk.need_len _ _ _
    · rw [← hI]; exact Nat.le_trans (Tk.inn_len _ _) hb.2.1)
  have CP : Hid (Calls Try.prog 7 #[.agg #[.int .i64 M.kind, .int .i64 M.frm, .int .i64 M.dst, .int .i64 M.view, .int .i64 M.inst, .int .i64 M.len, .bool M.has, .int .i64 M.mem, .int .i64 M.src, .int .i64 M.pos, .int .i64 M.tot, .slice t1.Ad M.data.length t1.cd, .int .i64 M.hop, .int .i64 M.seq, .slice t1.Ah M.hav.length t1.ch, .slice t1.An M.nee.length t1.cn, .int .i64 M.idx, .int .i64 M.ent.s, .int .i64 M.ent.q, .int .i64 M.ent.c.kind, .int .i64 M.ent.c.who, .slice t1.c.Ak M.ent.c.key.length t1.c.ck, .slice t1.c.Av M.ent.c.val.length t1.c.cv, .slice t1.c.Ao M.ent.c.old.length t1.c.co], .int .i64 1, .int .i64 0, .int .i64 2, .int .i64 wl, .int .i64 1, .slice t1.An M.nee.length t1.cn, .slice (some ⟨q9, 0, none⟩) 1 1] W (GotP W W U I)) := Lib.hid (by
    have hb := HBD.out
    have hs := Tk.safe_bounds hb.2.2.2.2.2.2
    exact pass17 W (a := t1) (m := M) 1 0 2 wl 1 (has := M.nee) (mis := [99]) HENT.out.1 HENT.out.2 (by omega) (by omega) (HR1.out.below HBW.out) (HR1.out.n.below HBW.out) HR9.out (by omega) (by omega) (by omega) (by omega) (by omega) (by omega) hU hI)
  have HKW : Hid (Blk W g 29 (msgC t1 M) ∧ Blk W (g + 1) 29 (msgC t2 M)) := Lib.hid ⟨HK.out.1.below HBW.out, HK.out.2.below HBW.out⟩
  have HW1 := Lib.hid ((HR1.out.below HBW.out).fit)
  have HW2 := Lib.hid ((HR2.out.below HBW.out).fit)
  have HBX := Lib.hid (HB3.out.trans (HBW.out.mono HB3.out.size))
  clear HK HR1 HR2 HB3 HBW HR9 hU hI HENT
  refine CP.out.mono ?_
  rintro e x4 ⟨au, A9, c9, rfl, hoU, hoI, hBU, hbU⟩
  have HOU := Lib.hid hoU
  have HOI := Lib.hid hoI
  have HBU := Lib.hid hbU
  clear hoU hoI hBU hbU CP
  unfold msgV msgC
  go_upto_region 3 with (first
    | (refine wpList_store_row rfl 29 (.tmp 7) (.tmp 24) rfl x4.heap.size #[.int .i64 U.kind, .int .i64 U.frm, .int .i64 U.dst, .int .i64 U.view, .int .i64 U.inst, .int .i64 U.len, .bool U.has, .int .i64 U.mem, .int .i64 U.src, .int .i64 U.pos, .int .i64 U.tot, .slice au.Ad U.data.length au.cd, .int .i64 U.hop, .int .i64 U.seq, .slice au.Ah U.hav.length au.ch, .slice au.An U.nee.length au.cn, .int .i64 U.idx, .int .i64 U.ent.s, .int .i64 U.ent.q, .int .i64 U.ent.c.kind, .int .i64 U.ent.c.who, .slice au.c.Ak U.ent.c.key.length au.c.ck, .slice au.c.Av U.ent.c.val.length au.c.cv, .slice au.c.Ao U.ent.c.old.length au.c.co] rfl rfl 29 #[.int .i64 0, .int .i64 0, .int .i64 0, .int .i64 0, .int .i64 0, .int .i64 0, .bool false, .int .i64 0, .int .i64 0, .int .i64 0, .int .i64 0, .slice none 0 0, .int .i64 0, .int .i64 0, .slice none 0 0, .slice none 0 0, .int .i64 0, .int .i64 0, .int .i64 0, .int .i64 0, .int .i64 0, .slice none 0 0, .slice none 0 0, .slice none 0 0] (Blk.new x4 29 #[.int .i64 0, .int .i64 0, .int .i64 0, .int .i64 0, .int .i64 0, .int .i64 0, .bool false, .int .i64 0, .int .i64 0, .int .i64 0, .int .i64 0, .slice none 0 0, .int .i64 0, .int .i64 0, .slice none 0 0, .slice none 0 0, .int .i64 0, .int .i64 0, .int .i64 0, .int .i64 0, .int .i64 0, .slice none 0 0, .slice none 0 0, .slice none 0 0]) (by kernel_rfl) rfl (by kernel_rfl) ?_)
    | fail)
  obtain ⟨g7, x5, hgE, hwE, hbE, hkE⟩ := boxed x4 #[.int .i64 0, .int .i64 0, .int .i64 0, .int .i64 0, .int .i64 0, .int .i64 0, .bool false, .int .i64 0, .int .i64 0, .int .i64 0, .int .i64 0, .slice none 0 0, .int .i64 0, .int .i64 0, .slice none 0 0, .slice none 0 0, .int .i64 0, .int .i64 0, .int .i64 0, .int .i64 0, .int .i64 0, .slice none 0 0, .slice none 0 0, .slice none 0 0] #[.int .i64 U.kind, .int .i64 U.frm, .int .i64 U.dst, .int .i64 U.view, .int .i64 U.inst, .int .i64 U.len, .bool U.has, .int .i64 U.mem, .int .i64 U.src, .int .i64 U.pos, .int .i64 U.tot, .slice au.Ad U.data.length au.cd, .int .i64 U.hop, .int .i64 U.seq, .slice au.Ah U.hav.length au.ch, .slice au.An U.nee.length au.cn, .int .i64 U.idx, .int .i64 U.ent.s, .int .i64 U.ent.q, .int .i64 U.ent.c.kind, .int .i64 U.ent.c.who, .slice au.c.Ak U.ent.c.key.length au.c.ck, .slice au.c.Av U.ent.c.val.length au.c.cv, .slice au.c.Ao U.ent.c.old.length au.c.co] 29
  try rw [hgE]
  try rw [hwE]
  have HS : Hid (OwT17 W x5 g7 au U A9 I.length) := Lib.hid ⟨HBU.out.trans (hbE.mono HBU.out.size), hkE, ints17_own (ownsRow_below HOU.out.h hbE), ints17_own (ownsRow_below HOU.out.n hbE), ints17_own (ownsRow_below HOI.out hbE)⟩
  clear hgE hwE hbE hkE HOU HOI HBU
  obtain ⟨nh, hnh⟩ : ∃ x, U.hav.length = x := ⟨_, rfl⟩
  obtain ⟨nn, hnn⟩ : ∃ x, U.nee.length = x := ⟨_, rfl⟩
  obtain ⟨ni, hni⟩ : ∃ x, I.length = x := ⟨_, rfl⟩
  have HNN := Lib.hid (And.intro hnh (And.intro hnn hni))
  have hsm : nh ≤ 7 ∧ nn ≤ 8 ∧ ni ≤ 7 := by have := HUL.out; omega
  clear HUL
  have q1 := HS.out.k7.cell 14
  simp [msgC] at q1
  try rw [hnh] at q1
  go_wp2_with fail
  go_loopw [29] (fun s29 wr => ∃ j : Nat, j ≤ nh ∧ s29 = .int .i64 (j : Int) ∧ Hid (OwT17 W wr g7 au U A9 I.length)) (fun s29 _ => (nh - intOf s29).toNat)
  case atStart => exact ⟨0, by omega, rfl, HS⟩
  case round =>
    clear HS q1
    obtain ⟨j, hj, rfl, HS⟩ := hrel
    by_cases hlt : j < nh
    · obtain ⟨q, hA, hq⟩ := HS.out.h (by have := HNN.out; omega)
      obtain ⟨hq0, hf, v, hv⟩ := hq.at (j := j) (by have := HNN.out; omega)
      have HS2 := Lib.hid (HS.out.set (i := j) (u := .int .i64 777) hq)
      have hwj : IntKind.i64.wrap (j : Int) = (j : Int) := IntWalk.i64_in _ (by omega)
      have hwi : IntKind.i64.wrap ((j : Int) + 1) = (j : Int) + 1 := IntWalk.i64_in _ (by omega)
      have q2 := HS.out.k7.cell 14
      simp [msgC] at q2
      rw [hnh] at q2
      rw [hA] at q2
      clear hA hq
      go_wp2_with fail
      go_roundw
      case rel => exact ⟨j + 1, by omega, by go_num, HS2⟩
      case measure => simp [intOf]; omega
    · obtain rfl : j = nh := by omega
      have q1 := HS.out.k7.cell 15
      simp [msgC] at q1
      try rw [hnn] at q1
      go_wp2_with fail
      go_loopw [40] (fun s40 wr => ∃ j : Nat, j ≤ nn ∧ s40 = .int .i64 (j : Int) ∧ Hid (OwT17 W wr g7 au U A9 I.length)) (fun s40 _ => (nn - intOf s40).toNat)
      case atStart => exact ⟨0, by omega, rfl, HS⟩
      case round =>
        clear HS q1
        obtain ⟨j, hj, rfl, HS⟩ := hrel
        by_cases hlt : j < nn
        · obtain ⟨q, hA, hq⟩ := HS.out.n (by have := HNN.out; omega)
          obtain ⟨hq0, hf, v, hv⟩ := hq.at (j := j) (by have := HNN.out; omega)
          have HS2 := Lib.hid (HS.out.set (i := j) (u := .int .i64 777) hq)
          have hwj : IntKind.i64.wrap (j : Int) = (j : Int) := IntWalk.i64_in _ (by omega)
          have hwi : IntKind.i64.wrap ((j : Int) + 1) = (j : Int) + 1 := IntWalk.i64_in _ (by omega)
          have q2 := HS.out.k7.cell 15
          simp [msgC] at q2
          rw [hnn] at q2
          rw [hA] at q2
          clear hA hq
          go_wp2_with fail
          go_roundw
          case rel => exact ⟨j + 1, by omega, by go_num, HS2⟩
          case measure => simp [intOf]; omega
        · obtain rfl : j = nn := by omega
          go_wp2_with fail
          go_loopw [50] (fun s50 wr => ∃ j : Nat, j ≤ ni ∧ s50 = .int .i64 (j : Int) ∧ Hid (OwT17 W wr g7 au U A9 I.length)) (fun s50 _ => (ni - intOf s50).toNat)
          case atStart => exact ⟨0, by omega, rfl, HS⟩
          case round =>
            clear HS
            obtain ⟨j, hj, rfl, HS⟩ := hrel
            by_cases hlt : j < ni
            · obtain ⟨q, hA, hq⟩ := HS.out.i (by have := HNN.out; omega)
              obtain ⟨hq0, hf, v, hv⟩ := hq.at (j := j) (by have := HNN.out; omega)
              have HS2 := Lib.hid (HS.out.set (i := j) (u := .int .i64 777) hq)
              have hwj : IntKind.i64.wrap (j : Int) = (j : Int) := IntWalk.i64_in _ (by omega)
              have hwi : IntKind.i64.wrap ((j : Int) + 1) = (j : Int) + 1 := IntWalk.i64_in _ (by omega)
              subst hA
              clear hq
              go_wp2_with fail
              go_roundw
              case rel => exact ⟨j + 1, by omega, by go_num, HS2⟩
              case measure => simp [intOf]; omega
            · obtain rfl : j = ni := by omega
              have HKX := Lib.hid (And.intro (HKW.out.1.below HS.out.bel) (HKW.out.2.below HS.out.bel))
              have CSM := Lib.hid (refSame11_eq wr (a := t1) (a' := t2) (m := M) (m' := M) rfl HWD.out HWD.out (HW1.out.below HS.out.bel) (HW2.out.below HS.out.bel))
              rw [decide_eq_true rfl] at CSM
              unfold msgV msgC at CSM
              go_wp2_with (first
                | (refine wpList_load_row rfl 29 (.tmp 5) rfl g rfl 29 #[.int .i64 M.kind, .int .i64 M.frm, .int .i64 M.dst, .int .i64 M.view, .int .i64 M.inst, .int .i64 M.len, .bool M.has, .int .i64 M.mem, .int .i64 M.src, .int .i64 M.pos, .int .i64 M.tot, .slice t1.Ad M.data.length t1.cd, .int .i64 M.hop, .int .i64 M.seq, .slice t1.Ah M.hav.length t1.ch, .slice t1.An M.nee.length t1.cn, .int .i64 M.idx, .int .i64 M.ent.s, .int .i64 M.ent.q, .int .i64 M.ent.c.kind, .int .i64 M.ent.c.who, .slice t1.c.Ak M.ent.c.key.length t1.c.ck, .slice t1.c.Av M.ent.c.val.length t1.c.cv, .slice t1.c.Ao M.ent.c.old.length t1.c.co] (0, 0) _ HKX.out.1 Try.underlying29 rfl (by kernel_rfl) ?_)
                | (refine wpList_load_row rfl 29 (.tmp 6) rfl (g + 1) rfl 29 #[.int .i64 M.kind, .int .i64 M.frm, .int .i64 M.dst, .int .i64 M.view, .int .i64 M.inst, .int .i64 M.len, .bool M.has, .int .i64 M.mem, .int .i64 M.src, .int .i64 M.pos, .int .i64 M.tot, .slice t2.Ad M.data.length t2.cd, .int .i64 M.hop, .int .i64 M.seq, .slice t2.Ah M.hav.length t2.ch, .slice t2.An M.nee.length t2.cn, .int .i64 M.idx, .int .i64 M.ent.s, .int .i64 M.ent.q, .int .i64 M.ent.c.kind, .int .i64 M.ent.c.who, .slice t2.c.Ak M.ent.c.key.length t2.c.ck, .slice t2.c.Av M.ent.c.val.length t2.c.cv, .slice t2.c.Ao M.ent.c.old.length t2.c.co] (0, 0) _ HKX.out.2 Try.underlying29 rfl (by kernel_rfl) ?_)
                | (go_at_call 13; refine CSM.out.mono ?_; rintro e y1 ⟨rfl, hb1⟩; have HY1 := Lib.hid hb1; clear hb1)
                | (go_at_call 11; refine (awake17 _).mono ?_; rintro e y2 ⟨rfl, hb2⟩; have HY2 := Lib.hid hb2; clear hb2)
                | fail)
              go_ret
              have hb := HBX.out.trans (HS.out.bel.mono HBX.out.size)
              have hb2 := hb.trans (HY1.out.mono hb.size)
              exact ⟨rfl, hb2.trans (HY2.out.mono hb2.size)⟩
end Go.Proofs.Ytbgagmpifaakgaa

