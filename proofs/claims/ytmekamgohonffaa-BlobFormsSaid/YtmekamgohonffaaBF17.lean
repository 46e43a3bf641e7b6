/- PackRdr PackIn -/
import Derived.Test.YtmekamgohonffaaBF16
import Derived.RegionTactic
namespace Go.Proofs.Ytmekamgohonffaa
open Go.RowKit
set_option linter.unusedVariables false

/-- only block b has turned; what is new stands behind -/
abbrev Only (b : Nat) (w w' : World) : Prop := w.grownBy w' (some b)
theorem only_set {a w : World} {g : Nat} (h : Only g a w) (i : Nat) (u : Value) : Only g a (w.setCell ⟨g, i, none⟩ u) :=
  ⟨h.os, h.tape, h.output, by simpa [World.setCell] using h.size, fun k hk hne => (Below.heap_setCell w ⟨g, i, none⟩ u k (by rintro rfl; exact hne rfl)).trans (h.block k hk hne)⟩
theorem only_refl (g : Nat) (w : World) : Only g w w := World.grownBy.refl w _
theorem only_trans {a b c : World} {g : Nat} (h : Only g a b) (k : Only g b c) : Only g a c :=
  ⟨k.os.trans h.os, k.tape.trans h.tape, k.output.trans h.output, Nat.le_trans h.size k.size, fun i hi hn => (k.block i (Nat.lt_of_lt_of_le hi h.size) hn).trans (h.block i hi hn)⟩
theorem only_below {a w w' : World} {g B : Nat} (h : Only g a w) (hb : Below B w w') (hB : a.heap.size ≤ B) : Only g a w' :=
  ⟨hb.os.trans h.os, hb.tape.trans h.tape, hb.output.trans h.output, Nat.le_trans h.size hb.size, fun i hi hn => (hb.block i (by omega)).trans (h.block i hi hn)⟩
theorem below_only {W w w' : World} {g : Nat} (hB : Below W.heap.size W w) (h : Only g w w') (hg : W.heap.size ≤ g) : Below W.heap.size W w' :=
  hB.grown h hB.size (fun k hk => by injection hk with hk; omega)

theorem fail_any (w : World) (b : Nat) (s : Pk.St) (h : RdrAt w b s) :
    Calls Try.prog 38 #[.pointer (some ⟨b, 0, none⟩)] w fun e w' => e = .returned (.tuple #[]) ∧ RdrAt w' b none ∧ Only b w w' := by
  obtain ⟨A, n, c, hblk, h2, h3, h4, h5, h6⟩ := h
  have hc0 : w.cell? ⟨b, 0, none⟩ = some (.slice A n c) := hblk.cell 0
  have hc1 : w.cell? ⟨b, 1, none⟩ = some (.bool s.isNone) := hblk.cell 1
  have hf0 := hblk.frozen 0
  have hf1 := hblk.frozen 1
  have HB := Lib.hid hblk
  clear hblk h2 h3 h4 h5 h6
  go_enter Try.func38, Try.ntmps38
  go_wp2
  go_end0
  have hb := HB.out
  exact ⟨rfl, ⟨none, 0, 0, (hb.set_ 1 (.bool true)).set_ 0 (.slice none 0 0), by omega, by unfold maxLen; omega, by unfold Lim; omega, RdT.none_ _ _ _, by intro x hx; cases hx⟩, only_set (only_set (only_refl b w) 1 _) 0 _⟩
theorem first_is {l : List Nat} {v sz : Nat} (hf : Pk.first l = (v, sz)) (A : Option Addr) (n c B : Nat) (hl : ∀ x ∈ l, x < 256) (hc : n ≤ c) (hn : Lim 0 n) (w : World) (hr : Rd w B A n (bv l)) :
    Calls Try.prog 36 #[.slice A n c] w fun e w' => e = .returned (.tuple #[.int .i64 (v : Int), .int .i64 (sz : Int)]) ∧ w = w' := by
  have h := first_any l A n c B hl hc hn w hr
  rw [hf] at h
  exact h
/-- the reader's block turns to what is left -/
theorem rdr_cut {w : World} {b n c k : Nat} {A : Option Addr} {l : List Nat} (hb : Blk w b 79 #[.slice A n c, .bool false]) (hc : n ≤ c) (hm : c ≤ maxLen) (hn : Lim 40 n) (hr : RdT w 5 A n (bv l)) (hl : ∀ x ∈ l, x < 256) (hk : k ≤ n) :
    RdrAt (w.setCell ⟨b, 0, none⟩ (.slice (cutAt A c k) (n - k) (c - k))) b (some (l.drop k)) := by
  refine ⟨cutAt A c k, n - k, c - k, hb.set_ 0 _, by omega, by omega, by have := hn.out; unfold Lim; omega, ?_, fun x hx => hl x (List.mem_of_mem_drop hx)⟩
  have h1 := (hr.drop hk hc).grown (only_set (only_refl b w) 0 (.slice (cutAt A c k) (n - k) (c - k))) hb (by decide)
  rw [← bv_drop] at h1
  exact h1
theorem rdr_cuts {w : World} {b n c k : Nat} {A : Option Addr} {s : Pk.St} (hb : Blk w b 79 #[.slice A n c, .bool s.isNone]) (hc : n ≤ c) (hm : c ≤ maxLen) (hn : Lim 40 n) (hr : RdT w 5 A n (bv (s.getD []))) (hl : ∀ x ∈ s.getD [], x < 256) (hk : k ≤ n) :
    RdrAt (w.setCell ⟨b, 0, none⟩ (.slice (cutAt A c k) (n - k) (c - k))) b (s.map (List.drop k)) := by
  cases s with
  | some l => exact rdr_cut hb hc hm hn hr hl hk
  | none =>
    refine ⟨cutAt A c k, n - k, c - k, hb.set_ 0 _, by omega, by omega, by have := hn.out; unfold Lim; omega, ?_, fun x hx => by cases hx⟩
    have h0 : n = 0 := by have := hr.rd.length; simpa using this.symm
    subst h0
    rw [Nat.zero_sub]
    exact RdT.none_ _ _ _
/-- what Num answers, and leaves -/
def NumP (w : World) (b : Nat) (v : Nat) (s : Pk.St) (e : Ending) (w' : World) : Prop := e = .returned (.int .i64 (v : Int)) ∧ RdrAt w' b s ∧ Only b w w'
set_option maxRecDepth 100000 in
theorem rnum_any (w : World) (b : Nat) (s : Pk.St) (most : Int) (h : RdrAt w b s) :
    Calls Try.prog 15 #[.pointer (some ⟨b, 0, none⟩), .int .i64 most] w (NumP w b (Pk.numV s most) (Pk.numS s most)) := by
  have HR := Lib.hid h
  obtain ⟨A, n, c, hblk, h2, h3, h4, h5, h6⟩ := h
  have hc0 : w.cell? ⟨b, 0, none⟩ = some (.slice A n c) := hblk.cell 0
  have hf0 := hblk.frozen 0
  obtain ⟨v, sz, hf⟩ : ∃ v sz, Pk.first (s.getD []) = (v, sz) := ⟨_, _, rfl⟩
  have hsz := Pk.first_size (s.getD [])
  have hlen := h5.rd.length
  rw [hf] at hsz
  have hszn : sz ≤ n := by have := hsz.1; simp only at this; omega
  have HB := Lib.hid hblk
  have HT := Lib.hid h5
  have HL := Lib.hid h6
  have HF := Lib.hid hf
  have HM := Lib.hid h3
  clear hblk h5 h6 hlen hsz hf h3
  have hcall := Lib.hid (first_is HF.out A n c w.heap.size HL.out h2 (by have := h4.out; unfold Lim; omega) w HT.out.rd)
  by_cases hz : sz = 0
  · have HN := Lib.hid (show Pk.numN s most = none by
      cases s with
      | none => rfl
      | some l => have := HF.out; simp only [Option.getD_some] at this; simp [Pk.numN, Pk.rNum, this, hz])
    subst hz
    go_enter Try.func15, Try.ntmps15
    go_wp2_with fail
    refine hcall.out.mono ?_
    rintro e w' ⟨rfl, rfl⟩
    go_wp2_with fail
    refine (fail_any w b s HR.out).mono ?_
    rintro e w' ⟨rfl, hr1, ho1⟩
    go_wp2
    go_ret
    unfold NumP Pk.numV Pk.numS
    rw [HN.out]
    exact ⟨rfl, hr1, ho1⟩
  · obtain ⟨l, rfl⟩ : ∃ l, s = some l := by
      cases s with
      | none => exfalso; apply hz; have := HF.out; simp [Pk.first, Pk.dec] at this; omega
      | some l => exact ⟨l, rfl⟩
    have hzi : ((sz : Int) == 0) = false := by simp; omega
    by_cases hm : Pk.held most < v
    · have HN := Lib.hid (show Pk.numN (some l) most = none by
        have := HF.out; simp only [Option.getD_some] at this; simp [Pk.numN, Pk.rNum, this, hm])
      go_enter Try.func15, Try.ntmps15
      go_wp2_with fail
      refine hcall.out.mono ?_
      rintro e w' ⟨rfl, rfl⟩
      go_wp2_with (go_at_call 37; refine (held_any _ _).mono ?_; rintro e w' ⟨rfl, rfl⟩)
      refine (fail_any w b _ HR.out).mono ?_
      rintro e w' ⟨rfl, hr1, ho1⟩
      go_wp2
      go_ret
      unfold NumP Pk.numV Pk.numS
      rw [HN.out]
      exact ⟨rfl, hr1, ho1⟩
    · have HN := Lib.hid (show Pk.numN (some l) most = some (v, l.drop sz) by
        have := HF.out; simp only [Option.getD_some] at this; simp [Pk.numN, Pk.rNum, this, hm, hz])
      obtain ⟨i, hi1, hi2, hi3, hi4⟩ := info_parts byteT.info
      have hsl := run_slice_from (P := Try.prog) (t := 22) byteT.under hi1 hi3 A n c sz hszn
      clear hi1 hi2 hi3 hi4 hz
      go_enter Try.func15, Try.ntmps15
      go_wp2_with fail
      refine hcall.out.mono ?_
      rintro e w' ⟨rfl, rfl⟩
      go_wp2_with (go_at_call 37; refine (held_any _ _).mono ?_; rintro e w' ⟨rfl, rfl⟩)
      go_ret
      unfold NumP Pk.numV Pk.numS
      rw [HN.out]
      exact ⟨rfl, rdr_cut HB.out h2 HM.out h4 HT.out HL.out hszn, only_set (only_refl b w) 0 _⟩
/-- what Bytes answers, and leaves -/
def BytP (W : World) (b : Nat) (vs : List Nat) (s : Pk.St) (e : Ending) (w' : World) : Prop := ∃ A n c, e = .returned (.slice A n c) ∧ OwnB W w' A n c vs ∧ RdrAt w' b s ∧ Only b W w'
theorem own_only {W w w' : World} {A : Option Addr} {n c b : Nat} {l : List Nat} (h : OwnB W w A n c l) (ho : Only b w w') (hb : b < W.heap.size) : OwnB W w' A n c l :=
  h.kept ho (by
    rcases he : (Value.slice A n c).ownBlock with _ | k
    · exact .inl rfl
    · right
      intro h2
      injection h2 with h2
      have := (h.lt k he).1
      omega)
/-- what is a row of the call's own in a later world of it -/
theorem own_base {W W' w : World} {A : Option Addr} {n c : Nat} {l : List Nat} (h : OwnB W' w A n c l) (hs : W.heap.size ≤ W'.heap.size) : OwnB W w A n c l := by
  obtain ⟨h1, h2⟩ := h
  refine ⟨h1, ?_⟩
  rcases h2 with h2 | ⟨g, cap, cur, hv, hb, r⟩
  · exact .inl h2
  · exact .inr ⟨g, cap, cur, hv, by omega, r⟩
set_option maxRecDepth 100000 in
theorem rbytes_any (w : World) (b : Nat) (s : Pk.St) (most : Int) (h : RdrAt w b s) :
    Calls Try.prog 17 #[.pointer (some ⟨b, 0, none⟩), .int .i64 most] w (BytP w b (Pk.bytV s most) (Pk.bytS s most)) := by
  have hbl := h.lt
  have hcall := Lib.hid (rnum_any w b s most h)
  clear h
  by_cases hv : ((Pk.numS s most).getD []).length < Pk.numV s most
  · obtain ⟨hb1, hb2⟩ := Pk.byt_no hv
    rw [hb1, hb2]
    clear hb1 hb2
    go_enter Try.func17, Try.ntmps17
    go_wp2_with fail
    refine hcall.out.mono ?_
    rintro e w1 ⟨rfl, hr1, ho1⟩
    have HR := Lib.hid hr1
    obtain ⟨A, n, c, hblk, h2, h3, h4, h5, h6⟩ := hr1
    have hc0 : w1.cell? ⟨b, 0, none⟩ = some (.slice A n c) := hblk.cell 0
    have hlt : n < Pk.numV s most := by have := h5.rd.length; omega
    clear hblk h5 h6 hv h3
    go_wp2_with fail
    refine (fail_any w1 b _ HR.out).mono ?_
    rintro e w2 ⟨rfl, hr2, ho2⟩
    go_wp2
    go_ret
    exact ⟨none, 0, 0, rfl, World.ownsRow_nil _ _ _ _, hr2, only_trans ho1 ho2⟩
  · obtain ⟨hb1, hb2⟩ := Pk.byt_of hv
    have HB1 := Lib.hid hb1
    have HB2 := Lib.hid hb2
    clear hb1 hb2
    go_enter Try.func17, Try.ntmps17
    go_wp2_with fail
    refine hcall.out.mono ?_
    rintro e w1 ⟨rfl, hr1, ho1⟩
    obtain ⟨A, n, c, hblk, h2, h3, h4, h5, h6⟩ := hr1
    have hc0 : w1.cell? ⟨b, 0, none⟩ = some (.slice A n c) := hblk.cell 0
    have hlt : Pk.numV s most ≤ n := by have := h5.rd.length; omega
    have hltc : Pk.numV s most ≤ c := by omega
    have HT := Lib.hid h5
    have HB := Lib.hid hblk
    have HL := Lib.hid h6
    have HM := Lib.hid h3
    obtain ⟨i, hi1, hi2, hi3, hi4⟩ := info_parts byteT.info
    have hs1 := run_slice_from (P := Try.prog) (t := 22) byteT.under hi1 hi3 A n c (Pk.numV s most) hlt
    have hs2 := run_slice_to (P := Try.prog) (t := 22) byteT.under hi1 A n c (Pk.numV s most) hltc
    clear hblk h5 h6 hv h3 hi1 hi2 hi3 hi4
    go_wp2_with fail
    refine (withRoom_any (((Pk.numS s most).getD []).take (Pk.numV s most)) A (Pk.numV s most) c w1.heap.size 0 (by have := h4.out; unfold Lim; omega) (by omega) (by omega) _ (by rw [bv_take]; exact (HT.out.take hlt).rd)).mono ?_
    rintro e w2 ⟨A2, n2, c2, rfl, hown2, hB2⟩
    have hb2 := HB.out.below hB2
    have hc1 : w2.cell? ⟨b, 0, none⟩ = some (.slice A n c) := hb2.cell 0
    have hf1 := hb2.frozen 0
    have HB3 := Lib.hid hb2
    clear hc0 hb2
    go_wp2
    go_ret
    unfold BytP
    rw [HB1.out, HB2.out]
    have ho2 := only_set (only_below ho1 hB2 ho1.size) 0 (.slice (cutAt A c (Pk.numV s most)) (n - Pk.numV s most) (c - Pk.numV s most))
    exact ⟨A2, n2, c2, rfl, own_only (own_base hown2 ho1.size) (only_set (only_refl b w2) 0 _) hbl, rdr_cuts HB3.out h2 HM.out h4 (HT.out.below hB2) HL.out hlt, ho2⟩
theorem ok_any (w : World) (b : Nat) (s : Pk.St) (h : RdrAt w b s) :
    Calls Try.prog 52 #[.pointer (some ⟨b, 0, none⟩)] w fun e w' => e = .returned (.bool s.isSome) ∧ w = w' := by
  obtain ⟨A, n, c, hblk, h2, h3, h4, h5, h6⟩ := h
  have hc1 : w.cell? ⟨b, 1, none⟩ = some (.bool s.isNone) := hblk.cell 1
  clear hblk h2 h3 h4 h5 h6
  cases s with
  | none =>
    go_enter Try.func52, Try.ntmps52
    go_wp2
    go_ret
    exact ⟨rfl, rfl⟩
  | some l =>
    go_enter Try.func52, Try.ntmps52
    go_wp2
    go_ret
    exact ⟨rfl, rfl⟩
/-- is all read, and well? -/
def Pk.endOf (s : Pk.St) : Bool := decide (s = some [])
theorem end_any (w : World) (b : Nat) (s : Pk.St) (h : RdrAt w b s) :
    Calls Try.prog 19 #[.pointer (some ⟨b, 0, none⟩)] w fun e w' => e = .returned (.bool (Pk.endOf s)) ∧ w = w' := by
  have HK := Lib.hid (ok_any w b s h)
  obtain ⟨A, n, c, hblk, h2, h3, h4, h5, h6⟩ := h
  have hc0 : w.cell? ⟨b, 0, none⟩ = some (.slice A n c) := hblk.cell 0
  have hlen := h5.rd.length
  clear hblk h2 h3 h4 h5 h6
  rcases s with _ | l
  · clear hlen
    go_enter Try.func19, Try.ntmps19
    go_wp2_with fail
    refine HK.out.mono ?_
    rintro e w1 ⟨rfl, rfl⟩
    go_wp2
    go_ret
    exact ⟨rfl, rfl⟩
  · obtain ⟨d, hd1, hd2⟩ : ∃ d : Bool, ((n : Int) == 0) = d ∧ Pk.endOf (some l) = d := by
      refine ⟨_, rfl, ?_⟩
      have hl : l.length = n := hlen
      unfold Pk.endOf
      rw [Bool.eq_iff_iff]
      cases l with
      | nil => simp at hl; simp; omega
      | cons x l => simp at hl; simp; omega
    have HD := Lib.hid hd2
    clear hlen hd2
    cases d
    all_goals
      go_enter Try.func19, Try.ntmps19
      go_wp2_with fail
      refine HK.out.mono ?_
      rintro e w1 ⟨rfl, rfl⟩
      go_wp2
      go_ret
      exact ⟨by rw [HD.out]; rfl, rfl⟩
end Go.Proofs.Ytmekamgohonffaa

namespace Go.Proofs.Ytmekamgohonffaa
open Go.RowKit
set_option linter.unusedVariables false
theorem rnum_is (w : World) (b : Nat) (s : Pk.St) (most : Int) (h : RdrAt w b s) (v : Nat) (s' : Pk.St) (hv : Pk.numV s most = v) (hs : Pk.numS s most = s') :
    Calls Try.prog 15 #[.pointer (some ⟨b, 0, none⟩), .int .i64 most] w (NumP w b v s') := by
  subst hv hs; exact rnum_any w b s most h
theorem rbytes_is (w : World) (b : Nat) (s : Pk.St) (most : Int) (h : RdrAt w b s) (v : List Nat) (s' : Pk.St) (hv : Pk.bytV s most = v) (hs : Pk.bytS s most = s') :
    Calls Try.prog 17 #[.pointer (some ⟨b, 0, none⟩), .int .i64 most] w (BytP w b v s') := by
  subst hv hs; exact rbytes_any w b s most h
theorem read_in {W w : World} {l : List Nat} {A : Option Addr} {n c B : Nat} (hn : Lim 40 n) (hl : ∀ x ∈ l, x < 256) (hr : Rd w B A n (bv l)) (hB : Below W.heap.size W w) :
    Calls Try.prog 14 #[.slice A n c] w fun e w' => ∃ b, e = .returned (.pointer (some ⟨b, 0, none⟩)) ∧ RdrAt w' b (some l) ∧ W.heap.size ≤ b ∧ w.heap.size ≤ b ∧ Below W.heap.size W w' ∧ Below w.heap.size w w' :=
  (readP_any l A n c B hn hl w hr).mono fun e w' ⟨b, h1, h2, h3, h4⟩ => ⟨b, h1, h2, Nat.le_trans hB.size h3, h3, hB.trans (h4.mono hB.size), h4⟩
theorem put_in {W w : World} {l l' : List Nat} {A : Option Addr} {n c B : Nat} {N : Int} (hn : Lim 20 n) (hr : Rd w B A n (bv l)) (hB : Below W.heap.size W w) (he : l ++ Pk.enc (Pk.held N) = l') :
    Calls Try.prog 8 #[.slice A n c, .int .i64 N] w fun e w' => ∃ A n c, e = .returned (.slice A n c) ∧ OwnB W w' A n c l' ∧ Below W.heap.size W w' ∧ Below w.heap.size w w' := by
  subst he
  refine (num_any l A n c B N hn w hr).mono ?_
  rintro e w' ⟨A, n, c, h1, h2, h3⟩
  exact ⟨A, n, c, h1, own_base h2 hB.size, hB.trans (h3.mono hB.size), h3⟩
theorem putb_in {W w : World} {l x l' : List Nat} {A : Option Addr} {n c B : Nat} {A' : Option Addr} {n' c' B' : Nat} (hr : Rd w B A n (bv l)) (hr' : Rd w B' A' n' (bv x)) (hn : Lim 20 (l.length + x.length)) (hB : Below W.heap.size W w) (he : l ++ Pk.encB x = l') :
    Calls Try.prog 9 #[.slice A n c, .slice A' n' c'] w fun e w' => ∃ A n c, e = .returned (.slice A n c) ∧ OwnB W w' A n c l' ∧ Below W.heap.size W w' ∧ Below w.heap.size w w' := by
  subst he
  have h1 := hr.length
  have h2 := hr'.length
  have h3 := hn.out
  refine (bytes_any l x A n c B A' n' c' B' (by unfold Lim; omega) (by unfold Lim; omega) (by unfold Lim; omega) w hr hr').mono ?_
  rintro e w' ⟨A, n, c, h1, h2, h3⟩
  exact ⟨A, n, c, h1, own_base h2 hB.size, hB.trans (h3.mono hB.size), h3⟩
end Go.Proofs.Ytmekamgohonffaa

