/- ObjCmdD -/
import Derived.Test.YtneehnoolhadbaaGP46
import Derived.Test.YtneehnoolhadbaaGP47
namespace Go.Proofs.Ytneehnoolhadbaa
open Go.RowKit
set_option linter.unusedVariables false
def tab16 (j : Nat) : ByteArray := ([⟨#[]⟩, ⟨#[97]⟩, ⟨#[98]⟩, ⟨#[99]⟩, ⟨#[97, 98]⟩, ⟨#[97, 98, 99]⟩, ⟨#[122]⟩, ⟨#[0]⟩, ⟨#[255]⟩, ⟨#[97, 98, 99, 100, 101, 102, 103, 104]⟩, ⟨#[97, 98, 99, 100, 101, 102, 103, 104, 105]⟩, ⟨#[107, 49]⟩, ⟨#[107, 50]⟩, ⟨#[107, 51]⟩, ⟨#[107, 52]⟩, ⟨#[107, 53]⟩] : List ByteArray).getD j ⟨#[]⟩
/-- a row of bytes: its block holds bytes, whatever its mark -/
def Rd8 (w : World) (B : Nat) (A : Option Addr) (n : Nat) (vs : List Value) : Prop := Rd w B A n vs ∧ ∃ g o, A = some ⟨g, o, none⟩ ∧ g < B ∧ ∃ cs fr, w.heap[g]? = some (.cells cs 5 fr)
section
variable {w w' : World} {B n : Nat} {A : Option Addr} {vs : List Value}
theorem Rd8.below (h : Rd8 w B A n vs) (hb : Below B w w') : Rd8 w' B A n vs := by
  obtain ⟨h1, g, o, e, hg, cs, fr, hc⟩ := h
  exact ⟨h1.below hb, g, o, e, hg, cs, fr, (hb.block g hg).trans hc⟩
theorem Rd8.fit (h : Rd8 w B A n vs) : Rd8 w w.heap.size A n vs := by
  obtain ⟨h1, g, o, e, hg, cs, fr, hc⟩ := h
  exact ⟨h1.fit, g, o, e, (Array.getElem?_eq_some_iff.1 hc).1, cs, fr, hc⟩
theorem Rd8.of_stringAt (w : World) (s : ByteArray) (cap : Nat) (mark : Nat × Nat) {g : Nat} (hg : w.heap.size = g) : Rd8 (w.alloc (.cells (bytesRow s cap) 5 mark)) (w.alloc (.cells (bytesRow s cap) 5 mark)).heap.size (some ⟨g, 0, none⟩) (sb s).length (bv (sb s)) := by
  subst hg
  refine ⟨Rd.of_stringAt w s cap 5 mark rfl, w.heap.size, 0, rfl, by rw [World.size_alloc]; omega, bytesRow s cap, mark, ?_⟩
  show (w.heap.push _)[w.heap.size]? = _
  simp
theorem Rd8.set_ne {gk o b i : Nat} {u : Value} (h : Rd8 w B (some ⟨gk, o, none⟩) n vs) (hne : b ≠ gk) : Rd8 (w.setCell ⟨b, i, none⟩ u) (w.setCell ⟨b, i, none⟩ u).heap.size (some ⟨gk, o, none⟩) n vs := by
  obtain ⟨h1, g, o', e, hg, cs, fr, hc⟩ := h
  injection e with e
  injection e with e1 e2
  subst e1 e2
  have h2 := h1.set_ne (i := i) (u := u) hne
  have hb : (w.setCell ⟨b, i, none⟩ u).heap[gk]? = w.heap[gk]? := (grown_set w b i u).block gk (Array.getElem?_eq_some_iff.1 hc).1 (by intro e; injection e with e; exact hne e.symm)
  exact ⟨h2, gk, o, rfl, by rw [World.size_setCell]; exact (Array.getElem?_eq_some_iff.1 hc).1, cs, fr, hb.trans hc⟩
end
/-- the key of a number -/
def keyOf (n : Int) : List Nat := sb (tab16 (n % 16).toNat)
def GotKD (w : World) (k : List Nat) (e : Ending) (w' : World) : Prop := ∃ (g c : Nat), e = .returned (.slice (some ⟨g, 0, none⟩) k.length c) ∧ Rd8 w' w'.heap.size (some ⟨g, 0, none⟩) k.length (bv k) ∧ (∀ x ∈ k, x < 256) ∧ k.length ≤ 9 ∧ w.heap.size ≤ g ∧ g < w'.heap.size ∧ Below w.heap.size w w'
theorem gotKD_of {w w1 : World} (s : ByteArray) (cap : Nat) (mark : Nat × Nat) (hs : s.size ≤ 9) (hB : Below w.heap.size w w1) {g : Nat} (hg : w1.heap.size = g) : GotKD w (sb s) (.returned (.slice (some ⟨g, 0, none⟩) s.size cap)) (w1.alloc (.cells (bytesRow s cap) 5 mark)) := by
  subst hg
  refine ⟨w1.heap.size, cap, by rw [sb_len], Rd8.of_stringAt w1 s cap mark rfl, sb_lt s, by rw [sb_len]; exact hs, hB.size, by simp, hB.alloc hB.size _⟩
set_option maxHeartbeats 1000000 in
set_option maxRecDepth 100000 in
theorem keysD_any (n : Int) (w : World) : Calls Try.prog 50 #[.int .i64 n] w (GotKD w (keyOf n)) := by
  obtain ⟨j, hj, hj16, hjn⟩ : ∃ j : Nat, bits .and .i64 n 15 = (j : Int) ∧ j < 16 ∧ (n % 16).toNat = j := by
    rw [and_15]
    have h1 := Int.emod_nonneg n (show (16 : Int) ≠ 0 by omega)
    exact ⟨(n % 16).toNat, by omega, by omega, rfl⟩
  unfold keyOf
  rw [hjn]
  clear hjn
  have kc := fun (w : World) (s : ByteArray) => run_bytes_of_string (P := Try.prog) w 9 25 5 s Try.underlying9 Try.underlying25 Try.underlying5
  have hji : (j : Int) < 16 := by omega
  have HJ := Lib.hid (show j = 0 ∨ j = 1 ∨ j = 2 ∨ j = 3 ∨ j = 4 ∨ j = 5 ∨ j = 6 ∨ j = 7 ∨ j = 8 ∨ j = 9 ∨ j = 10 ∨ j = 11 ∨ j = 12 ∨ j = 13 ∨ j = 14 ∨ j = 15 by omega)
  clear hji
  rcases HJ.out with rfl | rfl | rfl | rfl | rfl | rfl | rfl | rfl | rfl | rfl | rfl | rfl | rfl | rfl | rfl | rfl
  all_goals clear HJ
  all_goals go_enter Try.func50, Try.ntmps50
  all_goals go_wp2
  all_goals go_ret
  · exact gotKD_of (⟨#[]⟩ : ByteArray) _ _ (by decide) ((Below.refl _ _).alloc (Nat.le_refl _) _).drew (by simp)
  · exact gotKD_of (⟨#[97]⟩ : ByteArray) _ _ (by decide) ((Below.refl _ _).alloc (Nat.le_refl _) _).drew (by simp)
  · exact gotKD_of (⟨#[98]⟩ : ByteArray) _ _ (by decide) ((Below.refl _ _).alloc (Nat.le_refl _) _).drew (by simp)
  · exact gotKD_of (⟨#[99]⟩ : ByteArray) _ _ (by decide) ((Below.refl _ _).alloc (Nat.le_refl _) _).drew (by simp)
  · exact gotKD_of (⟨#[97, 98]⟩ : ByteArray) _ _ (by decide) ((Below.refl _ _).alloc (Nat.le_refl _) _).drew (by simp)
  · exact gotKD_of (⟨#[97, 98, 99]⟩ : ByteArray) _ _ (by decide) ((Below.refl _ _).alloc (Nat.le_refl _) _).drew (by simp)
  · exact gotKD_of (⟨#[122]⟩ : ByteArray) _ _ (by decide) ((Below.refl _ _).alloc (Nat.le_refl _) _).drew (by simp)
  · exact gotKD_of (⟨#[0]⟩ : ByteArray) _ _ (by decide) ((Below.refl _ _).alloc (Nat.le_refl _) _).drew (by simp)
  · exact gotKD_of (⟨#[255]⟩ : ByteArray) _ _ (by decide) ((Below.refl _ _).alloc (Nat.le_refl _) _).drew (by simp)
  · exact gotKD_of (⟨#[97, 98, 99, 100, 101, 102, 103, 104]⟩ : ByteArray) _ _ (by decide) ((Below.refl _ _).alloc (Nat.le_refl _) _).drew (by simp)
  · exact gotKD_of (⟨#[97, 98, 99, 100, 101, 102, 103, 104, 105]⟩ : ByteArray) _ _ (by decide) ((Below.refl _ _).alloc (Nat.le_refl _) _).drew (by simp)
  · exact gotKD_of (⟨#[107, 49]⟩ : ByteArray) _ _ (by decide) ((Below.refl _ _).alloc (Nat.le_refl _) _).drew (by simp)
  · exact gotKD_of (⟨#[107, 50]⟩ : ByteArray) _ _ (by decide) ((Below.refl _ _).alloc (Nat.le_refl _) _).drew (by simp)
  · exact gotKD_of (⟨#[107, 51]⟩ : ByteArray) _ _ (by decide) ((Below.refl _ _).alloc (Nat.le_refl _) _).drew (by simp)
  · exact gotKD_of (⟨#[107, 52]⟩ : ByteArray) _ _ (by decide) ((Below.refl _ _).alloc (Nat.le_refl _) _).drew (by simp)
  · exact gotKD_of (⟨#[107, 53]⟩ : ByteArray) _ _ (by decide) ((Below.refl _ _).alloc (Nat.le_refl _) _).drew (by simp)
structure CmdS8 (wz wx : World) (g gk go ck co : Nat) (Av : Option Addr) (cv : Nat) (lk lv lo : List Nat) (kd wh : Int) : Prop where
  blk : Blk wx g 27 #[.int .i64 kd, .int .i64 wh, .slice (some ⟨gk, 0, none⟩) lk.length ck, .slice Av lv.length cv, .slice (some ⟨go, 0, none⟩) lo.length co]
  zg : wz.heap.size ≤ g
  zk : wz.heap.size ≤ gk
  zo : wz.heap.size ≤ go
  nk : g ≠ gk
  no : g ≠ go
  rk : Rd8 wx wx.heap.size (some ⟨gk, 0, none⟩) lk.length (bv lk)
  ro : Rd8 wx wx.heap.size (some ⟨go, 0, none⟩) lo.length (bv lo)
  bel : Below wz.heap.size wz wx
theorem CmdS8.below {wz wx wy : World} {g gk go ck co : Nat} {Av : Option Addr} {cv : Nat} {lk lv lo : List Nat} {kd wh : Int} (h : CmdS8 wz wx g gk go ck co Av cv lk lv lo kd wh) (hb : Below wx.heap.size wx wy) : CmdS8 wz wy g gk go ck co Av cv lk lv lo kd wh :=
  ⟨h.blk.below hb, h.zg, h.zk, h.zo, h.nk, h.no, (h.rk.below hb).fit, (h.ro.below hb).fit, h.bel.trans (hb.mono h.bel.size)⟩
theorem CmdS8.set0 {wz wx : World} {g gk go ck co : Nat} {Av : Option Addr} {cv : Nat} {lk lv lo : List Nat} {kd wh : Int} (h : CmdS8 wz wx g gk go ck co Av cv lk lv lo kd wh) (z : Int) : CmdS8 wz (wx.setCell ⟨g, 0, none⟩ (.int .i64 z)) g gk go ck co Av cv lk lv lo z wh :=
  ⟨h.blk.set_ 0 _, h.zg, h.zk, h.zo, h.nk, h.no, h.rk.set_ne h.nk, h.ro.set_ne h.no, h.bel.setCell (p := ⟨g, 0, none⟩) h.zg _⟩
theorem CmdS8.set1 {wz wx : World} {g gk go ck co : Nat} {Av : Option Addr} {cv : Nat} {lk lv lo : List Nat} {kd wh : Int} (h : CmdS8 wz wx g gk go ck co Av cv lk lv lo kd wh) (z : Int) : CmdS8 wz (wx.setCell ⟨g, 1, none⟩ (.int .i64 z)) g gk go ck co Av cv lk lv lo kd z :=
  ⟨h.blk.set_ 1 _, h.zg, h.zk, h.zo, h.nk, h.no, h.rk.set_ne h.nk, h.ro.set_ne h.no, h.bel.setCell (p := ⟨g, 1, none⟩) h.zg _⟩
/-- a command's rows: of bytes, from base on -/
structure RdC8 (w : World) (base : Nat) (a : CA) (c : Cm) : Prop where
  k : Rd8 w w.heap.size a.Ak c.key.length (bv c.key)
  v : Rd8 w w.heap.size a.Av c.val.length (bv c.val)
  o : Rd8 w w.heap.size a.Ao c.old.length (bv c.old)
  n : ∃ gk gv go, a.Ak = some ⟨gk, 0, none⟩ ∧ a.Av = some ⟨gv, 0, none⟩ ∧ a.Ao = some ⟨go, 0, none⟩ ∧ base ≤ gk ∧ base ≤ gv ∧ base ≤ go
theorem RdC8.rd {w : World} {base : Nat} {a : CA} {c : Cm} (h : RdC8 w base a c) : RdC w w.heap.size a c := ⟨h.k.1, h.v.1, h.o.1⟩
theorem RdC8.z {w : World} {base : Nat} {a : CA} {c : Cm} (h : RdC8 w base a c) : a.Z := by
  obtain ⟨gk, gv, go, e1, e2, e3, _⟩ := h.n
  exact ⟨⟨gk, e1⟩, ⟨gv, e2⟩, ⟨go, e3⟩⟩
theorem RdC8.mono {w : World} {base base' : Nat} {a : CA} {c : Cm} (h : RdC8 w base a c) (hb : base' ≤ base) : RdC8 w base' a c := by
  obtain ⟨h1, h2, h3, gk, gv, go, e1, e2, e3, n1, n2, n3⟩ := h
  exact ⟨h1, h2, h3, gk, gv, go, e1, e2, e3, by omega, by omega, by omega⟩
theorem RdC8.set {w : World} {base b i : Nat} {u : Value} {a : CA} {c : Cm} (h : RdC8 w base a c) (hb : b < base) : RdC8 (w.setCell ⟨b, i, none⟩ u) base a c := by
  obtain ⟨h1, h2, h3, gk, gv, go, e1, e2, e3, n1, n2, n3⟩ := h
  rw [e1] at h1
  rw [e2] at h2
  rw [e3] at h3
  exact ⟨by rw [e1]; exact h1.set_ne (by omega), by rw [e2]; exact h2.set_ne (by omega), by rw [e3]; exact h3.set_ne (by omega), gk, gv, go, e1, e2, e3, n1, n2, n3⟩
/-- the command of a number -/
def cmdOf (n : Int) : Cm :=
  ⟨if n / 524288 % 32 = 0 then n / 16777216 % 32 else if n % 32 % 13 = 0 ∨ n % 32 % 13 = 12 then tabk (n / 131072 % 4).toNat else n % 32 % 13,
   if n / 524288 % 32 = 0 then n / 131072 % 2048 - 20 else n / 256 % 8, keyOf (n / 2048), sb (tab8 (n / 32 % 8).toNat), sb (tab4 (n / 32768 % 4).toNat)⟩
set_option maxRecDepth 100000 in
set_option maxHeartbeats 8000000 in
theorem cmdN_det (n : Int) (w : World) : Calls Try.prog 46 #[.int .i64 n] w fun e w' => ∃ ca, e = .returned (cmdV ca (cmdOf n)) ∧ (cmdOf n).Fits ∧ RdC8 w' w.heap.size ca (cmdOf n) ∧ Below w.heap.size w w' := by
  obtain ⟨lk, hlk0⟩ : ∃ l, keyOf (n / 2048) = l := ⟨_, rfl⟩
  have HKD : Hid (∀ w, Calls Try.prog 50 #[.int .i64 (n / 2048)] w (GotKD w lk)) := Lib.hid (fun w => by rw [← hlk0]; exact keysD_any _ w)
  have HLK := Lib.hid hlk0
  clear hlk0
  obtain ⟨j, hj, hj8, hjn⟩ : ∃ j : Nat, bits .and .i64 (n / 32) 7 = (j : Int) ∧ j < 8 ∧ (n / 32 % 8).toNat = j := by
    rw [and_7]; have h1 := Int.emod_nonneg (n / 32) (show (8 : Int) ≠ 0 by omega); exact ⟨(n / 32 % 8).toNat, by omega, by omega, rfl⟩
  have HJN := Lib.hid hjn
  clear hjn
  obtain ⟨i, hi, hi4, hin⟩ : ∃ j : Nat, bits .and .i64 (n / 32768) 3 = (j : Int) ∧ j < 4 ∧ (n / 32768 % 4).toNat = j := by
    rw [and_3]; have h1 := Int.emod_nonneg (n / 32768) (show (4 : Int) ≠ 0 by omega); exact ⟨(n / 32768 % 4).toNat, by omega, by omega, rfl⟩
  have HIN := Lib.hid hin
  clear hin
  have kc := fun (w : World) (s : ByteArray) => run_bytes_of_string (P := Try.prog) w 9 25 5 s Try.underlying9 Try.underlying25 Try.underlying5
  obtain ⟨m, hm, hm32, hmn⟩ : ∃ j : Nat, bits .and .i64 n 31 = (j : Int) ∧ j < 32 ∧ n % 32 = (j : Int) := by
    rw [and_31]; have h1 := Int.emod_nonneg n (show (32 : Int) ≠ 0 by omega); exact ⟨(n % 32).toNat, by omega, by omega, by omega⟩
  obtain ⟨y, hy, hy8, hyn⟩ : ∃ j : Nat, bits .and .i64 (n / 256) 7 = (j : Int) ∧ j < 8 ∧ n / 256 % 8 = (j : Int) := by
    rw [and_7]; have h1 := Int.emod_nonneg (n / 256) (show (8 : Int) ≠ 0 by omega); exact ⟨(n / 256 % 8).toNat, by omega, by omega, by omega⟩
  have HYN := Lib.hid hyn
  clear hyn
  obtain ⟨x, hx, hx13, hxn⟩ : ∃ x : Nat, (m : Int).tmod 13 = (x : Int) ∧ x < 13 ∧ n % 32 % 13 = (x : Int) := ⟨m % 13, by rw [Int.tmod_eq_emod_of_nonneg (by omega)]; omega, by omega, by omega⟩
  have HXN := Lib.hid hxn
  clear hxn hmn
  have hxw : IntKind.i64.wrap (x : Int) = (x : Int) := IntWalk.i64_in _ (by omega)
  have h8 := tab8_at j
  have hji : (j : Int) < 8 := by omega
  go_enter Try.func46, Try.ntmps46
  go_upto_region 1 with fail
  go_cut [3] from 5 to 11 (fun s3 wx => ∃ (gv cp : Nat) (l : List Nat), s3 = .slice (some ⟨gv, 0, none⟩) l.length cp ∧ Hid (l = sb (tab8 j)) ∧ Hid (Rd8 wx wx.heap.size (some ⟨gv, 0, none⟩) l.length (bv l) ∧ w.heap.size < gv) ∧ Hid ((∀ x ∈ l, x < 256) ∧ l.length ≤ 17) ∧ Hid (Blk wx w.heap.size 27 #[.int .i64 0, .int .i64 0, .slice none 0 0, .slice none 0 0, .slice none 0 0] ∧ Below w.heap.size w wx))
  case first =>
    go_wp2_with fail
    go_meet
    have hk0 : Blk (w.alloc (.cells #[.int .i64 0, .int .i64 0, .slice none 0 0, .slice none 0 0, .slice none 0 0] 27)) w.heap.size 27 #[.int .i64 0, .int .i64 0, .slice none 0 0, .slice none 0 0, .slice none 0 0] := Blk.new _ _ _
    refine ⟨_, _, sb (tab8 j), by rw [sb_len], Lib.hid rfl, Lib.hid ⟨Rd8.of_stringAt _ (tab8 j) _ _ (by simp), by omega⟩, Lib.hid ⟨sb_lt _, by rw [sb_len]; exact tab8_size j hj8⟩, Lib.hid ⟨((hk0.alloc _).drew.alloc _), ((((Below.refl _ _).alloc (Nat.le_refl _) _).alloc (by simp) _).drew).alloc (by simp; omega) _⟩⟩
  case rest =>
    obtain ⟨gv, cv, lv, rfl, HLV, HV, HVB, HX⟩ := hcut
    obtain ⟨Av, hAv⟩ : ∃ x : Option Addr, some ⟨gv, 0, none⟩ = x := ⟨_, rfl⟩
    rw [hAv]
    have HAV := Lib.hid hAv
    clear hAv
    rename World => wz
    have HJ8 := Lib.hid h8
    clear h8 hj hji
    have h4 := tab4_at i
    have hii : (i : Int) < 4 := by omega
    go_upto_region 2 with fail
    go_cut [4] from 12 to 30 (fun s4 wx => ∃ (g gk go ck co : Nat), s4 = .pointer (some ⟨g, 0, none⟩) ∧ Hid (CmdS8 wz wx g gk go ck co Av cv lk lv (sb (tab4 i)) (x : Int) (y : Int)) ∧ Hid ((∀ x ∈ lk, x < 256) ∧ lk.length ≤ 9 ∧ (∀ x ∈ sb (tab4 i), x < 256) ∧ (sb (tab4 i)).length ≤ 2))
    case first =>
      refine region_T (n := 20) (S := fun w' => Below wz.heap.size wz w') (by kernel_rfl) ?_
      have hS0 : Below wz.heap.size wz wz.drew := (Below.refl _ _).drew
      generalize wz.drew = w4 at hS0 ⊢
      have hS := Lib.hid hS0
      clear hS0
      refine AnyT.take (i := 0) (v := .int .i64 n) rfl (by kernel_rfl) (by kernel_rfl) (by kernel_rfl) (by kernel_rfl) (fun _ _ _ h => h) (Or.inl ⟨by kernel_rfl, fun w _ => by go_simp⟩) hS.out ?_
      refine AnyT.take (i := 1) (v := .int .i64 (m : Int)) rfl (by kernel_rfl) (by kernel_rfl) (by kernel_rfl) (by kernel_rfl) (fun _ _ _ h => h) (Or.inl ⟨by kernel_rfl, fun w _ => by go_simp⟩) hS.out ?_
      refine AnyT.take (i := 2) (v := .int .i64 (x : Int)) rfl (by kernel_rfl) (by kernel_rfl) (by kernel_rfl) (by kernel_rfl) (fun _ _ _ h => h) (Or.inl ⟨by kernel_rfl, fun w _ => by go_simp⟩) hS.out ?_
      refine AnyT.take (i := 3) (v := .int .i64 (x : Int)) rfl (by kernel_rfl) (by kernel_rfl) (by kernel_rfl) (by kernel_rfl) (fun _ _ _ h => h) (Or.inl ⟨by kernel_rfl, fun w _ => by go_simp⟩) hS.out ?_
      refine AnyT.take (i := 4) (v := .int .i64 n) rfl (by kernel_rfl) (by kernel_rfl) (by kernel_rfl) (by kernel_rfl) (fun _ _ _ h => h) (Or.inl ⟨by kernel_rfl, fun w _ => by go_simp⟩) hS.out ?_
      refine AnyT.take (i := 5) (v := .int .i64 (n / 256)) rfl (by kernel_rfl) (by kernel_rfl) (by kernel_rfl) (by kernel_rfl) (fun _ _ _ h => h) (Or.inl ⟨by kernel_rfl, fun w _ => by go_simp⟩) hS.out ?_
      refine AnyT.take (i := 6) (v := .int .i64 (y : Int)) rfl (by kernel_rfl) (by kernel_rfl) (by kernel_rfl) (by kernel_rfl) (fun _ _ _ h => h) (Or.inl ⟨by kernel_rfl, fun w _ => by go_simp⟩) hS.out ?_
      refine AnyT.take (i := 7) (v := .int .i64 n) rfl (by kernel_rfl) (by kernel_rfl) (by kernel_rfl) (by kernel_rfl) (fun _ _ _ h => h) (Or.inl ⟨by kernel_rfl, fun w _ => by go_simp⟩) hS.out ?_
      refine AnyT.take (i := 8) (v := .int .i64 (n / 2048)) rfl (by kernel_rfl) (by kernel_rfl) (by kernel_rfl) (by kernel_rfl) (fun _ _ _ h => h) (Or.inl ⟨by kernel_rfl, fun w _ => by go_simp⟩) hS.out ?_
      refine AnyT.take (i := 10) (v := .slice Av lv.length cv) rfl (by kernel_rfl) (by kernel_rfl) (by kernel_rfl) (by kernel_rfl) (fun _ _ _ h => h) (Or.inl ⟨by kernel_rfl, fun w _ => by go_simp⟩) hS.out ?_
      refine AnyT.take (i := 12) (v := .int .i64 n) rfl (by kernel_rfl) (by kernel_rfl) (by kernel_rfl) (by kernel_rfl) (fun _ _ _ h => h) (Or.inl ⟨by kernel_rfl, fun w _ => by go_simp⟩) hS.out ?_
      refine AnyT.take (i := 13) (v := .int .i64 (n / 32768)) rfl (by kernel_rfl) (by kernel_rfl) (by kernel_rfl) (by kernel_rfl) (fun _ _ _ h => h) (Or.inl ⟨by kernel_rfl, fun w _ => by go_simp⟩) hS.out ?_
      refine AnyT.take (i := 14) (v := .int .i64 (i : Int)) rfl (by kernel_rfl) (by kernel_rfl) (by kernel_rfl) (by kernel_rfl) (fun _ _ _ h => h) (Or.inl ⟨by kernel_rfl, fun w _ => by go_simp⟩) hS.out ?_
      refine AnyT.ready (rs := [9, 11, 19]) (by kernel_rfl) (by simp) ?_
      refine AllT.cons rfl (fun K hK => ?_) (AllT.cons rfl (fun K hK => ?_) (AllT.cons rfl (fun K hK => ?_) AllT.nil))
      · go_simp
        have hSz := hS.out.size
        refine (HKD.out _).mono ?_
        rintro e w9 ⟨gk, ck, rfl, hrk, hlk, hlk9, hgk1, hgk2, hb9⟩
        have hS := Lib.hid (hS.out.trans (hb9.mono hS.out.size))
        have hzk : wz.heap.size ≤ gk := by omega
        go_simp
        refine hK.out _ _ (Or.inr hS.out) (fun _ => ?_)
        clear hK K
        refine AnyT.ready (rs := [11, 19]) (by kernel_rfl) (by simp) ?_
        refine AllT.cons rfl (fun K hK => ?_) (AllT.cons rfl (fun K hK => ?_) AllT.nil)
        · go_simp
          obtain ⟨gB, hgB⟩ : ∃ g, w9.heap.size = g := ⟨_, rfl⟩
          rw [hgB]
          have hbB : Below w9.heap.size w9 (w9.alloc (.cells #[.string ⟨#[]⟩, .string ⟨#[97]⟩, .string ⟨#[98]⟩, .string ⟨#[97, 98]⟩] 9)) := (Below.refl _ _).alloc (Nat.le_refl _) _
          have hS := Lib.hid (hS.out.trans (hbB.mono hS.out.size))
          have hrk := (hrk.below hbB).fit
          have hgk2 := Nat.lt_of_lt_of_le hgk2 hbB.size
          have hkB : Blk (w9.alloc (.cells #[.string ⟨#[]⟩, .string ⟨#[97]⟩, .string ⟨#[98]⟩, .string ⟨#[97, 98]⟩] 9)) gB 9 #[.string ⟨#[]⟩, .string ⟨#[97]⟩, .string ⟨#[98]⟩, .string ⟨#[97, 98]⟩] := by rw [← hgB]; exact Blk.new _ _ _
          obtain ⟨wB, hwB⟩ : ∃ x, (w9.alloc (.cells #[.string ⟨#[]⟩, .string ⟨#[97]⟩, .string ⟨#[98]⟩, .string ⟨#[97, 98]⟩] 9)) = x := ⟨_, rfl⟩
          rw [hwB] at hS hkB hrk hgk2 ⊢
          clear hwB hbB hgB
          go_simp
          refine hK.out _ _ (Or.inr hS.out) (fun _ => ?_)
          clear hK K
          refine AnyT.take (i := 15) (v := .pointer (some ⟨gB, i, none⟩)) rfl (by kernel_rfl) (by kernel_rfl) (by kernel_rfl) (by kernel_rfl) (fun _ _ _ h => h) (Or.inl ⟨by kernel_rfl, fun w _ => by go_simp⟩) hS.out ?_
          refine AnyT.ready (rs := [16, 19]) (by kernel_rfl) (by simp) ?_
          refine AllT.cons rfl (fun K hK => ?_) (AllT.cons rfl (fun K hK => ?_) AllT.nil)
          · have hcB : wB.cell? ⟨gB, i, none⟩ = some (.string (tab4 i)) := by rw [hkB.cell]; have hl : i < (#[Value.string ⟨#[]⟩, .string ⟨#[97]⟩, .string ⟨#[98]⟩, .string ⟨#[97, 98]⟩] : Array Value).size := hi4; rw [Array.getElem?_eq_getElem hl]; congr 1; exact tab4_at i hi4
            go_simp
            refine hK.out _ _ (Or.inr hS.out) (fun _ => ?_)
            clear hK K
            refine AnyT.ready (rs := [17, 19]) (by kernel_rfl) (by simp) ?_
            refine AllT.cons rfl (fun K hK => ?_) (AllT.cons rfl (fun K hK => ?_) AllT.nil)
            · go_simp
              obtain ⟨go, hgo⟩ : ∃ g, wB.heap.size = g := ⟨_, rfl⟩
              rw [hgo]
              have hzo : wz.heap.size ≤ go := by have := hS.out.size; omega
              have hb7 : Below wB.heap.size wB ((wB.alloc (.cells (bytesRow (tab4 i) (grownCap wB (tab4 i).size 0 5)) 5 ((bytesRow (tab4 i) (grownCap wB (tab4 i).size 0 5)).size, (bytesRow (tab4 i) (grownCap wB (tab4 i).size 0 5)).size + 1))).drew) := ((Below.refl _ _).alloc (Nat.le_refl _) _).drew
              have hS := Lib.hid (hS.out.trans (hb7.mono hS.out.size))
              have hrk := (hrk.below hb7).fit
              have hgk2 := Nat.lt_of_lt_of_le hgk2 hb7.size
              have hkB := hkB.below hb7
              have hro : Rd8 ((wB.alloc (.cells (bytesRow (tab4 i) (grownCap wB (tab4 i).size 0 5)) 5 ((bytesRow (tab4 i) (grownCap wB (tab4 i).size 0 5)).size, (bytesRow (tab4 i) (grownCap wB (tab4 i).size 0 5)).size + 1))).drew) ((wB.alloc (.cells (bytesRow (tab4 i) (grownCap wB (tab4 i).size 0 5)) 5 ((bytesRow (tab4 i) (grownCap wB (tab4 i).size 0 5)).size, (bytesRow (tab4 i) (grownCap wB (tab4 i).size 0 5)).size + 1))).drew).heap.size (some ⟨go, 0, none⟩) (sb (tab4 i)).length (bv (sb (tab4 i))) := Rd8.of_stringAt _ _ _ _ hgo
              have hgo2 : go < ((wB.alloc (.cells (bytesRow (tab4 i) (grownCap wB (tab4 i).size 0 5)) 5 ((bytesRow (tab4 i) (grownCap wB (tab4 i).size 0 5)).size, (bytesRow (tab4 i) (grownCap wB (tab4 i).size 0 5)).size + 1))).drew).heap.size := by rw [← hgo]; simp
              obtain ⟨co, hco⟩ : ∃ x, grownCap wB (tab4 i).size 0 5 = x := ⟨_, rfl⟩
              rw [hco] at hS hro hgo2 hrk hgk2 hkB ⊢
              obtain ⟨wD, hwD⟩ : ∃ x, (wB.alloc (.cells (bytesRow (tab4 i) co) 5 ((bytesRow (tab4 i) co).size, (bytesRow (tab4 i) co).size + 1))).drew = x := ⟨_, rfl⟩
              rw [hwD] at hS hro hgo2 hrk hgk2 hkB ⊢
              clear hwD hco hb7 hgo
              go_simp
              refine hK.out _ _ (Or.inr hS.out) (fun _ => ?_)
              clear hK K
              refine AnyT.take (i := 18) (v := .agg #[.int .i64 (x : Int), .int .i64 (y : Int), .slice (some ⟨gk, 0, none⟩) lk.length ck, .slice Av lv.length cv, .slice (some ⟨go, 0, none⟩) (sb (tab4 i)).length co]) rfl (by kernel_rfl) (by kernel_rfl) (by kernel_rfl) (by kernel_rfl) (fun _ _ _ h => h) (Or.inl ⟨by kernel_rfl, fun w _ => by go_simp; simp [sb_len]⟩) hS.out ?_
              refine AnyT.ready (rs := [19]) (by kernel_rfl) (by simp) ?_
              refine AllT.cons rfl (fun K hK => ?_) AllT.nil
              go_simp
              obtain ⟨g4, hg4⟩ : ∃ g, wD.heap.size = g := ⟨_, rfl⟩
              rw [hg4]
              have hnk : g4 ≠ gk := by omega
              have hno : g4 ≠ go := by omega
              have hz4 : wz.heap.size ≤ g4 := by have := hS.out.size; omega
              have hb4 : Below wD.heap.size wD (wD.alloc (.cells #[.int .i64 0, .int .i64 0, .slice none 0 0, .slice none 0 0, .slice none 0 0] 27)) := (Below.refl _ _).alloc (Nat.le_refl _) _
              have hS := Lib.hid (hS.out.trans (hb4.mono hS.out.size))
              have hrk := (hrk.below hb4).fit
              have hgk2 := Nat.lt_of_lt_of_le hgk2 hb4.size
              have hro := (hro.below hb4).fit
              have hgo2 := Nat.lt_of_lt_of_le hgo2 hb4.size
              have hk4 : Blk (wD.alloc (.cells #[.int .i64 0, .int .i64 0, .slice none 0 0, .slice none 0 0, .slice none 0 0] 27)) g4 27 #[.int .i64 0, .int .i64 0, .slice none 0 0, .slice none 0 0, .slice none 0 0] := by rw [← hg4]; exact Blk.new _ _ _
              have hg42 := hk4.lt
              obtain ⟨wC, hwC⟩ : ∃ x, (wD.alloc (.cells #[.int .i64 0, .int .i64 0, .slice none 0 0, .slice none 0 0, .slice none 0 0] 27)) = x := ⟨_, rfl⟩
              rw [hwC] at hS hk4 hg42 hrk hgk2 hro hgo2 ⊢
              clear hwC hb4 hg4
              go_simp
              refine hK.out _ _ (Or.inr hS.out) (fun _ => ?_)
              clear hK K
              refine AnyT.ready (rs := [20]) (by kernel_rfl) (by simp) ?_
              refine AllT.cons rfl (fun K hK => ?_) AllT.nil
              obtain ⟨c0, c1, c2, c3, c4⟩ := five hk4
              have f0 := hk4.frozen 0
              have f1 := hk4.frozen 1
              have f2 := hk4.frozen 2
              have f3 := hk4.frozen 3
              have f4 := hk4.frozen 4
              go_simp
              refine hK.out _ _ (Or.inl rfl) (fun _ => ?_)
              clear hK K
              refine AnyT.done (by kernel_rfl) ?_ _
              go_wp2_with fail
              go_meet
              have hk5 := ((((hk4.set_ 0 (.int .i64 (x : Int))).set_ 1 (.int .i64 (y : Int))).set_ 2 (.slice (some ⟨gk, 0, none⟩) lk.length ck)).set_ 3 (.slice Av lv.length cv)).set_ 4 (.slice (some ⟨go, 0, none⟩) (sb (tab4 i)).length co)
              have hs : (sb (tab4 i)).length = (tab4 i).size := sb_len _
              rw [hs] at hro hk5
              refine ⟨g4, gk, go, ck, co, rfl, Lib.hid ⟨by rw [hs]; exact hk5, hz4, hzk, hzo, hnk, hno, ((((hrk.set_ne hnk).set_ne hnk).set_ne hnk).set_ne hnk).set_ne hnk, by rw [hs]; exact ((((hro.set_ne hno).set_ne hno).set_ne hno).set_ne hno).set_ne hno, ((((hS.out.setCell (p := ⟨g4, 0, none⟩) hz4 _).setCell (p := ⟨g4, 1, none⟩) hz4 _).setCell (p := ⟨g4, 2, none⟩) hz4 _).setCell (p := ⟨g4, 3, none⟩) hz4 _).setCell (p := ⟨g4, 4, none⟩) hz4 _⟩, Lib.hid ⟨hlk, hlk9, sb_lt _, by rw [sb_len]; exact tab4_size i hi4⟩⟩
            · go_simp
              obtain ⟨g4, hg4⟩ : ∃ g, wB.heap.size = g := ⟨_, rfl⟩
              rw [hg4]
              have hnk : g4 ≠ gk := by omega
              have hz4 : wz.heap.size ≤ g4 := by have := hS.out.size; omega
              have hb4 : Below wB.heap.size wB (wB.alloc (.cells #[.int .i64 0, .int .i64 0, .slice none 0 0, .slice none 0 0, .slice none 0 0] 27)) := (Below.refl _ _).alloc (Nat.le_refl _) _
              have hS := Lib.hid (hS.out.trans (hb4.mono hS.out.size))
              have hrk := (hrk.below hb4).fit
              have hgk2 := Nat.lt_of_lt_of_le hgk2 hb4.size
              have hkB := hkB.below hb4
              have hk4 : Blk (wB.alloc (.cells #[.int .i64 0, .int .i64 0, .slice none 0 0, .slice none 0 0, .slice none 0 0] 27)) g4 27 #[.int .i64 0, .int .i64 0, .slice none 0 0, .slice none 0 0, .slice none 0 0] := by rw [← hg4]; exact Blk.new _ _ _
              have hg42 := hk4.lt
              obtain ⟨wC, hwC⟩ : ∃ x, (wB.alloc (.cells #[.int .i64 0, .int .i64 0, .slice none 0 0, .slice none 0 0, .slice none 0 0] 27)) = x := ⟨_, rfl⟩
              rw [hwC] at hS hk4 hg42 hrk hgk2 hkB ⊢
              clear hwC hb4 hg4
              go_simp
              refine hK.out _ _ (Or.inr hS.out) (fun _ => ?_)
              clear hK K
              refine AnyT.ready (rs := [17]) (by kernel_rfl) (by simp) ?_
              refine AllT.cons rfl (fun K hK => ?_) AllT.nil
              go_simp
              obtain ⟨go, hgo⟩ : ∃ g, wC.heap.size = g := ⟨_, rfl⟩
              rw [hgo]
              have hzo : wz.heap.size ≤ go := by have := hS.out.size; omega
              have hno : g4 ≠ go := by omega
              have hb7 : Below wC.heap.size wC ((wC.alloc (.cells (bytesRow (tab4 i) (grownCap wC (tab4 i).size 0 5)) 5 ((bytesRow (tab4 i) (grownCap wC (tab4 i).size 0 5)).size, (bytesRow (tab4 i) (grownCap wC (tab4 i).size 0 5)).size + 1))).drew) := ((Below.refl _ _).alloc (Nat.le_refl _) _).drew
              have hS := Lib.hid (hS.out.trans (hb7.mono hS.out.size))
              have hrk := (hrk.below hb7).fit
              have hgk2 := Nat.lt_of_lt_of_le hgk2 hb7.size
              have hkB := hkB.below hb7
              have hk4 := hk4.below hb7
              have hg42 := Nat.lt_of_lt_of_le hg42 hb7.size
              have hro : Rd8 ((wC.alloc (.cells (bytesRow (tab4 i) (grownCap wC (tab4 i).size 0 5)) 5 ((bytesRow (tab4 i) (grownCap wC (tab4 i).size 0 5)).size, (bytesRow (tab4 i) (grownCap wC (tab4 i).size 0 5)).size + 1))).drew) ((wC.alloc (.cells (bytesRow (tab4 i) (grownCap wC (tab4 i).size 0 5)) 5 ((bytesRow (tab4 i) (grownCap wC (tab4 i).size 0 5)).size, (bytesRow (tab4 i) (grownCap wC (tab4 i).size 0 5)).size + 1))).drew).heap.size (some ⟨go, 0, none⟩) (sb (tab4 i)).length (bv (sb (tab4 i))) := Rd8.of_stringAt _ _ _ _ hgo
              have hgo2 : go < ((wC.alloc (.cells (bytesRow (tab4 i) (grownCap wC (tab4 i).size 0 5)) 5 ((bytesRow (tab4 i) (grownCap wC (tab4 i).size 0 5)).size, (bytesRow (tab4 i) (grownCap wC (tab4 i).size 0 5)).size + 1))).drew).heap.size := by rw [← hgo]; simp
              obtain ⟨co, hco⟩ : ∃ x, grownCap wC (tab4 i).size 0 5 = x := ⟨_, rfl⟩
              rw [hco] at hS hro hgo2 hrk hgk2 hkB hk4 hg42 ⊢
              obtain ⟨wD, hwD⟩ : ∃ x, (wC.alloc (.cells (bytesRow (tab4 i) co) 5 ((bytesRow (tab4 i) co).size, (bytesRow (tab4 i) co).size + 1))).drew = x := ⟨_, rfl⟩
              rw [hwD] at hS hro hgo2 hrk hgk2 hkB hk4 hg42 ⊢
              clear hwD hco hb7 hgo
              go_simp
              refine hK.out _ _ (Or.inr hS.out) (fun _ => ?_)
              clear hK K
              refine AnyT.take (i := 18) (v := .agg #[.int .i64 (x : Int), .int .i64 (y : Int), .slice (some ⟨gk, 0, none⟩) lk.length ck, .slice Av lv.length cv, .slice (some ⟨go, 0, none⟩) (sb (tab4 i)).length co]) rfl (by kernel_rfl) (by kernel_rfl) (by kernel_rfl) (by kernel_rfl) (fun _ _ _ h => h) (Or.inl ⟨by kernel_rfl, fun w _ => by go_simp; simp [sb_len]⟩) hS.out ?_
              refine AnyT.ready (rs := [20]) (by kernel_rfl) (by simp) ?_
              refine AllT.cons rfl (fun K hK => ?_) AllT.nil
              obtain ⟨c0, c1, c2, c3, c4⟩ := five hk4
              have f0 := hk4.frozen 0
              have f1 := hk4.frozen 1
              have f2 := hk4.frozen 2
              have f3 := hk4.frozen 3
              have f4 := hk4.frozen 4
              go_simp
              refine hK.out _ _ (Or.inl rfl) (fun _ => ?_)
              clear hK K
              refine AnyT.done (by kernel_rfl) ?_ _
              go_wp2_with fail
              go_meet
              have hk5 := ((((hk4.set_ 0 (.int .i64 (x : Int))).set_ 1 (.int .i64 (y : Int))).set_ 2 (.slice (some ⟨gk, 0, none⟩) lk.length ck)).set_ 3 (.slice Av lv.length cv)).set_ 4 (.slice (some ⟨go, 0, none⟩) (sb (tab4 i)).length co)
              have hs : (sb (tab4 i)).length = (tab4 i).size := sb_len _
              rw [hs] at hro hk5
              refine ⟨g4, gk, go, ck, co, rfl, Lib.hid ⟨by rw [hs]; exact hk5, hz4, hzk, hzo, hnk, hno, ((((hrk.set_ne hnk).set_ne hnk).set_ne hnk).set_ne hnk).set_ne hnk, by rw [hs]; exact ((((hro.set_ne hno).set_ne hno).set_ne hno).set_ne hno).set_ne hno, ((((hS.out.setCell (p := ⟨g4, 0, none⟩) hz4 _).setCell (p := ⟨g4, 1, none⟩) hz4 _).setCell (p := ⟨g4, 2, none⟩) hz4 _).setCell (p := ⟨g4, 3, none⟩) hz4 _).setCell (p := ⟨g4, 4, none⟩) hz4 _⟩, Lib.hid ⟨hlk, hlk9, sb_lt _, by rw [sb_len]; exact tab4_size i hi4⟩⟩
          · go_simp
            obtain ⟨g4, hg4⟩ : ∃ g, wB.heap.size = g := ⟨_, rfl⟩
            rw [hg4]
            have hnk : g4 ≠ gk := by omega
            have hz4 : wz.heap.size ≤ g4 := by have := hS.out.size; omega
            have hb4 : Below wB.heap.size wB (wB.alloc (.cells #[.int .i64 0, .int .i64 0, .slice none 0 0, .slice none 0 0, .slice none 0 0] 27)) := (Below.refl _ _).alloc (Nat.le_refl _) _
            have hS := Lib.hid (hS.out.trans (hb4.mono hS.out.size))
            have hrk := (hrk.below hb4).fit
            have hgk2 := Nat.lt_of_lt_of_le hgk2 hb4.size
            have hkB := hkB.below hb4
            have hk4 : Blk (wB.alloc (.cells #[.int .i64 0, .int .i64 0, .slice none 0 0, .slice none 0 0, .slice none 0 0] 27)) g4 27 #[.int .i64 0, .int .i64 0, .slice none 0 0, .slice none 0 0, .slice none 0 0] := by rw [← hg4]; exact Blk.new _ _ _
            have hg42 := hk4.lt
            obtain ⟨wC, hwC⟩ : ∃ x, (wB.alloc (.cells #[.int .i64 0, .int .i64 0, .slice none 0 0, .slice none 0 0, .slice none 0 0] 27)) = x := ⟨_, rfl⟩
            rw [hwC] at hS hk4 hg42 hrk hgk2 hkB ⊢
            clear hwC hb4 hg4
            go_simp
            refine hK.out _ _ (Or.inr hS.out) (fun _ => ?_)
            clear hK K
            refine AnyT.ready (rs := [16]) (by kernel_rfl) (by simp) ?_
            refine AllT.cons rfl (fun K hK => ?_) AllT.nil
            have hcB : wC.cell? ⟨gB, i, none⟩ = some (.string (tab4 i)) := by rw [hkB.cell]; have hl : i < (#[Value.string ⟨#[]⟩, .string ⟨#[97]⟩, .string ⟨#[98]⟩, .string ⟨#[97, 98]⟩] : Array Value).size := hi4; rw [Array.getElem?_eq_getElem hl]; congr 1; exact tab4_at i hi4
            go_simp
            refine hK.out _ _ (Or.inr hS.out) (fun _ => ?_)
            clear hK K
            refine AnyT.ready (rs := [17]) (by kernel_rfl) (by simp) ?_
            refine AllT.cons rfl (fun K hK => ?_) AllT.nil
            go_simp
            obtain ⟨go, hgo⟩ : ∃ g, wC.heap.size = g := ⟨_, rfl⟩
            rw [hgo]
            have hzo : wz.heap.size ≤ go := by have := hS.out.size; omega
            have hno : g4 ≠ go := by omega
            have hb7 : Below wC.heap.size wC ((wC.alloc (.cells (bytesRow (tab4 i) (grownCap wC (tab4 i).size 0 5)) 5 ((bytesRow (tab4 i) (grownCap wC (tab4 i).size 0 5)).size, (bytesRow (tab4 i) (grownCap wC (tab4 i).size 0 5)).size + 1))).drew) := ((Below.refl _ _).alloc (Nat.le_refl _) _).drew
            have hS := Lib.hid (hS.out.trans (hb7.mono hS.out.size))
            have hrk := (hrk.below hb7).fit
            have hgk2 := Nat.lt_of_lt_of_le hgk2 hb7.size
            have hkB := hkB.below hb7
            have hk4 := hk4.below hb7
            have hg42 := Nat.lt_of_lt_of_le hg42 hb7.size
            have hro : Rd8 ((wC.alloc (.cells (bytesRow (tab4 i) (grownCap wC (tab4 i).size 0 5)) 5 ((bytesRow (tab4 i) (grownCap wC (tab4 i).size 0 5)).size, (bytesRow (tab4 i) (grownCap wC (tab4 i).size 0 5)).size + 1))).drew) ((wC.alloc (.cells (bytesRow (tab4 i) (grownCap wC (tab4 i).size 0 5)) 5 ((bytesRow (tab4 i) (grownCap wC (tab4 i).size 0 5)).size, (bytesRow (tab4 i) (grownCap wC (tab4 i).size 0 5)).size + 1))).drew).heap.size (some ⟨go, 0, none⟩) (sb (tab4 i)).length (bv (sb (tab4 i))) := Rd8.of_stringAt _ _ _ _ hgo
            have hgo2 : go < ((wC.alloc (.cells (bytesRow (tab4 i) (grownCap wC (tab4 i).size 0 5)) 5 ((bytesRow (tab4 i) (grownCap wC (tab4 i).size 0 5)).size, (bytesRow (tab4 i) (grownCap wC (tab4 i).size 0 5)).size + 1))).drew).heap.size := by rw [← hgo]; simp
            obtain ⟨co, hco⟩ : ∃ x, grownCap wC (tab4 i).size 0 5 = x := ⟨_, rfl⟩
            rw [hco] at hS hro hgo2 hrk hgk2 hkB hk4 hg42 ⊢
            obtain ⟨wD, hwD⟩ : ∃ x, (wC.alloc (.cells (bytesRow (tab4 i) co) 5 ((bytesRow (tab4 i) co).size, (bytesRow (tab4 i) co).size + 1))).drew = x := ⟨_, rfl⟩
            rw [hwD] at hS hro hgo2 hrk hgk2 hkB hk4 hg42 ⊢
            clear hwD hco hb7 hgo
            go_simp
            refine hK.out _ _ (Or.inr hS.out) (fun _ => ?_)
            clear hK K
            refine AnyT.take (i := 18) (v := .agg #[.int .i64 (x : Int), .int .i64 (y : Int), .slice (some ⟨gk, 0, none⟩) lk.length ck, .slice Av lv.length cv, .slice (some ⟨go, 0, none⟩) (sb (tab4 i)).length co]) rfl (by kernel_rfl) (by kernel_rfl) (by kernel_rfl) (by kernel_rfl) (fun _ _ _ h => h) (Or.inl ⟨by kernel_rfl, fun w _ => by go_simp; simp [sb_len]⟩) hS.out ?_
            refine AnyT.ready (rs := [20]) (by kernel_rfl) (by simp) ?_
            refine AllT.cons rfl (fun K hK => ?_) AllT.nil
            obtain ⟨c0, c1, c2, c3, c4⟩ := five hk4
            have f0 := hk4.frozen 0
            have f1 := hk4.frozen 1
            have f2 := hk4.frozen 2
            have f3 := hk4.frozen 3
            have f4 := hk4.frozen 4
            go_simp
            refine hK.out _ _ (Or.inl rfl) (fun _ => ?_)
            clear hK K
            refine AnyT.done (by kernel_rfl) ?_ _
            go_wp2_with fail
            go_meet
            have hk5 := ((((hk4.set_ 0 (.int .i64 (x : Int))).set_ 1 (.int .i64 (y : Int))).set_ 2 (.slice (some ⟨gk, 0, none⟩) lk.length ck)).set_ 3 (.slice Av lv.length cv)).set_ 4 (.slice (some ⟨go, 0, none⟩) (sb (tab4 i)).length co)
            have hs : (sb (tab4 i)).length = (tab4 i).size := sb_len _
            rw [hs] at hro hk5
            refine ⟨g4, gk, go, ck, co, rfl, Lib.hid ⟨by rw [hs]; exact hk5, hz4, hzk, hzo, hnk, hno, ((((hrk.set_ne hnk).set_ne hnk).set_ne hnk).set_ne hnk).set_ne hnk, by rw [hs]; exact ((((hro.set_ne hno).set_ne hno).set_ne hno).set_ne hno).set_ne hno, ((((hS.out.setCell (p := ⟨g4, 0, none⟩) hz4 _).setCell (p := ⟨g4, 1, none⟩) hz4 _).setCell (p := ⟨g4, 2, none⟩) hz4 _).setCell (p := ⟨g4, 3, none⟩) hz4 _).setCell (p := ⟨g4, 4, none⟩) hz4 _⟩, Lib.hid ⟨hlk, hlk9, sb_lt _, by rw [sb_len]; exact tab4_size i hi4⟩⟩
        · go_simp
          obtain ⟨g4, hg4⟩ : ∃ g, w9.heap.size = g := ⟨_, rfl⟩
          rw [hg4]
          have hnk : g4 ≠ gk := by omega
          have hz4 : wz.heap.size ≤ g4 := by have := hS.out.size; omega
          have hb4 : Below w9.heap.size w9 (w9.alloc (.cells #[.int .i64 0, .int .i64 0, .slice none 0 0, .slice none 0 0, .slice none 0 0] 27)) := (Below.refl _ _).alloc (Nat.le_refl _) _
          have hS := Lib.hid (hS.out.trans (hb4.mono hS.out.size))
          have hrk := (hrk.below hb4).fit
          have hgk2 := Nat.lt_of_lt_of_le hgk2 hb4.size
          have hk4 : Blk (w9.alloc (.cells #[.int .i64 0, .int .i64 0, .slice none 0 0, .slice none 0 0, .slice none 0 0] 27)) g4 27 #[.int .i64 0, .int .i64 0, .slice none 0 0, .slice none 0 0, .slice none 0 0] := by rw [← hg4]; exact Blk.new _ _ _
          have hg42 := hk4.lt
          obtain ⟨wC, hwC⟩ : ∃ x, (w9.alloc (.cells #[.int .i64 0, .int .i64 0, .slice none 0 0, .slice none 0 0, .slice none 0 0] 27)) = x := ⟨_, rfl⟩
          rw [hwC] at hS hk4 hg42 hrk hgk2 ⊢
          clear hwC hb4 hg4
          go_simp
          refine hK.out _ _ (Or.inr hS.out) (fun _ => ?_)
          clear hK K
          refine AnyT.ready (rs := [11]) (by kernel_rfl) (by simp) ?_
          refine AllT.cons rfl (fun K hK => ?_) AllT.nil
          go_simp
          obtain ⟨gB, hgB⟩ : ∃ g, wC.heap.size = g := ⟨_, rfl⟩
          rw [hgB]
          have hbB : Below wC.heap.size wC (wC.alloc (.cells #[.string ⟨#[]⟩, .string ⟨#[97]⟩, .string ⟨#[98]⟩, .string ⟨#[97, 98]⟩] 9)) := (Below.refl _ _).alloc (Nat.le_refl _) _
          have hS := Lib.hid (hS.out.trans (hbB.mono hS.out.size))
          have hrk := (hrk.below hbB).fit
          have hgk2 := Nat.lt_of_lt_of_le hgk2 hbB.size
          have hk4 := hk4.below hbB
          have hg42 := Nat.lt_of_lt_of_le hg42 hbB.size
          have hkB : Blk (wC.alloc (.cells #[.string ⟨#[]⟩, .string ⟨#[97]⟩, .string ⟨#[98]⟩, .string ⟨#[97, 98]⟩] 9)) gB 9 #[.string ⟨#[]⟩, .string ⟨#[97]⟩, .string ⟨#[98]⟩, .string ⟨#[97, 98]⟩] := by rw [← hgB]; exact Blk.new _ _ _
          obtain ⟨wB, hwB⟩ : ∃ x, (wC.alloc (.cells #[.string ⟨#[]⟩, .string ⟨#[97]⟩, .string ⟨#[98]⟩, .string ⟨#[97, 98]⟩] 9)) = x := ⟨_, rfl⟩
          rw [hwB] at hS hkB hrk hgk2 hk4 hg42 ⊢
          clear hwB hbB hgB
          go_simp
          refine hK.out _ _ (Or.inr hS.out) (fun _ => ?_)
          clear hK K
          refine AnyT.take (i := 15) (v := .pointer (some ⟨gB, i, none⟩)) rfl (by kernel_rfl) (by kernel_rfl) (by kernel_rfl) (by kernel_rfl) (fun _ _ _ h => h) (Or.inl ⟨by kernel_rfl, fun w _ => by go_simp⟩) hS.out ?_
          refine AnyT.ready (rs := [16]) (by kernel_rfl) (by simp) ?_
          refine AllT.cons rfl (fun K hK => ?_) AllT.nil
          have hcB : wB.cell? ⟨gB, i, none⟩ = some (.string (tab4 i)) := by rw [hkB.cell]; have hl : i < (#[Value.string ⟨#[]⟩, .string ⟨#[97]⟩, .string ⟨#[98]⟩, .string ⟨#[97, 98]⟩] : Array Value).size := hi4; rw [Array.getElem?_eq_getElem hl]; congr 1; exact tab4_at i hi4
          go_simp
          refine hK.out _ _ (Or.inr hS.out) (fun _ => ?_)
          clear hK K
          refine AnyT.ready (rs := [17]) (by kernel_rfl) (by simp) ?_
          refine AllT.cons rfl (fun K hK => ?_) AllT.nil
          go_simp
          obtain ⟨go, hgo⟩ : ∃ g, wB.heap.size = g := ⟨_, rfl⟩
          rw [hgo]
          have hzo : wz.heap.size ≤ go := by have := hS.out.size; omega
          have hno : g4 ≠ go := by omega
          have hb7 : Below wB.heap.size wB ((wB.alloc (.cells (bytesRow (tab4 i) (grownCap wB (tab4 i).size 0 5)) 5 ((bytesRow (tab4 i) (grownCap wB (tab4 i).size 0 5)).size, (bytesRow (tab4 i) (grownCap wB (tab4 i).size 0 5)).size + 1))).drew) := ((Below.refl _ _).alloc (Nat.le_refl _) _).drew
          have hS := Lib.hid (hS.out.trans (hb7.mono hS.out.size))
          have hrk := (hrk.below hb7).fit
          have hgk2 := Nat.lt_of_lt_of_le hgk2 hb7.size
          have hk4 := hk4.below hb7
          have hg42 := Nat.lt_of_lt_of_le hg42 hb7.size
          have hkB := hkB.below hb7
          have hro : Rd8 ((wB.alloc (.cells (bytesRow (tab4 i) (grownCap wB (tab4 i).size 0 5)) 5 ((bytesRow (tab4 i) (grownCap wB (tab4 i).size 0 5)).size, (bytesRow (tab4 i) (grownCap wB (tab4 i).size 0 5)).size + 1))).drew) ((wB.alloc (.cells (bytesRow (tab4 i) (grownCap wB (tab4 i).size 0 5)) 5 ((bytesRow (tab4 i) (grownCap wB (tab4 i).size 0 5)).size, (bytesRow (tab4 i) (grownCap wB (tab4 i).size 0 5)).size + 1))).drew).heap.size (some ⟨go, 0, none⟩) (sb (tab4 i)).length (bv (sb (tab4 i))) := Rd8.of_stringAt _ _ _ _ hgo
          have hgo2 : go < ((wB.alloc (.cells (bytesRow (tab4 i) (grownCap wB (tab4 i).size 0 5)) 5 ((bytesRow (tab4 i) (grownCap wB (tab4 i).size 0 5)).size, (bytesRow (tab4 i) (grownCap wB (tab4 i).size 0 5)).size + 1))).drew).heap.size := by rw [← hgo]; simp
          obtain ⟨co, hco⟩ : ∃ x, grownCap wB (tab4 i).size 0 5 = x := ⟨_, rfl⟩
          rw [hco] at hS hro hgo2 hrk hgk2 hk4 hg42 hkB ⊢
          obtain ⟨wD, hwD⟩ : ∃ x, (wB.alloc (.cells (bytesRow (tab4 i) co) 5 ((bytesRow (tab4 i) co).size, (bytesRow (tab4 i) co).size + 1))).drew = x := ⟨_, rfl⟩
          rw [hwD] at hS hro hgo2 hrk hgk2 hk4 hg42 hkB ⊢
          clear hwD hco hb7 hgo
          go_simp
          refine hK.out _ _ (Or.inr hS.out) (fun _ => ?_)
          clear hK K
          refine AnyT.take (i := 18) (v := .agg #[.int .i64 (x : Int), .int .i64 (y : Int), .slice (some ⟨gk, 0, none⟩) lk.length ck, .slice Av lv.length cv, .slice (some ⟨go, 0, none⟩) (sb (tab4 i)).length co]) rfl (by kernel_rfl) (by kernel_rfl) (by kernel_rfl) (by kernel_rfl) (fun _ _ _ h => h) (Or.inl ⟨by kernel_rfl, fun w _ => by go_simp; simp [sb_len]⟩) hS.out ?_
          refine AnyT.ready (rs := [20]) (by kernel_rfl) (by simp) ?_
          refine AllT.cons rfl (fun K hK => ?_) AllT.nil
          obtain ⟨c0, c1, c2, c3, c4⟩ := five hk4
          have f0 := hk4.frozen 0
          have f1 := hk4.frozen 1
          have f2 := hk4.frozen 2
          have f3 := hk4.frozen 3
          have f4 := hk4.frozen 4
          go_simp
          refine hK.out _ _ (Or.inl rfl) (fun _ => ?_)
          clear hK K
          refine AnyT.done (by kernel_rfl) ?_ _
          go_wp2_with fail
          go_meet
          have hk5 := ((((hk4.set_ 0 (.int .i64 (x : Int))).set_ 1 (.int .i64 (y : Int))).set_ 2 (.slice (some ⟨gk, 0, none⟩) lk.length ck)).set_ 3 (.slice Av lv.length cv)).set_ 4 (.slice (some ⟨go, 0, none⟩) (sb (tab4 i)).length co)
          have hs : (sb (tab4 i)).length = (tab4 i).size := sb_len _
          rw [hs] at hro hk5
          refine ⟨g4, gk, go, ck, co, rfl, Lib.hid ⟨by rw [hs]; exact hk5, hz4, hzk, hzo, hnk, hno, ((((hrk.set_ne hnk).set_ne hnk).set_ne hnk).set_ne hnk).set_ne hnk, by rw [hs]; exact ((((hro.set_ne hno).set_ne hno).set_ne hno).set_ne hno).set_ne hno, ((((hS.out.setCell (p := ⟨g4, 0, none⟩) hz4 _).setCell (p := ⟨g4, 1, none⟩) hz4 _).setCell (p := ⟨g4, 2, none⟩) hz4 _).setCell (p := ⟨g4, 3, none⟩) hz4 _).setCell (p := ⟨g4, 4, none⟩) hz4 _⟩, Lib.hid ⟨hlk, hlk9, sb_lt _, by rw [sb_len]; exact tab4_size i hi4⟩⟩
      · go_simp
        obtain ⟨gB, hgB⟩ : ∃ g, w4.heap.size = g := ⟨_, rfl⟩
        rw [hgB]
        have hbB : Below w4.heap.size w4 (w4.alloc (.cells #[.string ⟨#[]⟩, .string ⟨#[97]⟩, .string ⟨#[98]⟩, .string ⟨#[97, 98]⟩] 9)) := (Below.refl _ _).alloc (Nat.le_refl _) _
        have hS := Lib.hid (hS.out.trans (hbB.mono hS.out.size))
        have hkB : Blk (w4.alloc (.cells #[.string ⟨#[]⟩, .string ⟨#[97]⟩, .string ⟨#[98]⟩, .string ⟨#[97, 98]⟩] 9)) gB 9 #[.string ⟨#[]⟩, .string ⟨#[97]⟩, .string ⟨#[98]⟩, .string ⟨#[97, 98]⟩] := by rw [← hgB]; exact Blk.new _ _ _
        obtain ⟨wB, hwB⟩ : ∃ x, (w4.alloc (.cells #[.string ⟨#[]⟩, .string ⟨#[97]⟩, .string ⟨#[98]⟩, .string ⟨#[97, 98]⟩] 9)) = x := ⟨_, rfl⟩
        rw [hwB] at hS hkB ⊢
        clear hwB hbB hgB
        go_simp
        refine hK.out _ _ (Or.inr hS.out) (fun _ => ?_)
        clear hK K
        refine AnyT.take (i := 15) (v := .pointer (some ⟨gB, i, none⟩)) rfl (by kernel_rfl) (by kernel_rfl) (by kernel_rfl) (by kernel_rfl) (fun _ _ _ h => h) (Or.inl ⟨by kernel_rfl, fun w _ => by go_simp⟩) hS.out ?_
        refine AnyT.ready (rs := [9, 16, 19]) (by kernel_rfl) (by simp) ?_
        refine AllT.cons rfl (fun K hK => ?_) (AllT.cons rfl (fun K hK => ?_) (AllT.cons rfl (fun K hK => ?_) AllT.nil))
        · go_simp
          have hSz := hS.out.size
          refine (HKD.out _).mono ?_
          rintro e w9 ⟨gk, ck, rfl, hrk, hlk, hlk9, hgk1, hgk2, hb9⟩
          have hS := Lib.hid (hS.out.trans (hb9.mono hS.out.size))
          have hkB := hkB.below hb9
          have hzk : wz.heap.size ≤ gk := by omega
          go_simp
          refine hK.out _ _ (Or.inr hS.out) (fun _ => ?_)
          clear hK K
          refine AnyT.ready (rs := [16, 19]) (by kernel_rfl) (by simp) ?_
          refine AllT.cons rfl (fun K hK => ?_) (AllT.cons rfl (fun K hK => ?_) AllT.nil)
          · have hcB : w9.cell? ⟨gB, i, none⟩ = some (.string (tab4 i)) := by rw [hkB.cell]; have hl : i < (#[Value.string ⟨#[]⟩, .string ⟨#[97]⟩, .string ⟨#[98]⟩, .string ⟨#[97, 98]⟩] : Array Value).size := hi4; rw [Array.getElem?_eq_getElem hl]; congr 1; exact tab4_at i hi4
            go_simp
            refine hK.out _ _ (Or.inr hS.out) (fun _ => ?_)
            clear hK K
            refine AnyT.ready (rs := [17, 19]) (by kernel_rfl) (by simp) ?_
            refine AllT.cons rfl (fun K hK => ?_) (AllT.cons rfl (fun K hK => ?_) AllT.nil)
            · go_simp
              obtain ⟨go, hgo⟩ : ∃ g, w9.heap.size = g := ⟨_, rfl⟩
              rw [hgo]
              have hzo : wz.heap.size ≤ go := by have := hS.out.size; omega
              have hb7 : Below w9.heap.size w9 ((w9.alloc (.cells (bytesRow (tab4 i) (grownCap w9 (tab4 i).size 0 5)) 5 ((bytesRow (tab4 i) (grownCap w9 (tab4 i).size 0 5)).size, (bytesRow (tab4 i) (grownCap w9 (tab4 i).size 0 5)).size + 1))).drew) := ((Below.refl _ _).alloc (Nat.le_refl _) _).drew
              have hS := Lib.hid (hS.out.trans (hb7.mono hS.out.size))
              have hkB := hkB.below hb7
              have hrk := (hrk.below hb7).fit
              have hgk2 := Nat.lt_of_lt_of_le hgk2 hb7.size
              have hro : Rd8 ((w9.alloc (.cells (bytesRow (tab4 i) (grownCap w9 (tab4 i).size 0 5)) 5 ((bytesRow (tab4 i) (grownCap w9 (tab4 i).size 0 5)).size, (bytesRow (tab4 i) (grownCap w9 (tab4 i).size 0 5)).size + 1))).drew) ((w9.alloc (.cells (bytesRow (tab4 i) (grownCap w9 (tab4 i).size 0 5)) 5 ((bytesRow (tab4 i) (grownCap w9 (tab4 i).size 0 5)).size, (bytesRow (tab4 i) (grownCap w9 (tab4 i).size 0 5)).size + 1))).drew).heap.size (some ⟨go, 0, none⟩) (sb (tab4 i)).length (bv (sb (tab4 i))) := Rd8.of_stringAt _ _ _ _ hgo
              have hgo2 : go < ((w9.alloc (.cells (bytesRow (tab4 i) (grownCap w9 (tab4 i).size 0 5)) 5 ((bytesRow (tab4 i) (grownCap w9 (tab4 i).size 0 5)).size, (bytesRow (tab4 i) (grownCap w9 (tab4 i).size 0 5)).size + 1))).drew).heap.size := by rw [← hgo]; simp
              obtain ⟨co, hco⟩ : ∃ x, grownCap w9 (tab4 i).size 0 5 = x := ⟨_, rfl⟩
              rw [hco] at hS hro hgo2 hkB hrk hgk2 ⊢
              obtain ⟨wD, hwD⟩ : ∃ x, (w9.alloc (.cells (bytesRow (tab4 i) co) 5 ((bytesRow (tab4 i) co).size, (bytesRow (tab4 i) co).size + 1))).drew = x := ⟨_, rfl⟩
              rw [hwD] at hS hro hgo2 hkB hrk hgk2 ⊢
              clear hwD hco hb7 hgo
              go_simp
              refine hK.out _ _ (Or.inr hS.out) (fun _ => ?_)
              clear hK K
              refine AnyT.take (i := 18) (v := .agg #[.int .i64 (x : Int), .int .i64 (y : Int), .slice (some ⟨gk, 0, none⟩) lk.length ck, .slice Av lv.length cv, .slice (some ⟨go, 0, none⟩) (sb (tab4 i)).length co]) rfl (by kernel_rfl) (by kernel_rfl) (by kernel_rfl) (by kernel_rfl) (fun _ _ _ h => h) (Or.inl ⟨by kernel_rfl, fun w _ => by go_simp; simp [sb_len]⟩) hS.out ?_
              refine AnyT.ready (rs := [19]) (by kernel_rfl) (by simp) ?_
              refine AllT.cons rfl (fun K hK => ?_) AllT.nil
              go_simp
              obtain ⟨g4, hg4⟩ : ∃ g, wD.heap.size = g := ⟨_, rfl⟩
              rw [hg4]
              have hnk : g4 ≠ gk := by omega
              have hno : g4 ≠ go := by omega
              have hz4 : wz.heap.size ≤ g4 := by have := hS.out.size; omega
              have hb4 : Below wD.heap.size wD (wD.alloc (.cells #[.int .i64 0, .int .i64 0, .slice none 0 0, .slice none 0 0, .slice none 0 0] 27)) := (Below.refl _ _).alloc (Nat.le_refl _) _
              have hS := Lib.hid (hS.out.trans (hb4.mono hS.out.size))
              have hrk := (hrk.below hb4).fit
              have hgk2 := Nat.lt_of_lt_of_le hgk2 hb4.size
              have hro := (hro.below hb4).fit
              have hgo2 := Nat.lt_of_lt_of_le hgo2 hb4.size
              have hk4 : Blk (wD.alloc (.cells #[.int .i64 0, .int .i64 0, .slice none 0 0, .slice none 0 0, .slice none 0 0] 27)) g4 27 #[.int .i64 0, .int .i64 0, .slice none 0 0, .slice none 0 0, .slice none 0 0] := by rw [← hg4]; exact Blk.new _ _ _
              have hg42 := hk4.lt
              obtain ⟨wC, hwC⟩ : ∃ x, (wD.alloc (.cells #[.int .i64 0, .int .i64 0, .slice none 0 0, .slice none 0 0, .slice none 0 0] 27)) = x := ⟨_, rfl⟩
              rw [hwC] at hS hk4 hg42 hrk hgk2 hro hgo2 ⊢
              clear hwC hb4 hg4
              go_simp
              refine hK.out _ _ (Or.inr hS.out) (fun _ => ?_)
              clear hK K
              refine AnyT.ready (rs := [20]) (by kernel_rfl) (by simp) ?_
              refine AllT.cons rfl (fun K hK => ?_) AllT.nil
              obtain ⟨c0, c1, c2, c3, c4⟩ := five hk4
              have f0 := hk4.frozen 0
              have f1 := hk4.frozen 1
              have f2 := hk4.frozen 2
              have f3 := hk4.frozen 3
              have f4 := hk4.frozen 4
              go_simp
              refine hK.out _ _ (Or.inl rfl) (fun _ => ?_)
              clear hK K
              refine AnyT.done (by kernel_rfl) ?_ _
              go_wp2_with fail
              go_meet
              have hk5 := ((((hk4.set_ 0 (.int .i64 (x : Int))).set_ 1 (.int .i64 (y : Int))).set_ 2 (.slice (some ⟨gk, 0, none⟩) lk.length ck)).set_ 3 (.slice Av lv.length cv)).set_ 4 (.slice (some ⟨go, 0, none⟩) (sb (tab4 i)).length co)
              have hs : (sb (tab4 i)).length = (tab4 i).size := sb_len _
              rw [hs] at hro hk5
              refine ⟨g4, gk, go, ck, co, rfl, Lib.hid ⟨by rw [hs]; exact hk5, hz4, hzk, hzo, hnk, hno, ((((hrk.set_ne hnk).set_ne hnk).set_ne hnk).set_ne hnk).set_ne hnk, by rw [hs]; exact ((((hro.set_ne hno).set_ne hno).set_ne hno).set_ne hno).set_ne hno, ((((hS.out.setCell (p := ⟨g4, 0, none⟩) hz4 _).setCell (p := ⟨g4, 1, none⟩) hz4 _).setCell (p := ⟨g4, 2, none⟩) hz4 _).setCell (p := ⟨g4, 3, none⟩) hz4 _).setCell (p := ⟨g4, 4, none⟩) hz4 _⟩, Lib.hid ⟨hlk, hlk9, sb_lt _, by rw [sb_len]; exact tab4_size i hi4⟩⟩
            · go_simp
              obtain ⟨g4, hg4⟩ : ∃ g, w9.heap.size = g := ⟨_, rfl⟩
              rw [hg4]
              have hnk : g4 ≠ gk := by omega
              have hz4 : wz.heap.size ≤ g4 := by have := hS.out.size; omega
              have hb4 : Below w9.heap.size w9 (w9.alloc (.cells #[.int .i64 0, .int .i64 0, .slice none 0 0, .slice none 0 0, .slice none 0 0] 27)) := (Below.refl _ _).alloc (Nat.le_refl _) _
              have hS := Lib.hid (hS.out.trans (hb4.mono hS.out.size))
              have hkB := hkB.below hb4
              have hrk := (hrk.below hb4).fit
              have hgk2 := Nat.lt_of_lt_of_le hgk2 hb4.size
              have hk4 : Blk (w9.alloc (.cells #[.int .i64 0, .int .i64 0, .slice none 0 0, .slice none 0 0, .slice none 0 0] 27)) g4 27 #[.int .i64 0, .int .i64 0, .slice none 0 0, .slice none 0 0, .slice none 0 0] := by rw [← hg4]; exact Blk.new _ _ _
              have hg42 := hk4.lt
              obtain ⟨wC, hwC⟩ : ∃ x, (w9.alloc (.cells #[.int .i64 0, .int .i64 0, .slice none 0 0, .slice none 0 0, .slice none 0 0] 27)) = x := ⟨_, rfl⟩
              rw [hwC] at hS hk4 hg42 hkB hrk hgk2 ⊢
              clear hwC hb4 hg4
              go_simp
              refine hK.out _ _ (Or.inr hS.out) (fun _ => ?_)
              clear hK K
              refine AnyT.ready (rs := [17]) (by kernel_rfl) (by simp) ?_
              refine AllT.cons rfl (fun K hK => ?_) AllT.nil
              go_simp
              obtain ⟨go, hgo⟩ : ∃ g, wC.heap.size = g := ⟨_, rfl⟩
              rw [hgo]
              have hzo : wz.heap.size ≤ go := by have := hS.out.size; omega
              have hno : g4 ≠ go := by omega
              have hb7 : Below wC.heap.size wC ((wC.alloc (.cells (bytesRow (tab4 i) (grownCap wC (tab4 i).size 0 5)) 5 ((bytesRow (tab4 i) (grownCap wC (tab4 i).size 0 5)).size, (bytesRow (tab4 i) (grownCap wC (tab4 i).size 0 5)).size + 1))).drew) := ((Below.refl _ _).alloc (Nat.le_refl _) _).drew
              have hS := Lib.hid (hS.out.trans (hb7.mono hS.out.size))
              have hkB := hkB.below hb7
              have hrk := (hrk.below hb7).fit
              have hgk2 := Nat.lt_of_lt_of_le hgk2 hb7.size
              have hk4 := hk4.below hb7
              have hg42 := Nat.lt_of_lt_of_le hg42 hb7.size
              have hro : Rd8 ((wC.alloc (.cells (bytesRow (tab4 i) (grownCap wC (tab4 i).size 0 5)) 5 ((bytesRow (tab4 i) (grownCap wC (tab4 i).size 0 5)).size, (bytesRow (tab4 i) (grownCap wC (tab4 i).size 0 5)).size + 1))).drew) ((wC.alloc (.cells (bytesRow (tab4 i) (grownCap wC (tab4 i).size 0 5)) 5 ((bytesRow (tab4 i) (grownCap wC (tab4 i).size 0 5)).size, (bytesRow (tab4 i) (grownCap wC (tab4 i).size 0 5)).size + 1))).drew).heap.size (some ⟨go, 0, none⟩) (sb (tab4 i)).length (bv (sb (tab4 i))) := Rd8.of_stringAt _ _ _ _ hgo
              have hgo2 : go < ((wC.alloc (.cells (bytesRow (tab4 i) (grownCap wC (tab4 i).size 0 5)) 5 ((bytesRow (tab4 i) (grownCap wC (tab4 i).size 0 5)).size, (bytesRow (tab4 i) (grownCap wC (tab4 i).size 0 5)).size + 1))).drew).heap.size := by rw [← hgo]; simp
              obtain ⟨co, hco⟩ : ∃ x, grownCap wC (tab4 i).size 0 5 = x := ⟨_, rfl⟩
              rw [hco] at hS hro hgo2 hkB hrk hgk2 hk4 hg42 ⊢
              obtain ⟨wD, hwD⟩ : ∃ x, (wC.alloc (.cells (bytesRow (tab4 i) co) 5 ((bytesRow (tab4 i) co).size, (bytesRow (tab4 i) co).size + 1))).drew = x := ⟨_, rfl⟩
              rw [hwD] at hS hro hgo2 hkB hrk hgk2 hk4 hg42 ⊢
              clear hwD hco hb7 hgo
              go_simp
              refine hK.out _ _ (Or.inr hS.out) (fun _ => ?_)
              clear hK K
              refine AnyT.take (i := 18) (v := .agg #[.int .i64 (x : Int), .int .i64 (y : Int), .slice (some ⟨gk, 0, none⟩) lk.length ck, .slice Av lv.length cv, .slice (some ⟨go, 0, none⟩) (sb (tab4 i)).length co]) rfl (by kernel_rfl) (by kernel_rfl) (by kernel_rfl) (by kernel_rfl) (fun _ _ _ h => h) (Or.inl ⟨by kernel_rfl, fun w _ => by go_simp; simp [sb_len]⟩) hS.out ?_
              refine AnyT.ready (rs := [20]) (by kernel_rfl) (by simp) ?_
              refine AllT.cons rfl (fun K hK => ?_) AllT.nil
              obtain ⟨c0, c1, c2, c3, c4⟩ := five hk4
              have f0 := hk4.frozen 0
              have f1 := hk4.frozen 1
              have f2 := hk4.frozen 2
              have f3 := hk4.frozen 3
              have f4 := hk4.frozen 4
              go_simp
              refine hK.out _ _ (Or.inl rfl) (fun _ => ?_)
              clear hK K
              refine AnyT.done (by kernel_rfl) ?_ _
              go_wp2_with fail
              go_meet
              have hk5 := ((((hk4.set_ 0 (.int .i64 (x : Int))).set_ 1 (.int .i64 (y : Int))).set_ 2 (.slice (some ⟨gk, 0, none⟩) lk.length ck)).set_ 3 (.slice Av lv.length cv)).set_ 4 (.slice (some ⟨go, 0, none⟩) (sb (tab4 i)).length co)
              have hs : (sb (tab4 i)).length = (tab4 i).size := sb_len _
              rw [hs] at hro hk5
              refine ⟨g4, gk, go, ck, co, rfl, Lib.hid ⟨by rw [hs]; exact hk5, hz4, hzk, hzo, hnk, hno, ((((hrk.set_ne hnk).set_ne hnk).set_ne hnk).set_ne hnk).set_ne hnk, by rw [hs]; exact ((((hro.set_ne hno).set_ne hno).set_ne hno).set_ne hno).set_ne hno, ((((hS.out.setCell (p := ⟨g4, 0, none⟩) hz4 _).setCell (p := ⟨g4, 1, none⟩) hz4 _).setCell (p := ⟨g4, 2, none⟩) hz4 _).setCell (p := ⟨g4, 3, none⟩) hz4 _).setCell (p := ⟨g4, 4, none⟩) hz4 _⟩, Lib.hid ⟨hlk, hlk9, sb_lt _, by rw [sb_len]; exact tab4_size i hi4⟩⟩
          · go_simp
            obtain ⟨g4, hg4⟩ : ∃ g, w9.heap.size = g := ⟨_, rfl⟩
            rw [hg4]
            have hnk : g4 ≠ gk := by omega
            have hz4 : wz.heap.size ≤ g4 := by have := hS.out.size; omega
            have hb4 : Below w9.heap.size w9 (w9.alloc (.cells #[.int .i64 0, .int .i64 0, .slice none 0 0, .slice none 0 0, .slice none 0 0] 27)) := (Below.refl _ _).alloc (Nat.le_refl _) _
            have hS := Lib.hid (hS.out.trans (hb4.mono hS.out.size))
            have hkB := hkB.below hb4
            have hrk := (hrk.below hb4).fit
            have hgk2 := Nat.lt_of_lt_of_le hgk2 hb4.size
            have hk4 : Blk (w9.alloc (.cells #[.int .i64 0, .int .i64 0, .slice none 0 0, .slice none 0 0, .slice none 0 0] 27)) g4 27 #[.int .i64 0, .int .i64 0, .slice none 0 0, .slice none 0 0, .slice none 0 0] := by rw [← hg4]; exact Blk.new _ _ _
            have hg42 := hk4.lt
            obtain ⟨wC, hwC⟩ : ∃ x, (w9.alloc (.cells #[.int .i64 0, .int .i64 0, .slice none 0 0, .slice none 0 0, .slice none 0 0] 27)) = x := ⟨_, rfl⟩
            rw [hwC] at hS hk4 hg42 hkB hrk hgk2 ⊢
            clear hwC hb4 hg4
            go_simp
            refine hK.out _ _ (Or.inr hS.out) (fun _ => ?_)
            clear hK K
            refine AnyT.ready (rs := [16]) (by kernel_rfl) (by simp) ?_
            refine AllT.cons rfl (fun K hK => ?_) AllT.nil
            have hcB : wC.cell? ⟨gB, i, none⟩ = some (.string (tab4 i)) := by rw [hkB.cell]; have hl : i < (#[Value.string ⟨#[]⟩, .string ⟨#[97]⟩, .string ⟨#[98]⟩, .string ⟨#[97, 98]⟩] : Array Value).size := hi4; rw [Array.getElem?_eq_getElem hl]; congr 1; exact tab4_at i hi4
            go_simp
            refine hK.out _ _ (Or.inr hS.out) (fun _ => ?_)
            clear hK K
            refine AnyT.ready (rs := [17]) (by kernel_rfl) (by simp) ?_
            refine AllT.cons rfl (fun K hK => ?_) AllT.nil
            go_simp
            obtain ⟨go, hgo⟩ : ∃ g, wC.heap.size = g := ⟨_, rfl⟩
            rw [hgo]
            have hzo : wz.heap.size ≤ go := by have := hS.out.size; omega
            have hno : g4 ≠ go := by omega
            have hb7 : Below wC.heap.size wC ((wC.alloc (.cells (bytesRow (tab4 i) (grownCap wC (tab4 i).size 0 5)) 5 ((bytesRow (tab4 i) (grownCap wC (tab4 i).size 0 5)).size, (bytesRow (tab4 i) (grownCap wC (tab4 i).size 0 5)).size + 1))).drew) := ((Below.refl _ _).alloc (Nat.le_refl _) _).drew
            have hS := Lib.hid (hS.out.trans (hb7.mono hS.out.size))
            have hkB := hkB.below hb7
            have hrk := (hrk.below hb7).fit
            have hgk2 := Nat.lt_of_lt_of_le hgk2 hb7.size
            have hk4 := hk4.below hb7
            have hg42 := Nat.lt_of_lt_of_le hg42 hb7.size
            have hro : Rd8 ((wC.alloc (.cells (bytesRow (tab4 i) (grownCap wC (tab4 i).size 0 5)) 5 ((bytesRow (tab4 i) (grownCap wC (tab4 i).size 0 5)).size, (bytesRow (tab4 i) (grownCap wC (tab4 i).size 0 5)).size + 1))).drew) ((wC.alloc (.cells (bytesRow (tab4 i) (grownCap wC (tab4 i).size 0 5)) 5 ((bytesRow (tab4 i) (grownCap wC (tab4 i).size 0 5)).size, (bytesRow (tab4 i) (grownCap wC (tab4 i).size 0 5)).size + 1))).drew).heap.size (some ⟨go, 0, none⟩) (sb (tab4 i)).length (bv (sb (tab4 i))) := Rd8.of_stringAt _ _ _ _ hgo
            have hgo2 : go < ((wC.alloc (.cells (bytesRow (tab4 i) (grownCap wC (tab4 i).size 0 5)) 5 ((bytesRow (tab4 i) (grownCap wC (tab4 i).size 0 5)).size, (bytesRow (tab4 i) (grownCap wC (tab4 i).size 0 5)).size + 1))).drew).heap.size := by rw [← hgo]; simp
            obtain ⟨co, hco⟩ : ∃ x, grownCap wC (tab4 i).size 0 5 = x := ⟨_, rfl⟩
            rw [hco] at hS hro hgo2 hkB hrk hgk2 hk4 hg42 ⊢
            obtain ⟨wD, hwD⟩ : ∃ x, (wC.alloc (.cells (bytesRow (tab4 i) co) 5 ((bytesRow (tab4 i) co).size, (bytesRow (tab4 i) co).size + 1))).drew = x := ⟨_, rfl⟩
            rw [hwD] at hS hro hgo2 hkB hrk hgk2 hk4 hg42 ⊢
            clear hwD hco hb7 hgo
            go_simp
            refine hK.out _ _ (Or.inr hS.out) (fun _ => ?_)
            clear hK K
            refine AnyT.take (i := 18) (v := .agg #[.int .i64 (x : Int), .int .i64 (y : Int), .slice (some ⟨gk, 0, none⟩) lk.length ck, .slice Av lv.length cv, .slice (some ⟨go, 0, none⟩) (sb (tab4 i)).length co]) rfl (by kernel_rfl) (by kernel_rfl) (by kernel_rfl) (by kernel_rfl) (fun _ _ _ h => h) (Or.inl ⟨by kernel_rfl, fun w _ => by go_simp; simp [sb_len]⟩) hS.out ?_
            refine AnyT.ready (rs := [20]) (by kernel_rfl) (by simp) ?_
            refine AllT.cons rfl (fun K hK => ?_) AllT.nil
            obtain ⟨c0, c1, c2, c3, c4⟩ := five hk4
            have f0 := hk4.frozen 0
            have f1 := hk4.frozen 1
            have f2 := hk4.frozen 2
            have f3 := hk4.frozen 3
            have f4 := hk4.frozen 4
            go_simp
            refine hK.out _ _ (Or.inl rfl) (fun _ => ?_)
            clear hK K
            refine AnyT.done (by kernel_rfl) ?_ _
            go_wp2_with fail
            go_meet
            have hk5 := ((((hk4.set_ 0 (.int .i64 (x : Int))).set_ 1 (.int .i64 (y : Int))).set_ 2 (.slice (some ⟨gk, 0, none⟩) lk.length ck)).set_ 3 (.slice Av lv.length cv)).set_ 4 (.slice (some ⟨go, 0, none⟩) (sb (tab4 i)).length co)
            have hs : (sb (tab4 i)).length = (tab4 i).size := sb_len _
            rw [hs] at hro hk5
            refine ⟨g4, gk, go, ck, co, rfl, Lib.hid ⟨by rw [hs]; exact hk5, hz4, hzk, hzo, hnk, hno, ((((hrk.set_ne hnk).set_ne hnk).set_ne hnk).set_ne hnk).set_ne hnk, by rw [hs]; exact ((((hro.set_ne hno).set_ne hno).set_ne hno).set_ne hno).set_ne hno, ((((hS.out.setCell (p := ⟨g4, 0, none⟩) hz4 _).setCell (p := ⟨g4, 1, none⟩) hz4 _).setCell (p := ⟨g4, 2, none⟩) hz4 _).setCell (p := ⟨g4, 3, none⟩) hz4 _).setCell (p := ⟨g4, 4, none⟩) hz4 _⟩, Lib.hid ⟨hlk, hlk9, sb_lt _, by rw [sb_len]; exact tab4_size i hi4⟩⟩
        · have hcB : wB.cell? ⟨gB, i, none⟩ = some (.string (tab4 i)) := by rw [hkB.cell]; have hl : i < (#[Value.string ⟨#[]⟩, .string ⟨#[97]⟩, .string ⟨#[98]⟩, .string ⟨#[97, 98]⟩] : Array Value).size := hi4; rw [Array.getElem?_eq_getElem hl]; congr 1; exact tab4_at i hi4
          go_simp
          refine hK.out _ _ (Or.inr hS.out) (fun _ => ?_)
          clear hK K
          refine AnyT.ready (rs := [9, 17, 19]) (by kernel_rfl) (by simp) ?_
          refine AllT.cons rfl (fun K hK => ?_) (AllT.cons rfl (fun K hK => ?_) (AllT.cons rfl (fun K hK => ?_) AllT.nil))
          · go_simp
            have hSz := hS.out.size
            refine (HKD.out _).mono ?_
            rintro e w9 ⟨gk, ck, rfl, hrk, hlk, hlk9, hgk1, hgk2, hb9⟩
            have hS := Lib.hid (hS.out.trans (hb9.mono hS.out.size))
            have hkB := hkB.below hb9
            have hzk : wz.heap.size ≤ gk := by omega
            go_simp
            refine hK.out _ _ (Or.inr hS.out) (fun _ => ?_)
            clear hK K
            refine AnyT.ready (rs := [17, 19]) (by kernel_rfl) (by simp) ?_
            refine AllT.cons rfl (fun K hK => ?_) (AllT.cons rfl (fun K hK => ?_) AllT.nil)
            · go_simp
              obtain ⟨go, hgo⟩ : ∃ g, w9.heap.size = g := ⟨_, rfl⟩
              rw [hgo]
              have hzo : wz.heap.size ≤ go := by have := hS.out.size; omega
              have hb7 : Below w9.heap.size w9 ((w9.alloc (.cells (bytesRow (tab4 i) (grownCap w9 (tab4 i).size 0 5)) 5 ((bytesRow (tab4 i) (grownCap w9 (tab4 i).size 0 5)).size, (bytesRow (tab4 i) (grownCap w9 (tab4 i).size 0 5)).size + 1))).drew) := ((Below.refl _ _).alloc (Nat.le_refl _) _).drew
              have hS := Lib.hid (hS.out.trans (hb7.mono hS.out.size))
              have hkB := hkB.below hb7
              have hrk := (hrk.below hb7).fit
              have hgk2 := Nat.lt_of_lt_of_le hgk2 hb7.size
              have hro : Rd8 ((w9.alloc (.cells (bytesRow (tab4 i) (grownCap w9 (tab4 i).size 0 5)) 5 ((bytesRow (tab4 i) (grownCap w9 (tab4 i).size 0 5)).size, (bytesRow (tab4 i) (grownCap w9 (tab4 i).size 0 5)).size + 1))).drew) ((w9.alloc (.cells (bytesRow (tab4 i) (grownCap w9 (tab4 i).size 0 5)) 5 ((bytesRow (tab4 i) (grownCap w9 (tab4 i).size 0 5)).size, (bytesRow (tab4 i) (grownCap w9 (tab4 i).size 0 5)).size + 1))).drew).heap.size (some ⟨go, 0, none⟩) (sb (tab4 i)).length (bv (sb (tab4 i))) := Rd8.of_stringAt _ _ _ _ hgo
              have hgo2 : go < ((w9.alloc (.cells (bytesRow (tab4 i) (grownCap w9 (tab4 i).size 0 5)) 5 ((bytesRow (tab4 i) (grownCap w9 (tab4 i).size 0 5)).size, (bytesRow (tab4 i) (grownCap w9 (tab4 i).size 0 5)).size + 1))).drew).heap.size := by rw [← hgo]; simp
              obtain ⟨co, hco⟩ : ∃ x, grownCap w9 (tab4 i).size 0 5 = x := ⟨_, rfl⟩
              rw [hco] at hS hro hgo2 hkB hrk hgk2 ⊢
              obtain ⟨wD, hwD⟩ : ∃ x, (w9.alloc (.cells (bytesRow (tab4 i) co) 5 ((bytesRow (tab4 i) co).size, (bytesRow (tab4 i) co).size + 1))).drew = x := ⟨_, rfl⟩
              rw [hwD] at hS hro hgo2 hkB hrk hgk2 ⊢
              clear hwD hco hb7 hgo
              go_simp
              refine hK.out _ _ (Or.inr hS.out) (fun _ => ?_)
              clear hK K
              refine AnyT.take (i := 18) (v := .agg #[.int .i64 (x : Int), .int .i64 (y : Int), .slice (some ⟨gk, 0, none⟩) lk.length ck, .slice Av lv.length cv, .slice (some ⟨go, 0, none⟩) (sb (tab4 i)).length co]) rfl (by kernel_rfl) (by kernel_rfl) (by kernel_rfl) (by kernel_rfl) (fun _ _ _ h => h) (Or.inl ⟨by kernel_rfl, fun w _ => by go_simp; simp [sb_len]⟩) hS.out ?_
              refine AnyT.ready (rs := [19]) (by kernel_rfl) (by simp) ?_
              refine AllT.cons rfl (fun K hK => ?_) AllT.nil
              go_simp
              obtain ⟨g4, hg4⟩ : ∃ g, wD.heap.size = g := ⟨_, rfl⟩
              rw [hg4]
              have hnk : g4 ≠ gk := by omega
              have hno : g4 ≠ go := by omega
              have hz4 : wz.heap.size ≤ g4 := by have := hS.out.size; omega
              have hb4 : Below wD.heap.size wD (wD.alloc (.cells #[.int .i64 0, .int .i64 0, .slice none 0 0, .slice none 0 0, .slice none 0 0] 27)) := (Below.refl _ _).alloc (Nat.le_refl _) _
              have hS := Lib.hid (hS.out.trans (hb4.mono hS.out.size))
              have hrk := (hrk.below hb4).fit
              have hgk2 := Nat.lt_of_lt_of_le hgk2 hb4.size
              have hro := (hro.below hb4).fit
              have hgo2 := Nat.lt_of_lt_of_le hgo2 hb4.size
              have hk4 : Blk (wD.alloc (.cells #[.int .i64 0, .int .i64 0, .slice none 0 0, .slice none 0 0, .slice none 0 0] 27)) g4 27 #[.int .i64 0, .int .i64 0, .slice none 0 0, .slice none 0 0, .slice none 0 0] := by rw [← hg4]; exact Blk.new _ _ _
              have hg42 := hk4.lt
              obtain ⟨wC, hwC⟩ : ∃ x, (wD.alloc (.cells #[.int .i64 0, .int .i64 0, .slice none 0 0, .slice none 0 0, .slice none 0 0] 27)) = x := ⟨_, rfl⟩
              rw [hwC] at hS hk4 hg42 hrk hgk2 hro hgo2 ⊢
              clear hwC hb4 hg4
              go_simp
              refine hK.out _ _ (Or.inr hS.out) (fun _ => ?_)
              clear hK K
              refine AnyT.ready (rs := [20]) (by kernel_rfl) (by simp) ?_
              refine AllT.cons rfl (fun K hK => ?_) AllT.nil
              obtain ⟨c0, c1, c2, c3, c4⟩ := five hk4
              have f0 := hk4.frozen 0
              have f1 := hk4.frozen 1
              have f2 := hk4.frozen 2
              have f3 := hk4.frozen 3
              have f4 := hk4.frozen 4
              go_simp
              refine hK.out _ _ (Or.inl rfl) (fun _ => ?_)
              clear hK K
              refine AnyT.done (by kernel_rfl) ?_ _
              go_wp2_with fail
              go_meet
              have hk5 := ((((hk4.set_ 0 (.int .i64 (x : Int))).set_ 1 (.int .i64 (y : Int))).set_ 2 (.slice (some ⟨gk, 0, none⟩) lk.length ck)).set_ 3 (.slice Av lv.length cv)).set_ 4 (.slice (some ⟨go, 0, none⟩) (sb (tab4 i)).length co)
              have hs : (sb (tab4 i)).length = (tab4 i).size := sb_len _
              rw [hs] at hro hk5
              refine ⟨g4, gk, go, ck, co, rfl, Lib.hid ⟨by rw [hs]; exact hk5, hz4, hzk, hzo, hnk, hno, ((((hrk.set_ne hnk).set_ne hnk).set_ne hnk).set_ne hnk).set_ne hnk, by rw [hs]; exact ((((hro.set_ne hno).set_ne hno).set_ne hno).set_ne hno).set_ne hno, ((((hS.out.setCell (p := ⟨g4, 0, none⟩) hz4 _).setCell (p := ⟨g4, 1, none⟩) hz4 _).setCell (p := ⟨g4, 2, none⟩) hz4 _).setCell (p := ⟨g4, 3, none⟩) hz4 _).setCell (p := ⟨g4, 4, none⟩) hz4 _⟩, Lib.hid ⟨hlk, hlk9, sb_lt _, by rw [sb_len]; exact tab4_size i hi4⟩⟩
            · go_simp
              obtain ⟨g4, hg4⟩ : ∃ g, w9.heap.size = g := ⟨_, rfl⟩
              rw [hg4]
              have hnk : g4 ≠ gk := by omega
              have hz4 : wz.heap.size ≤ g4 := by have := hS.out.size; omega
              have hb4 : Below w9.heap.size w9 (w9.alloc (.cells #[.int .i64 0, .int .i64 0, .slice none 0 0, .slice none 0 0, .slice none 0 0] 27)) := (Below.refl _ _).alloc (Nat.le_refl _) _
              have hS := Lib.hid (hS.out.trans (hb4.mono hS.out.size))
              have hkB := hkB.below hb4
              have hrk := (hrk.below hb4).fit
              have hgk2 := Nat.lt_of_lt_of_le hgk2 hb4.size
              have hk4 : Blk (w9.alloc (.cells #[.int .i64 0, .int .i64 0, .slice none 0 0, .slice none 0 0, .slice none 0 0] 27)) g4 27 #[.int .i64 0, .int .i64 0, .slice none 0 0, .slice none 0 0, .slice none 0 0] := by rw [← hg4]; exact Blk.new _ _ _
              have hg42 := hk4.lt
              obtain ⟨wC, hwC⟩ : ∃ x, (w9.alloc (.cells #[.int .i64 0, .int .i64 0, .slice none 0 0, .slice none 0 0, .slice none 0 0] 27)) = x := ⟨_, rfl⟩
              rw [hwC] at hS hk4 hg42 hkB hrk hgk2 ⊢
              clear hwC hb4 hg4
              go_simp
              refine hK.out _ _ (Or.inr hS.out) (fun _ => ?_)
              clear hK K
              refine AnyT.ready (rs := [17]) (by kernel_rfl) (by simp) ?_
              refine AllT.cons rfl (fun K hK => ?_) AllT.nil
              go_simp
              obtain ⟨go, hgo⟩ : ∃ g, wC.heap.size = g := ⟨_, rfl⟩
              rw [hgo]
              have hzo : wz.heap.size ≤ go := by have := hS.out.size; omega
              have hno : g4 ≠ go := by omega
              have hb7 : Below wC.heap.size wC ((wC.alloc (.cells (bytesRow (tab4 i) (grownCap wC (tab4 i).size 0 5)) 5 ((bytesRow (tab4 i) (grownCap wC (tab4 i).size 0 5)).size, (bytesRow (tab4 i) (grownCap wC (tab4 i).size 0 5)).size + 1))).drew) := ((Below.refl _ _).alloc (Nat.le_refl _) _).drew
              have hS := Lib.hid (hS.out.trans (hb7.mono hS.out.size))
              have hkB := hkB.below hb7
              have hrk := (hrk.below hb7).fit
              have hgk2 := Nat.lt_of_lt_of_le hgk2 hb7.size
              have hk4 := hk4.below hb7
              have hg42 := Nat.lt_of_lt_of_le hg42 hb7.size
              have hro : Rd8 ((wC.alloc (.cells (bytesRow (tab4 i) (grownCap wC (tab4 i).size 0 5)) 5 ((bytesRow (tab4 i) (grownCap wC (tab4 i).size 0 5)).size, (bytesRow (tab4 i) (grownCap wC (tab4 i).size 0 5)).size + 1))).drew) ((wC.alloc (.cells (bytesRow (tab4 i) (grownCap wC (tab4 i).size 0 5)) 5 ((bytesRow (tab4 i) (grownCap wC (tab4 i).size 0 5)).size, (bytesRow (tab4 i) (grownCap wC (tab4 i).size 0 5)).size + 1))).drew).heap.size (some ⟨go, 0, none⟩) (sb (tab4 i)).length (bv (sb (tab4 i))) := Rd8.of_stringAt _ _ _ _ hgo
              have hgo2 : go < ((wC.alloc (.cells (bytesRow (tab4 i) (grownCap wC (tab4 i).size 0 5)) 5 ((bytesRow (tab4 i) (grownCap wC (tab4 i).size 0 5)).size, (bytesRow (tab4 i) (grownCap wC (tab4 i).size 0 5)).size + 1))).drew).heap.size := by rw [← hgo]; simp
              obtain ⟨co, hco⟩ : ∃ x, grownCap wC (tab4 i).size 0 5 = x := ⟨_, rfl⟩
              rw [hco] at hS hro hgo2 hkB hrk hgk2 hk4 hg42 ⊢
              obtain ⟨wD, hwD⟩ : ∃ x, (wC.alloc (.cells (bytesRow (tab4 i) co) 5 ((bytesRow (tab4 i) co).size, (bytesRow (tab4 i) co).size + 1))).drew = x := ⟨_, rfl⟩
              rw [hwD] at hS hro hgo2 hkB hrk hgk2 hk4 hg42 ⊢
              clear hwD hco hb7 hgo
              go_simp
              refine hK.out _ _ (Or.inr hS.out) (fun _ => ?_)
              clear hK K
              refine AnyT.take (i := 18) (v := .agg #[.int .i64 (x : Int), .int .i64 (y : Int), .slice (some ⟨gk, 0, none⟩) lk.length ck, .slice Av lv.length cv, .slice (some ⟨go, 0, none⟩) (sb (tab4 i)).length co]) rfl (by kernel_rfl) (by kernel_rfl) (by kernel_rfl) (by kernel_rfl) (fun _ _ _ h => h) (Or.inl ⟨by kernel_rfl, fun w _ => by go_simp; simp [sb_len]⟩) hS.out ?_
              refine AnyT.ready (rs := [20]) (by kernel_rfl) (by simp) ?_
              refine AllT.cons rfl (fun K hK => ?_) AllT.nil
              obtain ⟨c0, c1, c2, c3, c4⟩ := five hk4
              have f0 := hk4.frozen 0
              have f1 := hk4.frozen 1
              have f2 := hk4.frozen 2
              have f3 := hk4.frozen 3
              have f4 := hk4.frozen 4
              go_simp
              refine hK.out _ _ (Or.inl rfl) (fun _ => ?_)
              clear hK K
              refine AnyT.done (by kernel_rfl) ?_ _
              go_wp2_with fail
              go_meet
              have hk5 := ((((hk4.set_ 0 (.int .i64 (x : Int))).set_ 1 (.int .i64 (y : Int))).set_ 2 (.slice (some ⟨gk, 0, none⟩) lk.length ck)).set_ 3 (.slice Av lv.length cv)).set_ 4 (.slice (some ⟨go, 0, none⟩) (sb (tab4 i)).length co)
              have hs : (sb (tab4 i)).length = (tab4 i).size := sb_len _
              rw [hs] at hro hk5
              refine ⟨g4, gk, go, ck, co, rfl, Lib.hid ⟨by rw [hs]; exact hk5, hz4, hzk, hzo, hnk, hno, ((((hrk.set_ne hnk).set_ne hnk).set_ne hnk).set_ne hnk).set_ne hnk, by rw [hs]; exact ((((hro.set_ne hno).set_ne hno).set_ne hno).set_ne hno).set_ne hno, ((((hS.out.setCell (p := ⟨g4, 0, none⟩) hz4 _).setCell (p := ⟨g4, 1, none⟩) hz4 _).setCell (p := ⟨g4, 2, none⟩) hz4 _).setCell (p := ⟨g4, 3, none⟩) hz4 _).setCell (p := ⟨g4, 4, none⟩) hz4 _⟩, Lib.hid ⟨hlk, hlk9, sb_lt _, by rw [sb_len]; exact tab4_size i hi4⟩⟩
          · go_simp
            obtain ⟨go, hgo⟩ : ∃ g, wB.heap.size = g := ⟨_, rfl⟩
            rw [hgo]
            have hzo : wz.heap.size ≤ go := by have := hS.out.size; omega
            have hb7 : Below wB.heap.size wB ((wB.alloc (.cells (bytesRow (tab4 i) (grownCap wB (tab4 i).size 0 5)) 5 ((bytesRow (tab4 i) (grownCap wB (tab4 i).size 0 5)).size, (bytesRow (tab4 i) (grownCap wB (tab4 i).size 0 5)).size + 1))).drew) := ((Below.refl _ _).alloc (Nat.le_refl _) _).drew
            have hS := Lib.hid (hS.out.trans (hb7.mono hS.out.size))
            have hkB := hkB.below hb7
            have hro : Rd8 ((wB.alloc (.cells (bytesRow (tab4 i) (grownCap wB (tab4 i).size 0 5)) 5 ((bytesRow (tab4 i) (grownCap wB (tab4 i).size 0 5)).size, (bytesRow (tab4 i) (grownCap wB (tab4 i).size 0 5)).size + 1))).drew) ((wB.alloc (.cells (bytesRow (tab4 i) (grownCap wB (tab4 i).size 0 5)) 5 ((bytesRow (tab4 i) (grownCap wB (tab4 i).size 0 5)).size, (bytesRow (tab4 i) (grownCap wB (tab4 i).size 0 5)).size + 1))).drew).heap.size (some ⟨go, 0, none⟩) (sb (tab4 i)).length (bv (sb (tab4 i))) := Rd8.of_stringAt _ _ _ _ hgo
            have hgo2 : go < ((wB.alloc (.cells (bytesRow (tab4 i) (grownCap wB (tab4 i).size 0 5)) 5 ((bytesRow (tab4 i) (grownCap wB (tab4 i).size 0 5)).size, (bytesRow (tab4 i) (grownCap wB (tab4 i).size 0 5)).size + 1))).drew).heap.size := by rw [← hgo]; simp
            obtain ⟨co, hco⟩ : ∃ x, grownCap wB (tab4 i).size 0 5 = x := ⟨_, rfl⟩
            rw [hco] at hS hro hgo2 hkB ⊢
            obtain ⟨wD, hwD⟩ : ∃ x, (wB.alloc (.cells (bytesRow (tab4 i) co) 5 ((bytesRow (tab4 i) co).size, (bytesRow (tab4 i) co).size + 1))).drew = x := ⟨_, rfl⟩
            rw [hwD] at hS hro hgo2 hkB ⊢
            clear hwD hco hb7 hgo
            go_simp
            refine hK.out _ _ (Or.inr hS.out) (fun _ => ?_)
            clear hK K
            refine AnyT.ready (rs := [9, 19]) (by kernel_rfl) (by simp) ?_
            refine AllT.cons rfl (fun K hK => ?_) (AllT.cons rfl (fun K hK => ?_) AllT.nil)
            · go_simp
              have hSz := hS.out.size
              refine (HKD.out _).mono ?_
              rintro e w9 ⟨gk, ck, rfl, hrk, hlk, hlk9, hgk1, hgk2, hb9⟩
              have hS := Lib.hid (hS.out.trans (hb9.mono hS.out.size))
              have hro := (hro.below hb9).fit
              have hgo2 := Nat.lt_of_lt_of_le hgo2 hb9.size
              have hzk : wz.heap.size ≤ gk := by omega
              go_simp
              refine hK.out _ _ (Or.inr hS.out) (fun _ => ?_)
              clear hK K
              refine AnyT.take (i := 18) (v := .agg #[.int .i64 (x : Int), .int .i64 (y : Int), .slice (some ⟨gk, 0, none⟩) lk.length ck, .slice Av lv.length cv, .slice (some ⟨go, 0, none⟩) (sb (tab4 i)).length co]) rfl (by kernel_rfl) (by kernel_rfl) (by kernel_rfl) (by kernel_rfl) (fun _ _ _ h => h) (Or.inl ⟨by kernel_rfl, fun w _ => by go_simp; simp [sb_len]⟩) hS.out ?_
              refine AnyT.ready (rs := [19]) (by kernel_rfl) (by simp) ?_
              refine AllT.cons rfl (fun K hK => ?_) AllT.nil
              go_simp
              obtain ⟨g4, hg4⟩ : ∃ g, w9.heap.size = g := ⟨_, rfl⟩
              rw [hg4]
              have hnk : g4 ≠ gk := by omega
              have hno : g4 ≠ go := by omega
              have hz4 : wz.heap.size ≤ g4 := by have := hS.out.size; omega
              have hb4 : Below w9.heap.size w9 (w9.alloc (.cells #[.int .i64 0, .int .i64 0, .slice none 0 0, .slice none 0 0, .slice none 0 0] 27)) := (Below.refl _ _).alloc (Nat.le_refl _) _
              have hS := Lib.hid (hS.out.trans (hb4.mono hS.out.size))
              have hro := (hro.below hb4).fit
              have hgo2 := Nat.lt_of_lt_of_le hgo2 hb4.size
              have hrk := (hrk.below hb4).fit
              have hgk2 := Nat.lt_of_lt_of_le hgk2 hb4.size
              have hk4 : Blk (w9.alloc (.cells #[.int .i64 0, .int .i64 0, .slice none 0 0, .slice none 0 0, .slice none 0 0] 27)) g4 27 #[.int .i64 0, .int .i64 0, .slice none 0 0, .slice none 0 0, .slice none 0 0] := by rw [← hg4]; exact Blk.new _ _ _
              have hg42 := hk4.lt
              obtain ⟨wC, hwC⟩ : ∃ x, (w9.alloc (.cells #[.int .i64 0, .int .i64 0, .slice none 0 0, .slice none 0 0, .slice none 0 0] 27)) = x := ⟨_, rfl⟩
              rw [hwC] at hS hk4 hg42 hro hgo2 hrk hgk2 ⊢
              clear hwC hb4 hg4
              go_simp
              refine hK.out _ _ (Or.inr hS.out) (fun _ => ?_)
              clear hK K
              refine AnyT.ready (rs := [20]) (by kernel_rfl) (by simp) ?_
              refine AllT.cons rfl (fun K hK => ?_) AllT.nil
              obtain ⟨c0, c1, c2, c3, c4⟩ := five hk4
              have f0 := hk4.frozen 0
              have f1 := hk4.frozen 1
              have f2 := hk4.frozen 2
              have f3 := hk4.frozen 3
              have f4 := hk4.frozen 4
              go_simp
              refine hK.out _ _ (Or.inl rfl) (fun _ => ?_)
              clear hK K
              refine AnyT.done (by kernel_rfl) ?_ _
              go_wp2_with fail
              go_meet
              have hk5 := ((((hk4.set_ 0 (.int .i64 (x : Int))).set_ 1 (.int .i64 (y : Int))).set_ 2 (.slice (some ⟨gk, 0, none⟩) lk.length ck)).set_ 3 (.slice Av lv.length cv)).set_ 4 (.slice (some ⟨go, 0, none⟩) (sb (tab4 i)).length co)
              have hs : (sb (tab4 i)).length = (tab4 i).size := sb_len _
              rw [hs] at hro hk5
              refine ⟨g4, gk, go, ck, co, rfl, Lib.hid ⟨by rw [hs]; exact hk5, hz4, hzk, hzo, hnk, hno, ((((hrk.set_ne hnk).set_ne hnk).set_ne hnk).set_ne hnk).set_ne hnk, by rw [hs]; exact ((((hro.set_ne hno).set_ne hno).set_ne hno).set_ne hno).set_ne hno, ((((hS.out.setCell (p := ⟨g4, 0, none⟩) hz4 _).setCell (p := ⟨g4, 1, none⟩) hz4 _).setCell (p := ⟨g4, 2, none⟩) hz4 _).setCell (p := ⟨g4, 3, none⟩) hz4 _).setCell (p := ⟨g4, 4, none⟩) hz4 _⟩, Lib.hid ⟨hlk, hlk9, sb_lt _, by rw [sb_len]; exact tab4_size i hi4⟩⟩
            · go_simp
              obtain ⟨g4, hg4⟩ : ∃ g, wD.heap.size = g := ⟨_, rfl⟩
              rw [hg4]
              have hno : g4 ≠ go := by omega
              have hz4 : wz.heap.size ≤ g4 := by have := hS.out.size; omega
              have hb4 : Below wD.heap.size wD (wD.alloc (.cells #[.int .i64 0, .int .i64 0, .slice none 0 0, .slice none 0 0, .slice none 0 0] 27)) := (Below.refl _ _).alloc (Nat.le_refl _) _
              have hS := Lib.hid (hS.out.trans (hb4.mono hS.out.size))
              have hro := (hro.below hb4).fit
              have hgo2 := Nat.lt_of_lt_of_le hgo2 hb4.size
              have hk4 : Blk (wD.alloc (.cells #[.int .i64 0, .int .i64 0, .slice none 0 0, .slice none 0 0, .slice none 0 0] 27)) g4 27 #[.int .i64 0, .int .i64 0, .slice none 0 0, .slice none 0 0, .slice none 0 0] := by rw [← hg4]; exact Blk.new _ _ _
              have hg42 := hk4.lt
              obtain ⟨wC, hwC⟩ : ∃ x, (wD.alloc (.cells #[.int .i64 0, .int .i64 0, .slice none 0 0, .slice none 0 0, .slice none 0 0] 27)) = x := ⟨_, rfl⟩
              rw [hwC] at hS hk4 hg42 hro hgo2 ⊢
              clear hwC hb4 hg4
              go_simp
              refine hK.out _ _ (Or.inr hS.out) (fun _ => ?_)
              clear hK K
              refine AnyT.ready (rs := [9]) (by kernel_rfl) (by simp) ?_
              refine AllT.cons rfl (fun K hK => ?_) AllT.nil
              go_simp
              have hSz := hS.out.size
              refine (HKD.out _).mono ?_
              have hg4o := hg42
              rintro e w9 ⟨gk, ck, rfl, hrk, hlk, hlk9, hgk1, hgk2, hb9⟩
              have hS := Lib.hid (hS.out.trans (hb9.mono hS.out.size))
              have hro := (hro.below hb9).fit
              have hgo2 := Nat.lt_of_lt_of_le hgo2 hb9.size
              have hk4 := hk4.below hb9
              have hg42 := Nat.lt_of_lt_of_le hg42 hb9.size
              have hzk : wz.heap.size ≤ gk := by omega
              have hnk : g4 ≠ gk := by omega
              go_simp
              refine hK.out _ _ (Or.inr hS.out) (fun _ => ?_)
              clear hK K
              refine AnyT.take (i := 18) (v := .agg #[.int .i64 (x : Int), .int .i64 (y : Int), .slice (some ⟨gk, 0, none⟩) lk.length ck, .slice Av lv.length cv, .slice (some ⟨go, 0, none⟩) (sb (tab4 i)).length co]) rfl (by kernel_rfl) (by kernel_rfl) (by kernel_rfl) (by kernel_rfl) (fun _ _ _ h => h) (Or.inl ⟨by kernel_rfl, fun w _ => by go_simp; simp [sb_len]⟩) hS.out ?_
              refine AnyT.ready (rs := [20]) (by kernel_rfl) (by simp) ?_
              refine AllT.cons rfl (fun K hK => ?_) AllT.nil
              obtain ⟨c0, c1, c2, c3, c4⟩ := five hk4
              have f0 := hk4.frozen 0
              have f1 := hk4.frozen 1
              have f2 := hk4.frozen 2
              have f3 := hk4.frozen 3
              have f4 := hk4.frozen 4
              go_simp
              refine hK.out _ _ (Or.inl rfl) (fun _ => ?_)
              clear hK K
              refine AnyT.done (by kernel_rfl) ?_ _
              go_wp2_with fail
              go_meet
              have hk5 := ((((hk4.set_ 0 (.int .i64 (x : Int))).set_ 1 (.int .i64 (y : Int))).set_ 2 (.slice (some ⟨gk, 0, none⟩) lk.length ck)).set_ 3 (.slice Av lv.length cv)).set_ 4 (.slice (some ⟨go, 0, none⟩) (sb (tab4 i)).length co)
              have hs : (sb (tab4 i)).length = (tab4 i).size := sb_len _
              rw [hs] at hro hk5
              refine ⟨g4, gk, go, ck, co, rfl, Lib.hid ⟨by rw [hs]; exact hk5, hz4, hzk, hzo, hnk, hno, ((((hrk.set_ne hnk).set_ne hnk).set_ne hnk).set_ne hnk).set_ne hnk, by rw [hs]; exact ((((hro.set_ne hno).set_ne hno).set_ne hno).set_ne hno).set_ne hno, ((((hS.out.setCell (p := ⟨g4, 0, none⟩) hz4 _).setCell (p := ⟨g4, 1, none⟩) hz4 _).setCell (p := ⟨g4, 2, none⟩) hz4 _).setCell (p := ⟨g4, 3, none⟩) hz4 _).setCell (p := ⟨g4, 4, none⟩) hz4 _⟩, Lib.hid ⟨hlk, hlk9, sb_lt _, by rw [sb_len]; exact tab4_size i hi4⟩⟩
          · go_simp
            obtain ⟨g4, hg4⟩ : ∃ g, wB.heap.size = g := ⟨_, rfl⟩
            rw [hg4]
            have hz4 : wz.heap.size ≤ g4 := by have := hS.out.size; omega
            have hb4 : Below wB.heap.size wB (wB.alloc (.cells #[.int .i64 0, .int .i64 0, .slice none 0 0, .slice none 0 0, .slice none 0 0] 27)) := (Below.refl _ _).alloc (Nat.le_refl _) _
            have hS := Lib.hid (hS.out.trans (hb4.mono hS.out.size))
            have hkB := hkB.below hb4
            have hk4 : Blk (wB.alloc (.cells #[.int .i64 0, .int .i64 0, .slice none 0 0, .slice none 0 0, .slice none 0 0] 27)) g4 27 #[.int .i64 0, .int .i64 0, .slice none 0 0, .slice none 0 0, .slice none 0 0] := by rw [← hg4]; exact Blk.new _ _ _
            have hg42 := hk4.lt
            obtain ⟨wC, hwC⟩ : ∃ x, (wB.alloc (.cells #[.int .i64 0, .int .i64 0, .slice none 0 0, .slice none 0 0, .slice none 0 0] 27)) = x := ⟨_, rfl⟩
            rw [hwC] at hS hk4 hg42 hkB ⊢
            clear hwC hb4 hg4
            go_simp
            refine hK.out _ _ (Or.inr hS.out) (fun _ => ?_)
            clear hK K
            refine AnyT.ready (rs := [9, 17]) (by kernel_rfl) (by simp) ?_
            refine AllT.cons rfl (fun K hK => ?_) (AllT.cons rfl (fun K hK => ?_) AllT.nil)
            · go_simp
              have hSz := hS.out.size
              refine (HKD.out _).mono ?_
              have hg4o := hg42
              rintro e w9 ⟨gk, ck, rfl, hrk, hlk, hlk9, hgk1, hgk2, hb9⟩
              have hS := Lib.hid (hS.out.trans (hb9.mono hS.out.size))
              have hkB := hkB.below hb9
              have hk4 := hk4.below hb9
              have hg42 := Nat.lt_of_lt_of_le hg42 hb9.size
              have hzk : wz.heap.size ≤ gk := by omega
              have hnk : g4 ≠ gk := by omega
              go_simp
              refine hK.out _ _ (Or.inr hS.out) (fun _ => ?_)
              clear hK K
              refine AnyT.ready (rs := [17]) (by kernel_rfl) (by simp) ?_
              refine AllT.cons rfl (fun K hK => ?_) AllT.nil
              go_simp
              obtain ⟨go, hgo⟩ : ∃ g, w9.heap.size = g := ⟨_, rfl⟩
              rw [hgo]
              have hzo : wz.heap.size ≤ go := by have := hS.out.size; omega
              have hno : g4 ≠ go := by omega
              have hb7 : Below w9.heap.size w9 ((w9.alloc (.cells (bytesRow (tab4 i) (grownCap w9 (tab4 i).size 0 5)) 5 ((bytesRow (tab4 i) (grownCap w9 (tab4 i).size 0 5)).size, (bytesRow (tab4 i) (grownCap w9 (tab4 i).size 0 5)).size + 1))).drew) := ((Below.refl _ _).alloc (Nat.le_refl _) _).drew
              have hS := Lib.hid (hS.out.trans (hb7.mono hS.out.size))
              have hkB := hkB.below hb7
              have hk4 := hk4.below hb7
              have hg42 := Nat.lt_of_lt_of_le hg42 hb7.size
              have hrk := (hrk.below hb7).fit
              have hgk2 := Nat.lt_of_lt_of_le hgk2 hb7.size
              have hro : Rd8 ((w9.alloc (.cells (bytesRow (tab4 i) (grownCap w9 (tab4 i).size 0 5)) 5 ((bytesRow (tab4 i) (grownCap w9 (tab4 i).size 0 5)).size, (bytesRow (tab4 i) (grownCap w9 (tab4 i).size 0 5)).size + 1))).drew) ((w9.alloc (.cells (bytesRow (tab4 i) (grownCap w9 (tab4 i).size 0 5)) 5 ((bytesRow (tab4 i) (grownCap w9 (tab4 i).size 0 5)).size, (bytesRow (tab4 i) (grownCap w9 (tab4 i).size 0 5)).size + 1))).drew).heap.size (some ⟨go, 0, none⟩) (sb (tab4 i)).length (bv (sb (tab4 i))) := Rd8.of_stringAt _ _ _ _ hgo
              have hgo2 : go < ((w9.alloc (.cells (bytesRow (tab4 i) (grownCap w9 (tab4 i).size 0 5)) 5 ((bytesRow (tab4 i) (grownCap w9 (tab4 i).size 0 5)).size, (bytesRow (tab4 i) (grownCap w9 (tab4 i).size 0 5)).size + 1))).drew).heap.size := by rw [← hgo]; simp
              obtain ⟨co, hco⟩ : ∃ x, grownCap w9 (tab4 i).size 0 5 = x := ⟨_, rfl⟩
              rw [hco] at hS hro hgo2 hkB hk4 hg42 hrk hgk2 ⊢
              obtain ⟨wD, hwD⟩ : ∃ x, (w9.alloc (.cells (bytesRow (tab4 i) co) 5 ((bytesRow (tab4 i) co).size, (bytesRow (tab4 i) co).size + 1))).drew = x := ⟨_, rfl⟩
              rw [hwD] at hS hro hgo2 hkB hk4 hg42 hrk hgk2 ⊢
              clear hwD hco hb7 hgo
              go_simp
              refine hK.out _ _ (Or.inr hS.out) (fun _ => ?_)
              clear hK K
              refine AnyT.take (i := 18) (v := .agg #[.int .i64 (x : Int), .int .i64 (y : Int), .slice (some ⟨gk, 0, none⟩) lk.length ck, .slice Av lv.length cv, .slice (some ⟨go, 0, none⟩) (sb (tab4 i)).length co]) rfl (by kernel_rfl) (by kernel_rfl) (by kernel_rfl) (by kernel_rfl) (fun _ _ _ h => h) (Or.inl ⟨by kernel_rfl, fun w _ => by go_simp; simp [sb_len]⟩) hS.out ?_
              refine AnyT.ready (rs := [20]) (by kernel_rfl) (by simp) ?_
              refine AllT.cons rfl (fun K hK => ?_) AllT.nil
              obtain ⟨c0, c1, c2, c3, c4⟩ := five hk4
              have f0 := hk4.frozen 0
              have f1 := hk4.frozen 1
              have f2 := hk4.frozen 2
              have f3 := hk4.frozen 3
              have f4 := hk4.frozen 4
              go_simp
              refine hK.out _ _ (Or.inl rfl) (fun _ => ?_)
              clear hK K
              refine AnyT.done (by kernel_rfl) ?_ _
              go_wp2_with fail
              go_meet
              have hk5 := ((((hk4.set_ 0 (.int .i64 (x : Int))).set_ 1 (.int .i64 (y : Int))).set_ 2 (.slice (some ⟨gk, 0, none⟩) lk.length ck)).set_ 3 (.slice Av lv.length cv)).set_ 4 (.slice (some ⟨go, 0, none⟩) (sb (tab4 i)).length co)
              have hs : (sb (tab4 i)).length = (tab4 i).size := sb_len _
              rw [hs] at hro hk5
              refine ⟨g4, gk, go, ck, co, rfl, Lib.hid ⟨by rw [hs]; exact hk5, hz4, hzk, hzo, hnk, hno, ((((hrk.set_ne hnk).set_ne hnk).set_ne hnk).set_ne hnk).set_ne hnk, by rw [hs]; exact ((((hro.set_ne hno).set_ne hno).set_ne hno).set_ne hno).set_ne hno, ((((hS.out.setCell (p := ⟨g4, 0, none⟩) hz4 _).setCell (p := ⟨g4, 1, none⟩) hz4 _).setCell (p := ⟨g4, 2, none⟩) hz4 _).setCell (p := ⟨g4, 3, none⟩) hz4 _).setCell (p := ⟨g4, 4, none⟩) hz4 _⟩, Lib.hid ⟨hlk, hlk9, sb_lt _, by rw [sb_len]; exact tab4_size i hi4⟩⟩
            · go_simp
              obtain ⟨go, hgo⟩ : ∃ g, wC.heap.size = g := ⟨_, rfl⟩
              rw [hgo]
              have hzo : wz.heap.size ≤ go := by have := hS.out.size; omega
              have hno : g4 ≠ go := by omega
              have hb7 : Below wC.heap.size wC ((wC.alloc (.cells (bytesRow (tab4 i) (grownCap wC (tab4 i).size 0 5)) 5 ((bytesRow (tab4 i) (grownCap wC (tab4 i).size 0 5)).size, (bytesRow (tab4 i) (grownCap wC (tab4 i).size 0 5)).size + 1))).drew) := ((Below.refl _ _).alloc (Nat.le_refl _) _).drew
              have hS := Lib.hid (hS.out.trans (hb7.mono hS.out.size))
              have hkB := hkB.below hb7
              have hk4 := hk4.below hb7
              have hg42 := Nat.lt_of_lt_of_le hg42 hb7.size
              have hro : Rd8 ((wC.alloc (.cells (bytesRow (tab4 i) (grownCap wC (tab4 i).size 0 5)) 5 ((bytesRow (tab4 i) (grownCap wC (tab4 i).size 0 5)).size, (bytesRow (tab4 i) (grownCap wC (tab4 i).size 0 5)).size + 1))).drew) ((wC.alloc (.cells (bytesRow (tab4 i) (grownCap wC (tab4 i).size 0 5)) 5 ((bytesRow (tab4 i) (grownCap wC (tab4 i).size 0 5)).size, (bytesRow (tab4 i) (grownCap wC (tab4 i).size 0 5)).size + 1))).drew).heap.size (some ⟨go, 0, none⟩) (sb (tab4 i)).length (bv (sb (tab4 i))) := Rd8.of_stringAt _ _ _ _ hgo
              have hgo2 : go < ((wC.alloc (.cells (bytesRow (tab4 i) (grownCap wC (tab4 i).size 0 5)) 5 ((bytesRow (tab4 i) (grownCap wC (tab4 i).size 0 5)).size, (bytesRow (tab4 i) (grownCap wC (tab4 i).size 0 5)).size + 1))).drew).heap.size := by rw [← hgo]; simp
              obtain ⟨co, hco⟩ : ∃ x, grownCap wC (tab4 i).size 0 5 = x := ⟨_, rfl⟩
              rw [hco] at hS hro hgo2 hkB hk4 hg42 ⊢
              obtain ⟨wD, hwD⟩ : ∃ x, (wC.alloc (.cells (bytesRow (tab4 i) co) 5 ((bytesRow (tab4 i) co).size, (bytesRow (tab4 i) co).size + 1))).drew = x := ⟨_, rfl⟩
              rw [hwD] at hS hro hgo2 hkB hk4 hg42 ⊢
              clear hwD hco hb7 hgo
              go_simp
              refine hK.out _ _ (Or.inr hS.out) (fun _ => ?_)
              clear hK K
              refine AnyT.ready (rs := [9]) (by kernel_rfl) (by simp) ?_
              refine AllT.cons rfl (fun K hK => ?_) AllT.nil
              go_simp
              have hSz := hS.out.size
              refine (HKD.out _).mono ?_
              have hg4o := hg42
              rintro e w9 ⟨gk, ck, rfl, hrk, hlk, hlk9, hgk1, hgk2, hb9⟩
              have hS := Lib.hid (hS.out.trans (hb9.mono hS.out.size))
              have hk4 := hk4.below hb9
              have hg42 := Nat.lt_of_lt_of_le hg42 hb9.size
              have hro := (hro.below hb9).fit
              have hgo2 := Nat.lt_of_lt_of_le hgo2 hb9.size
              have hzk : wz.heap.size ≤ gk := by omega
              have hnk : g4 ≠ gk := by omega
              go_simp
              refine hK.out _ _ (Or.inr hS.out) (fun _ => ?_)
              clear hK K
              refine AnyT.take (i := 18) (v := .agg #[.int .i64 (x : Int), .int .i64 (y : Int), .slice (some ⟨gk, 0, none⟩) lk.length ck, .slice Av lv.length cv, .slice (some ⟨go, 0, none⟩) (sb (tab4 i)).length co]) rfl (by kernel_rfl) (by kernel_rfl) (by kernel_rfl) (by kernel_rfl) (fun _ _ _ h => h) (Or.inl ⟨by kernel_rfl, fun w _ => by go_simp; simp [sb_len]⟩) hS.out ?_
              refine AnyT.ready (rs := [20]) (by kernel_rfl) (by simp) ?_
              refine AllT.cons rfl (fun K hK => ?_) AllT.nil
              obtain ⟨c0, c1, c2, c3, c4⟩ := five hk4
              have f0 := hk4.frozen 0
              have f1 := hk4.frozen 1
              have f2 := hk4.frozen 2
              have f3 := hk4.frozen 3
              have f4 := hk4.frozen 4
              go_simp
              refine hK.out _ _ (Or.inl rfl) (fun _ => ?_)
              clear hK K
              refine AnyT.done (by kernel_rfl) ?_ _
              go_wp2_with fail
              go_meet
              have hk5 := ((((hk4.set_ 0 (.int .i64 (x : Int))).set_ 1 (.int .i64 (y : Int))).set_ 2 (.slice (some ⟨gk, 0, none⟩) lk.length ck)).set_ 3 (.slice Av lv.length cv)).set_ 4 (.slice (some ⟨go, 0, none⟩) (sb (tab4 i)).length co)
              have hs : (sb (tab4 i)).length = (tab4 i).size := sb_len _
              rw [hs] at hro hk5
              refine ⟨g4, gk, go, ck, co, rfl, Lib.hid ⟨by rw [hs]; exact hk5, hz4, hzk, hzo, hnk, hno, ((((hrk.set_ne hnk).set_ne hnk).set_ne hnk).set_ne hnk).set_ne hnk, by rw [hs]; exact ((((hro.set_ne hno).set_ne hno).set_ne hno).set_ne hno).set_ne hno, ((((hS.out.setCell (p := ⟨g4, 0, none⟩) hz4 _).setCell (p := ⟨g4, 1, none⟩) hz4 _).setCell (p := ⟨g4, 2, none⟩) hz4 _).setCell (p := ⟨g4, 3, none⟩) hz4 _).setCell (p := ⟨g4, 4, none⟩) hz4 _⟩, Lib.hid ⟨hlk, hlk9, sb_lt _, by rw [sb_len]; exact tab4_size i hi4⟩⟩
        · go_simp
          obtain ⟨g4, hg4⟩ : ∃ g, wB.heap.size = g := ⟨_, rfl⟩
          rw [hg4]
          have hz4 : wz.heap.size ≤ g4 := by have := hS.out.size; omega
          have hb4 : Below wB.heap.size wB (wB.alloc (.cells #[.int .i64 0, .int .i64 0, .slice none 0 0, .slice none 0 0, .slice none 0 0] 27)) := (Below.refl _ _).alloc (Nat.le_refl _) _
          have hS := Lib.hid (hS.out.trans (hb4.mono hS.out.size))
          have hkB := hkB.below hb4
          have hk4 : Blk (wB.alloc (.cells #[.int .i64 0, .int .i64 0, .slice none 0 0, .slice none 0 0, .slice none 0 0] 27)) g4 27 #[.int .i64 0, .int .i64 0, .slice none 0 0, .slice none 0 0, .slice none 0 0] := by rw [← hg4]; exact Blk.new _ _ _
          have hg42 := hk4.lt
          obtain ⟨wC, hwC⟩ : ∃ x, (wB.alloc (.cells #[.int .i64 0, .int .i64 0, .slice none 0 0, .slice none 0 0, .slice none 0 0] 27)) = x := ⟨_, rfl⟩
          rw [hwC] at hS hk4 hg42 hkB ⊢
          clear hwC hb4 hg4
          go_simp
          refine hK.out _ _ (Or.inr hS.out) (fun _ => ?_)
          clear hK K
          refine AnyT.ready (rs := [9, 16]) (by kernel_rfl) (by simp) ?_
          refine AllT.cons rfl (fun K hK => ?_) (AllT.cons rfl (fun K hK => ?_) AllT.nil)
          · go_simp
            have hSz := hS.out.size
            refine (HKD.out _).mono ?_
            have hg4o := hg42
            rintro e w9 ⟨gk, ck, rfl, hrk, hlk, hlk9, hgk1, hgk2, hb9⟩
            have hS := Lib.hid (hS.out.trans (hb9.mono hS.out.size))
            have hkB := hkB.below hb9
            have hk4 := hk4.below hb9
            have hg42 := Nat.lt_of_lt_of_le hg42 hb9.size
            have hzk : wz.heap.size ≤ gk := by omega
            have hnk : g4 ≠ gk := by omega
            go_simp
            refine hK.out _ _ (Or.inr hS.out) (fun _ => ?_)
            clear hK K
            refine AnyT.ready (rs := [16]) (by kernel_rfl) (by simp) ?_
            refine AllT.cons rfl (fun K hK => ?_) AllT.nil
            have hcB : w9.cell? ⟨gB, i, none⟩ = some (.string (tab4 i)) := by rw [hkB.cell]; have hl : i < (#[Value.string ⟨#[]⟩, .string ⟨#[97]⟩, .string ⟨#[98]⟩, .string ⟨#[97, 98]⟩] : Array Value).size := hi4; rw [Array.getElem?_eq_getElem hl]; congr 1; exact tab4_at i hi4
            go_simp
            refine hK.out _ _ (Or.inr hS.out) (fun _ => ?_)
            clear hK K
            refine AnyT.ready (rs := [17]) (by kernel_rfl) (by simp) ?_
            refine AllT.cons rfl (fun K hK => ?_) AllT.nil
            go_simp
            obtain ⟨go, hgo⟩ : ∃ g, w9.heap.size = g := ⟨_, rfl⟩
            rw [hgo]
            have hzo : wz.heap.size ≤ go := by have := hS.out.size; omega
            have hno : g4 ≠ go := by omega
            have hb7 : Below w9.heap.size w9 ((w9.alloc (.cells (bytesRow (tab4 i) (grownCap w9 (tab4 i).size 0 5)) 5 ((bytesRow (tab4 i) (grownCap w9 (tab4 i).size 0 5)).size, (bytesRow (tab4 i) (grownCap w9 (tab4 i).size 0 5)).size + 1))).drew) := ((Below.refl _ _).alloc (Nat.le_refl _) _).drew
            have hS := Lib.hid (hS.out.trans (hb7.mono hS.out.size))
            have hkB := hkB.below hb7
            have hk4 := hk4.below hb7
            have hg42 := Nat.lt_of_lt_of_le hg42 hb7.size
            have hrk := (hrk.below hb7).fit
            have hgk2 := Nat.lt_of_lt_of_le hgk2 hb7.size
            have hro : Rd8 ((w9.alloc (.cells (bytesRow (tab4 i) (grownCap w9 (tab4 i).size 0 5)) 5 ((bytesRow (tab4 i) (grownCap w9 (tab4 i).size 0 5)).size, (bytesRow (tab4 i) (grownCap w9 (tab4 i).size 0 5)).size + 1))).drew) ((w9.alloc (.cells (bytesRow (tab4 i) (grownCap w9 (tab4 i).size 0 5)) 5 ((bytesRow (tab4 i) (grownCap w9 (tab4 i).size 0 5)).size, (bytesRow (tab4 i) (grownCap w9 (tab4 i).size 0 5)).size + 1))).drew).heap.size (some ⟨go, 0, none⟩) (sb (tab4 i)).length (bv (sb (tab4 i))) := Rd8.of_stringAt _ _ _ _ hgo
            have hgo2 : go < ((w9.alloc (.cells (bytesRow (tab4 i) (grownCap w9 (tab4 i).size 0 5)) 5 ((bytesRow (tab4 i) (grownCap w9 (tab4 i).size 0 5)).size, (bytesRow (tab4 i) (grownCap w9 (tab4 i).size 0 5)).size + 1))).drew).heap.size := by rw [← hgo]; simp
            obtain ⟨co, hco⟩ : ∃ x, grownCap w9 (tab4 i).size 0 5 = x := ⟨_, rfl⟩
            rw [hco] at hS hro hgo2 hkB hk4 hg42 hrk hgk2 ⊢
            obtain ⟨wD, hwD⟩ : ∃ x, (w9.alloc (.cells (bytesRow (tab4 i) co) 5 ((bytesRow (tab4 i) co).size, (bytesRow (tab4 i) co).size + 1))).drew = x := ⟨_, rfl⟩
            rw [hwD] at hS hro hgo2 hkB hk4 hg42 hrk hgk2 ⊢
            clear hwD hco hb7 hgo
            go_simp
            refine hK.out _ _ (Or.inr hS.out) (fun _ => ?_)
            clear hK K
            refine AnyT.take (i := 18) (v := .agg #[.int .i64 (x : Int), .int .i64 (y : Int), .slice (some ⟨gk, 0, none⟩) lk.length ck, .slice Av lv.length cv, .slice (some ⟨go, 0, none⟩) (sb (tab4 i)).length co]) rfl (by kernel_rfl) (by kernel_rfl) (by kernel_rfl) (by kernel_rfl) (fun _ _ _ h => h) (Or.inl ⟨by kernel_rfl, fun w _ => by go_simp; simp [sb_len]⟩) hS.out ?_
            refine AnyT.ready (rs := [20]) (by kernel_rfl) (by simp) ?_
            refine AllT.cons rfl (fun K hK => ?_) AllT.nil
            obtain ⟨c0, c1, c2, c3, c4⟩ := five hk4
            have f0 := hk4.frozen 0
            have f1 := hk4.frozen 1
            have f2 := hk4.frozen 2
            have f3 := hk4.frozen 3
            have f4 := hk4.frozen 4
            go_simp
            refine hK.out _ _ (Or.inl rfl) (fun _ => ?_)
            clear hK K
            refine AnyT.done (by kernel_rfl) ?_ _
            go_wp2_with fail
            go_meet
            have hk5 := ((((hk4.set_ 0 (.int .i64 (x : Int))).set_ 1 (.int .i64 (y : Int))).set_ 2 (.slice (some ⟨gk, 0, none⟩) lk.length ck)).set_ 3 (.slice Av lv.length cv)).set_ 4 (.slice (some ⟨go, 0, none⟩) (sb (tab4 i)).length co)
            have hs : (sb (tab4 i)).length = (tab4 i).size := sb_len _
            rw [hs] at hro hk5
            refine ⟨g4, gk, go, ck, co, rfl, Lib.hid ⟨by rw [hs]; exact hk5, hz4, hzk, hzo, hnk, hno, ((((hrk.set_ne hnk).set_ne hnk).set_ne hnk).set_ne hnk).set_ne hnk, by rw [hs]; exact ((((hro.set_ne hno).set_ne hno).set_ne hno).set_ne hno).set_ne hno, ((((hS.out.setCell (p := ⟨g4, 0, none⟩) hz4 _).setCell (p := ⟨g4, 1, none⟩) hz4 _).setCell (p := ⟨g4, 2, none⟩) hz4 _).setCell (p := ⟨g4, 3, none⟩) hz4 _).setCell (p := ⟨g4, 4, none⟩) hz4 _⟩, Lib.hid ⟨hlk, hlk9, sb_lt _, by rw [sb_len]; exact tab4_size i hi4⟩⟩
          · have hcB : wC.cell? ⟨gB, i, none⟩ = some (.string (tab4 i)) := by rw [hkB.cell]; have hl : i < (#[Value.string ⟨#[]⟩, .string ⟨#[97]⟩, .string ⟨#[98]⟩, .string ⟨#[97, 98]⟩] : Array Value).size := hi4; rw [Array.getElem?_eq_getElem hl]; congr 1; exact tab4_at i hi4
            go_simp
            refine hK.out _ _ (Or.inr hS.out) (fun _ => ?_)
            clear hK K
            refine AnyT.ready (rs := [9, 17]) (by kernel_rfl) (by simp) ?_
            refine AllT.cons rfl (fun K hK => ?_) (AllT.cons rfl (fun K hK => ?_) AllT.nil)
            · go_simp
              have hSz := hS.out.size
              refine (HKD.out _).mono ?_
              have hg4o := hg42
              rintro e w9 ⟨gk, ck, rfl, hrk, hlk, hlk9, hgk1, hgk2, hb9⟩
              have hS := Lib.hid (hS.out.trans (hb9.mono hS.out.size))
              have hkB := hkB.below hb9
              have hk4 := hk4.below hb9
              have hg42 := Nat.lt_of_lt_of_le hg42 hb9.size
              have hzk : wz.heap.size ≤ gk := by omega
              have hnk : g4 ≠ gk := by omega
              go_simp
              refine hK.out _ _ (Or.inr hS.out) (fun _ => ?_)
              clear hK K
              refine AnyT.ready (rs := [17]) (by kernel_rfl) (by simp) ?_
              refine AllT.cons rfl (fun K hK => ?_) AllT.nil
              go_simp
              obtain ⟨go, hgo⟩ : ∃ g, w9.heap.size = g := ⟨_, rfl⟩
              rw [hgo]
              have hzo : wz.heap.size ≤ go := by have := hS.out.size; omega
              have hno : g4 ≠ go := by omega
              have hb7 : Below w9.heap.size w9 ((w9.alloc (.cells (bytesRow (tab4 i) (grownCap w9 (tab4 i).size 0 5)) 5 ((bytesRow (tab4 i) (grownCap w9 (tab4 i).size 0 5)).size, (bytesRow (tab4 i) (grownCap w9 (tab4 i).size 0 5)).size + 1))).drew) := ((Below.refl _ _).alloc (Nat.le_refl _) _).drew
              have hS := Lib.hid (hS.out.trans (hb7.mono hS.out.size))
              have hkB := hkB.below hb7
              have hk4 := hk4.below hb7
              have hg42 := Nat.lt_of_lt_of_le hg42 hb7.size
              have hrk := (hrk.below hb7).fit
              have hgk2 := Nat.lt_of_lt_of_le hgk2 hb7.size
              have hro : Rd8 ((w9.alloc (.cells (bytesRow (tab4 i) (grownCap w9 (tab4 i).size 0 5)) 5 ((bytesRow (tab4 i) (grownCap w9 (tab4 i).size 0 5)).size, (bytesRow (tab4 i) (grownCap w9 (tab4 i).size 0 5)).size + 1))).drew) ((w9.alloc (.cells (bytesRow (tab4 i) (grownCap w9 (tab4 i).size 0 5)) 5 ((bytesRow (tab4 i) (grownCap w9 (tab4 i).size 0 5)).size, (bytesRow (tab4 i) (grownCap w9 (tab4 i).size 0 5)).size + 1))).drew).heap.size (some ⟨go, 0, none⟩) (sb (tab4 i)).length (bv (sb (tab4 i))) := Rd8.of_stringAt _ _ _ _ hgo
              have hgo2 : go < ((w9.alloc (.cells (bytesRow (tab4 i) (grownCap w9 (tab4 i).size 0 5)) 5 ((bytesRow (tab4 i) (grownCap w9 (tab4 i).size 0 5)).size, (bytesRow (tab4 i) (grownCap w9 (tab4 i).size 0 5)).size + 1))).drew).heap.size := by rw [← hgo]; simp
              obtain ⟨co, hco⟩ : ∃ x, grownCap w9 (tab4 i).size 0 5 = x := ⟨_, rfl⟩
              rw [hco] at hS hro hgo2 hkB hk4 hg42 hrk hgk2 ⊢
              obtain ⟨wD, hwD⟩ : ∃ x, (w9.alloc (.cells (bytesRow (tab4 i) co) 5 ((bytesRow (tab4 i) co).size, (bytesRow (tab4 i) co).size + 1))).drew = x := ⟨_, rfl⟩
              rw [hwD] at hS hro hgo2 hkB hk4 hg42 hrk hgk2 ⊢
              clear hwD hco hb7 hgo
              go_simp
              refine hK.out _ _ (Or.inr hS.out) (fun _ => ?_)
              clear hK K
              refine AnyT.take (i := 18) (v := .agg #[.int .i64 (x : Int), .int .i64 (y : Int), .slice (some ⟨gk, 0, none⟩) lk.length ck, .slice Av lv.length cv, .slice (some ⟨go, 0, none⟩) (sb (tab4 i)).length co]) rfl (by kernel_rfl) (by kernel_rfl) (by kernel_rfl) (by kernel_rfl) (fun _ _ _ h => h) (Or.inl ⟨by kernel_rfl, fun w _ => by go_simp; simp [sb_len]⟩) hS.out ?_
              refine AnyT.ready (rs := [20]) (by kernel_rfl) (by simp) ?_
              refine AllT.cons rfl (fun K hK => ?_) AllT.nil
              obtain ⟨c0, c1, c2, c3, c4⟩ := five hk4
              have f0 := hk4.frozen 0
              have f1 := hk4.frozen 1
              have f2 := hk4.frozen 2
              have f3 := hk4.frozen 3
              have f4 := hk4.frozen 4
              go_simp
              refine hK.out _ _ (Or.inl rfl) (fun _ => ?_)
              clear hK K
              refine AnyT.done (by kernel_rfl) ?_ _
              go_wp2_with fail
              go_meet
              have hk5 := ((((hk4.set_ 0 (.int .i64 (x : Int))).set_ 1 (.int .i64 (y : Int))).set_ 2 (.slice (some ⟨gk, 0, none⟩) lk.length ck)).set_ 3 (.slice Av lv.length cv)).set_ 4 (.slice (some ⟨go, 0, none⟩) (sb (tab4 i)).length co)
              have hs : (sb (tab4 i)).length = (tab4 i).size := sb_len _
              rw [hs] at hro hk5
              refine ⟨g4, gk, go, ck, co, rfl, Lib.hid ⟨by rw [hs]; exact hk5, hz4, hzk, hzo, hnk, hno, ((((hrk.set_ne hnk).set_ne hnk).set_ne hnk).set_ne hnk).set_ne hnk, by rw [hs]; exact ((((hro.set_ne hno).set_ne hno).set_ne hno).set_ne hno).set_ne hno, ((((hS.out.setCell (p := ⟨g4, 0, none⟩) hz4 _).setCell (p := ⟨g4, 1, none⟩) hz4 _).setCell (p := ⟨g4, 2, none⟩) hz4 _).setCell (p := ⟨g4, 3, none⟩) hz4 _).setCell (p := ⟨g4, 4, none⟩) hz4 _⟩, Lib.hid ⟨hlk, hlk9, sb_lt _, by rw [sb_len]; exact tab4_size i hi4⟩⟩
            · go_simp
              obtain ⟨go, hgo⟩ : ∃ g, wC.heap.size = g := ⟨_, rfl⟩
              rw [hgo]
              have hzo : wz.heap.size ≤ go := by have := hS.out.size; omega
              have hno : g4 ≠ go := by omega
              have hb7 : Below wC.heap.size wC ((wC.alloc (.cells (bytesRow (tab4 i) (grownCap wC (tab4 i).size 0 5)) 5 ((bytesRow (tab4 i) (grownCap wC (tab4 i).size 0 5)).size, (bytesRow (tab4 i) (grownCap wC (tab4 i).size 0 5)).size + 1))).drew) := ((Below.refl _ _).alloc (Nat.le_refl _) _).drew
              have hS := Lib.hid (hS.out.trans (hb7.mono hS.out.size))
              have hkB := hkB.below hb7
              have hk4 := hk4.below hb7
              have hg42 := Nat.lt_of_lt_of_le hg42 hb7.size
              have hro : Rd8 ((wC.alloc (.cells (bytesRow (tab4 i) (grownCap wC (tab4 i).size 0 5)) 5 ((bytesRow (tab4 i) (grownCap wC (tab4 i).size 0 5)).size, (bytesRow (tab4 i) (grownCap wC (tab4 i).size 0 5)).size + 1))).drew) ((wC.alloc (.cells (bytesRow (tab4 i) (grownCap wC (tab4 i).size 0 5)) 5 ((bytesRow (tab4 i) (grownCap wC (tab4 i).size 0 5)).size, (bytesRow (tab4 i) (grownCap wC (tab4 i).size 0 5)).size + 1))).drew).heap.size (some ⟨go, 0, none⟩) (sb (tab4 i)).length (bv (sb (tab4 i))) := Rd8.of_stringAt _ _ _ _ hgo
              have hgo2 : go < ((wC.alloc (.cells (bytesRow (tab4 i) (grownCap wC (tab4 i).size 0 5)) 5 ((bytesRow (tab4 i) (grownCap wC (tab4 i).size 0 5)).size, (bytesRow (tab4 i) (grownCap wC (tab4 i).size 0 5)).size + 1))).drew).heap.size := by rw [← hgo]; simp
              obtain ⟨co, hco⟩ : ∃ x, grownCap wC (tab4 i).size 0 5 = x := ⟨_, rfl⟩
              rw [hco] at hS hro hgo2 hkB hk4 hg42 ⊢
              obtain ⟨wD, hwD⟩ : ∃ x, (wC.alloc (.cells (bytesRow (tab4 i) co) 5 ((bytesRow (tab4 i) co).size, (bytesRow (tab4 i) co).size + 1))).drew = x := ⟨_, rfl⟩
              rw [hwD] at hS hro hgo2 hkB hk4 hg42 ⊢
              clear hwD hco hb7 hgo
              go_simp
              refine hK.out _ _ (Or.inr hS.out) (fun _ => ?_)
              clear hK K
              refine AnyT.ready (rs := [9]) (by kernel_rfl) (by simp) ?_
              refine AllT.cons rfl (fun K hK => ?_) AllT.nil
              go_simp
              have hSz := hS.out.size
              refine (HKD.out _).mono ?_
              have hg4o := hg42
              rintro e w9 ⟨gk, ck, rfl, hrk, hlk, hlk9, hgk1, hgk2, hb9⟩
              have hS := Lib.hid (hS.out.trans (hb9.mono hS.out.size))
              have hk4 := hk4.below hb9
              have hg42 := Nat.lt_of_lt_of_le hg42 hb9.size
              have hro := (hro.below hb9).fit
              have hgo2 := Nat.lt_of_lt_of_le hgo2 hb9.size
              have hzk : wz.heap.size ≤ gk := by omega
              have hnk : g4 ≠ gk := by omega
              go_simp
              refine hK.out _ _ (Or.inr hS.out) (fun _ => ?_)
              clear hK K
              refine AnyT.take (i := 18) (v := .agg #[.int .i64 (x : Int), .int .i64 (y : Int), .slice (some ⟨gk, 0, none⟩) lk.length ck, .slice Av lv.length cv, .slice (some ⟨go, 0, none⟩) (sb (tab4 i)).length co]) rfl (by kernel_rfl) (by kernel_rfl) (by kernel_rfl) (by kernel_rfl) (fun _ _ _ h => h) (Or.inl ⟨by kernel_rfl, fun w _ => by go_simp; simp [sb_len]⟩) hS.out ?_
              refine AnyT.ready (rs := [20]) (by kernel_rfl) (by simp) ?_
              refine AllT.cons rfl (fun K hK => ?_) AllT.nil
              obtain ⟨c0, c1, c2, c3, c4⟩ := five hk4
              have f0 := hk4.frozen 0
              have f1 := hk4.frozen 1
              have f2 := hk4.frozen 2
              have f3 := hk4.frozen 3
              have f4 := hk4.frozen 4
              go_simp
              refine hK.out _ _ (Or.inl rfl) (fun _ => ?_)
              clear hK K
              refine AnyT.done (by kernel_rfl) ?_ _
              go_wp2_with fail
              go_meet
              have hk5 := ((((hk4.set_ 0 (.int .i64 (x : Int))).set_ 1 (.int .i64 (y : Int))).set_ 2 (.slice (some ⟨gk, 0, none⟩) lk.length ck)).set_ 3 (.slice Av lv.length cv)).set_ 4 (.slice (some ⟨go, 0, none⟩) (sb (tab4 i)).length co)
              have hs : (sb (tab4 i)).length = (tab4 i).size := sb_len _
              rw [hs] at hro hk5
              refine ⟨g4, gk, go, ck, co, rfl, Lib.hid ⟨by rw [hs]; exact hk5, hz4, hzk, hzo, hnk, hno, ((((hrk.set_ne hnk).set_ne hnk).set_ne hnk).set_ne hnk).set_ne hnk, by rw [hs]; exact ((((hro.set_ne hno).set_ne hno).set_ne hno).set_ne hno).set_ne hno, ((((hS.out.setCell (p := ⟨g4, 0, none⟩) hz4 _).setCell (p := ⟨g4, 1, none⟩) hz4 _).setCell (p := ⟨g4, 2, none⟩) hz4 _).setCell (p := ⟨g4, 3, none⟩) hz4 _).setCell (p := ⟨g4, 4, none⟩) hz4 _⟩, Lib.hid ⟨hlk, hlk9, sb_lt _, by rw [sb_len]; exact tab4_size i hi4⟩⟩
      · go_simp
        obtain ⟨g4, hg4⟩ : ∃ g, w4.heap.size = g := ⟨_, rfl⟩
        rw [hg4]
        have hz4 : wz.heap.size ≤ g4 := by have := hS.out.size; omega
        have hb4 : Below w4.heap.size w4 (w4.alloc (.cells #[.int .i64 0, .int .i64 0, .slice none 0 0, .slice none 0 0, .slice none 0 0] 27)) := (Below.refl _ _).alloc (Nat.le_refl _) _
        have hS := Lib.hid (hS.out.trans (hb4.mono hS.out.size))
        have hk4 : Blk (w4.alloc (.cells #[.int .i64 0, .int .i64 0, .slice none 0 0, .slice none 0 0, .slice none 0 0] 27)) g4 27 #[.int .i64 0, .int .i64 0, .slice none 0 0, .slice none 0 0, .slice none 0 0] := by rw [← hg4]; exact Blk.new _ _ _
        have hg42 := hk4.lt
        obtain ⟨wC, hwC⟩ : ∃ x, (w4.alloc (.cells #[.int .i64 0, .int .i64 0, .slice none 0 0, .slice none 0 0, .slice none 0 0] 27)) = x := ⟨_, rfl⟩
        rw [hwC] at hS hk4 hg42 ⊢
        clear hwC hb4 hg4
        go_simp
        refine hK.out _ _ (Or.inr hS.out) (fun _ => ?_)
        clear hK K
        refine AnyT.ready (rs := [9, 11]) (by kernel_rfl) (by simp) ?_
        refine AllT.cons rfl (fun K hK => ?_) (AllT.cons rfl (fun K hK => ?_) AllT.nil)
        · go_simp
          have hSz := hS.out.size
          refine (HKD.out _).mono ?_
          have hg4o := hg42
          rintro e w9 ⟨gk, ck, rfl, hrk, hlk, hlk9, hgk1, hgk2, hb9⟩
          have hS := Lib.hid (hS.out.trans (hb9.mono hS.out.size))
          have hk4 := hk4.below hb9
          have hg42 := Nat.lt_of_lt_of_le hg42 hb9.size
          have hzk : wz.heap.size ≤ gk := by omega
          have hnk : g4 ≠ gk := by omega
          go_simp
          refine hK.out _ _ (Or.inr hS.out) (fun _ => ?_)
          clear hK K
          refine AnyT.ready (rs := [11]) (by kernel_rfl) (by simp) ?_
          refine AllT.cons rfl (fun K hK => ?_) AllT.nil
          go_simp
          obtain ⟨gB, hgB⟩ : ∃ g, w9.heap.size = g := ⟨_, rfl⟩
          rw [hgB]
          have hbB : Below w9.heap.size w9 (w9.alloc (.cells #[.string ⟨#[]⟩, .string ⟨#[97]⟩, .string ⟨#[98]⟩, .string ⟨#[97, 98]⟩] 9)) := (Below.refl _ _).alloc (Nat.le_refl _) _
          have hS := Lib.hid (hS.out.trans (hbB.mono hS.out.size))
          have hk4 := hk4.below hbB
          have hg42 := Nat.lt_of_lt_of_le hg42 hbB.size
          have hrk := (hrk.below hbB).fit
          have hgk2 := Nat.lt_of_lt_of_le hgk2 hbB.size
          have hkB : Blk (w9.alloc (.cells #[.string ⟨#[]⟩, .string ⟨#[97]⟩, .string ⟨#[98]⟩, .string ⟨#[97, 98]⟩] 9)) gB 9 #[.string ⟨#[]⟩, .string ⟨#[97]⟩, .string ⟨#[98]⟩, .string ⟨#[97, 98]⟩] := by rw [← hgB]; exact Blk.new _ _ _
          obtain ⟨wB, hwB⟩ : ∃ x, (w9.alloc (.cells #[.string ⟨#[]⟩, .string ⟨#[97]⟩, .string ⟨#[98]⟩, .string ⟨#[97, 98]⟩] 9)) = x := ⟨_, rfl⟩
          rw [hwB] at hS hkB hk4 hg42 hrk hgk2 ⊢
          clear hwB hbB hgB
          go_simp
          refine hK.out _ _ (Or.inr hS.out) (fun _ => ?_)
          clear hK K
          refine AnyT.take (i := 15) (v := .pointer (some ⟨gB, i, none⟩)) rfl (by kernel_rfl) (by kernel_rfl) (by kernel_rfl) (by kernel_rfl) (fun _ _ _ h => h) (Or.inl ⟨by kernel_rfl, fun w _ => by go_simp⟩) hS.out ?_
          refine AnyT.ready (rs := [16]) (by kernel_rfl) (by simp) ?_
          refine AllT.cons rfl (fun K hK => ?_) AllT.nil
          have hcB : wB.cell? ⟨gB, i, none⟩ = some (.string (tab4 i)) := by rw [hkB.cell]; have hl : i < (#[Value.string ⟨#[]⟩, .string ⟨#[97]⟩, .string ⟨#[98]⟩, .string ⟨#[97, 98]⟩] : Array Value).size := hi4; rw [Array.getElem?_eq_getElem hl]; congr 1; exact tab4_at i hi4
          go_simp
          refine hK.out _ _ (Or.inr hS.out) (fun _ => ?_)
          clear hK K
          refine AnyT.ready (rs := [17]) (by kernel_rfl) (by simp) ?_
          refine AllT.cons rfl (fun K hK => ?_) AllT.nil
          go_simp
          obtain ⟨go, hgo⟩ : ∃ g, wB.heap.size = g := ⟨_, rfl⟩
          rw [hgo]
          have hzo : wz.heap.size ≤ go := by have := hS.out.size; omega
          have hno : g4 ≠ go := by omega
          have hb7 : Below wB.heap.size wB ((wB.alloc (.cells (bytesRow (tab4 i) (grownCap wB (tab4 i).size 0 5)) 5 ((bytesRow (tab4 i) (grownCap wB (tab4 i).size 0 5)).size, (bytesRow (tab4 i) (grownCap wB (tab4 i).size 0 5)).size + 1))).drew) := ((Below.refl _ _).alloc (Nat.le_refl _) _).drew
          have hS := Lib.hid (hS.out.trans (hb7.mono hS.out.size))
          have hk4 := hk4.below hb7
          have hg42 := Nat.lt_of_lt_of_le hg42 hb7.size
          have hrk := (hrk.below hb7).fit
          have hgk2 := Nat.lt_of_lt_of_le hgk2 hb7.size
          have hkB := hkB.below hb7
          have hro : Rd8 ((wB.alloc (.cells (bytesRow (tab4 i) (grownCap wB (tab4 i).size 0 5)) 5 ((bytesRow (tab4 i) (grownCap wB (tab4 i).size 0 5)).size, (bytesRow (tab4 i) (grownCap wB (tab4 i).size 0 5)).size + 1))).drew) ((wB.alloc (.cells (bytesRow (tab4 i) (grownCap wB (tab4 i).size 0 5)) 5 ((bytesRow (tab4 i) (grownCap wB (tab4 i).size 0 5)).size, (bytesRow (tab4 i) (grownCap wB (tab4 i).size 0 5)).size + 1))).drew).heap.size (some ⟨go, 0, none⟩) (sb (tab4 i)).length (bv (sb (tab4 i))) := Rd8.of_stringAt _ _ _ _ hgo
          have hgo2 : go < ((wB.alloc (.cells (bytesRow (tab4 i) (grownCap wB (tab4 i).size 0 5)) 5 ((bytesRow (tab4 i) (grownCap wB (tab4 i).size 0 5)).size, (bytesRow (tab4 i) (grownCap wB (tab4 i).size 0 5)).size + 1))).drew).heap.size := by rw [← hgo]; simp
          obtain ⟨co, hco⟩ : ∃ x, grownCap wB (tab4 i).size 0 5 = x := ⟨_, rfl⟩
          rw [hco] at hS hro hgo2 hk4 hg42 hrk hgk2 hkB ⊢
          obtain ⟨wD, hwD⟩ : ∃ x, (wB.alloc (.cells (bytesRow (tab4 i) co) 5 ((bytesRow (tab4 i) co).size, (bytesRow (tab4 i) co).size + 1))).drew = x := ⟨_, rfl⟩
          rw [hwD] at hS hro hgo2 hk4 hg42 hrk hgk2 hkB ⊢
          clear hwD hco hb7 hgo
          go_simp
          refine hK.out _ _ (Or.inr hS.out) (fun _ => ?_)
          clear hK K
          refine AnyT.take (i := 18) (v := .agg #[.int .i64 (x : Int), .int .i64 (y : Int), .slice (some ⟨gk, 0, none⟩) lk.length ck, .slice Av lv.length cv, .slice (some ⟨go, 0, none⟩) (sb (tab4 i)).length co]) rfl (by kernel_rfl) (by kernel_rfl) (by kernel_rfl) (by kernel_rfl) (fun _ _ _ h => h) (Or.inl ⟨by kernel_rfl, fun w _ => by go_simp; simp [sb_len]⟩) hS.out ?_
          refine AnyT.ready (rs := [20]) (by kernel_rfl) (by simp) ?_
          refine AllT.cons rfl (fun K hK => ?_) AllT.nil
          obtain ⟨c0, c1, c2, c3, c4⟩ := five hk4
          have f0 := hk4.frozen 0
          have f1 := hk4.frozen 1
          have f2 := hk4.frozen 2
          have f3 := hk4.frozen 3
          have f4 := hk4.frozen 4
          go_simp
          refine hK.out _ _ (Or.inl rfl) (fun _ => ?_)
          clear hK K
          refine AnyT.done (by kernel_rfl) ?_ _
          go_wp2_with fail
          go_meet
          have hk5 := ((((hk4.set_ 0 (.int .i64 (x : Int))).set_ 1 (.int .i64 (y : Int))).set_ 2 (.slice (some ⟨gk, 0, none⟩) lk.length ck)).set_ 3 (.slice Av lv.length cv)).set_ 4 (.slice (some ⟨go, 0, none⟩) (sb (tab4 i)).length co)
          have hs : (sb (tab4 i)).length = (tab4 i).size := sb_len _
          rw [hs] at hro hk5
          refine ⟨g4, gk, go, ck, co, rfl, Lib.hid ⟨by rw [hs]; exact hk5, hz4, hzk, hzo, hnk, hno, ((((hrk.set_ne hnk).set_ne hnk).set_ne hnk).set_ne hnk).set_ne hnk, by rw [hs]; exact ((((hro.set_ne hno).set_ne hno).set_ne hno).set_ne hno).set_ne hno, ((((hS.out.setCell (p := ⟨g4, 0, none⟩) hz4 _).setCell (p := ⟨g4, 1, none⟩) hz4 _).setCell (p := ⟨g4, 2, none⟩) hz4 _).setCell (p := ⟨g4, 3, none⟩) hz4 _).setCell (p := ⟨g4, 4, none⟩) hz4 _⟩, Lib.hid ⟨hlk, hlk9, sb_lt _, by rw [sb_len]; exact tab4_size i hi4⟩⟩
        · go_simp
          obtain ⟨gB, hgB⟩ : ∃ g, wC.heap.size = g := ⟨_, rfl⟩
          rw [hgB]
          have hbB : Below wC.heap.size wC (wC.alloc (.cells #[.string ⟨#[]⟩, .string ⟨#[97]⟩, .string ⟨#[98]⟩, .string ⟨#[97, 98]⟩] 9)) := (Below.refl _ _).alloc (Nat.le_refl _) _
          have hS := Lib.hid (hS.out.trans (hbB.mono hS.out.size))
          have hk4 := hk4.below hbB
          have hg42 := Nat.lt_of_lt_of_le hg42 hbB.size
          have hkB : Blk (wC.alloc (.cells #[.string ⟨#[]⟩, .string ⟨#[97]⟩, .string ⟨#[98]⟩, .string ⟨#[97, 98]⟩] 9)) gB 9 #[.string ⟨#[]⟩, .string ⟨#[97]⟩, .string ⟨#[98]⟩, .string ⟨#[97, 98]⟩] := by rw [← hgB]; exact Blk.new _ _ _
          obtain ⟨wB, hwB⟩ : ∃ x, (wC.alloc (.cells #[.string ⟨#[]⟩, .string ⟨#[97]⟩, .string ⟨#[98]⟩, .string ⟨#[97, 98]⟩] 9)) = x := ⟨_, rfl⟩
          rw [hwB] at hS hkB hk4 hg42 ⊢
          clear hwB hbB hgB
          go_simp
          refine hK.out _ _ (Or.inr hS.out) (fun _ => ?_)
          clear hK K
          refine AnyT.take (i := 15) (v := .pointer (some ⟨gB, i, none⟩)) rfl (by kernel_rfl) (by kernel_rfl) (by kernel_rfl) (by kernel_rfl) (fun _ _ _ h => h) (Or.inl ⟨by kernel_rfl, fun w _ => by go_simp⟩) hS.out ?_
          refine AnyT.ready (rs := [9, 16]) (by kernel_rfl) (by simp) ?_
          refine AllT.cons rfl (fun K hK => ?_) (AllT.cons rfl (fun K hK => ?_) AllT.nil)
          · go_simp
            have hSz := hS.out.size
            refine (HKD.out _).mono ?_
            have hg4o := hg42
            rintro e w9 ⟨gk, ck, rfl, hrk, hlk, hlk9, hgk1, hgk2, hb9⟩
            have hS := Lib.hid (hS.out.trans (hb9.mono hS.out.size))
            have hk4 := hk4.below hb9
            have hg42 := Nat.lt_of_lt_of_le hg42 hb9.size
            have hkB := hkB.below hb9
            have hzk : wz.heap.size ≤ gk := by omega
            have hnk : g4 ≠ gk := by omega
            go_simp
            refine hK.out _ _ (Or.inr hS.out) (fun _ => ?_)
            clear hK K
            refine AnyT.ready (rs := [16]) (by kernel_rfl) (by simp) ?_
            refine AllT.cons rfl (fun K hK => ?_) AllT.nil
            have hcB : w9.cell? ⟨gB, i, none⟩ = some (.string (tab4 i)) := by rw [hkB.cell]; have hl : i < (#[Value.string ⟨#[]⟩, .string ⟨#[97]⟩, .string ⟨#[98]⟩, .string ⟨#[97, 98]⟩] : Array Value).size := hi4; rw [Array.getElem?_eq_getElem hl]; congr 1; exact tab4_at i hi4
            go_simp
            refine hK.out _ _ (Or.inr hS.out) (fun _ => ?_)
            clear hK K
            refine AnyT.ready (rs := [17]) (by kernel_rfl) (by simp) ?_
            refine AllT.cons rfl (fun K hK => ?_) AllT.nil
            go_simp
            obtain ⟨go, hgo⟩ : ∃ g, w9.heap.size = g := ⟨_, rfl⟩
            rw [hgo]
            have hzo : wz.heap.size ≤ go := by have := hS.out.size; omega
            have hno : g4 ≠ go := by omega
            have hb7 : Below w9.heap.size w9 ((w9.alloc (.cells (bytesRow (tab4 i) (grownCap w9 (tab4 i).size 0 5)) 5 ((bytesRow (tab4 i) (grownCap w9 (tab4 i).size 0 5)).size, (bytesRow (tab4 i) (grownCap w9 (tab4 i).size 0 5)).size + 1))).drew) := ((Below.refl _ _).alloc (Nat.le_refl _) _).drew
            have hS := Lib.hid (hS.out.trans (hb7.mono hS.out.size))
            have hk4 := hk4.below hb7
            have hg42 := Nat.lt_of_lt_of_le hg42 hb7.size
            have hkB := hkB.below hb7
            have hrk := (hrk.below hb7).fit
            have hgk2 := Nat.lt_of_lt_of_le hgk2 hb7.size
            have hro : Rd8 ((w9.alloc (.cells (bytesRow (tab4 i) (grownCap w9 (tab4 i).size 0 5)) 5 ((bytesRow (tab4 i) (grownCap w9 (tab4 i).size 0 5)).size, (bytesRow (tab4 i) (grownCap w9 (tab4 i).size 0 5)).size + 1))).drew) ((w9.alloc (.cells (bytesRow (tab4 i) (grownCap w9 (tab4 i).size 0 5)) 5 ((bytesRow (tab4 i) (grownCap w9 (tab4 i).size 0 5)).size, (bytesRow (tab4 i) (grownCap w9 (tab4 i).size 0 5)).size + 1))).drew).heap.size (some ⟨go, 0, none⟩) (sb (tab4 i)).length (bv (sb (tab4 i))) := Rd8.of_stringAt _ _ _ _ hgo
            have hgo2 : go < ((w9.alloc (.cells (bytesRow (tab4 i) (grownCap w9 (tab4 i).size 0 5)) 5 ((bytesRow (tab4 i) (grownCap w9 (tab4 i).size 0 5)).size, (bytesRow (tab4 i) (grownCap w9 (tab4 i).size 0 5)).size + 1))).drew).heap.size := by rw [← hgo]; simp
            obtain ⟨co, hco⟩ : ∃ x, grownCap w9 (tab4 i).size 0 5 = x := ⟨_, rfl⟩
            rw [hco] at hS hro hgo2 hk4 hg42 hkB hrk hgk2 ⊢
            obtain ⟨wD, hwD⟩ : ∃ x, (w9.alloc (.cells (bytesRow (tab4 i) co) 5 ((bytesRow (tab4 i) co).size, (bytesRow (tab4 i) co).size + 1))).drew = x := ⟨_, rfl⟩
            rw [hwD] at hS hro hgo2 hk4 hg42 hkB hrk hgk2 ⊢
            clear hwD hco hb7 hgo
            go_simp
            refine hK.out _ _ (Or.inr hS.out) (fun _ => ?_)
            clear hK K
            refine AnyT.take (i := 18) (v := .agg #[.int .i64 (x : Int), .int .i64 (y : Int), .slice (some ⟨gk, 0, none⟩) lk.length ck, .slice Av lv.length cv, .slice (some ⟨go, 0, none⟩) (sb (tab4 i)).length co]) rfl (by kernel_rfl) (by kernel_rfl) (by kernel_rfl) (by kernel_rfl) (fun _ _ _ h => h) (Or.inl ⟨by kernel_rfl, fun w _ => by go_simp; simp [sb_len]⟩) hS.out ?_
            refine AnyT.ready (rs := [20]) (by kernel_rfl) (by simp) ?_
            refine AllT.cons rfl (fun K hK => ?_) AllT.nil
            obtain ⟨c0, c1, c2, c3, c4⟩ := five hk4
            have f0 := hk4.frozen 0
            have f1 := hk4.frozen 1
            have f2 := hk4.frozen 2
            have f3 := hk4.frozen 3
            have f4 := hk4.frozen 4
            go_simp
            refine hK.out _ _ (Or.inl rfl) (fun _ => ?_)
            clear hK K
            refine AnyT.done (by kernel_rfl) ?_ _
            go_wp2_with fail
            go_meet
            have hk5 := ((((hk4.set_ 0 (.int .i64 (x : Int))).set_ 1 (.int .i64 (y : Int))).set_ 2 (.slice (some ⟨gk, 0, none⟩) lk.length ck)).set_ 3 (.slice Av lv.length cv)).set_ 4 (.slice (some ⟨go, 0, none⟩) (sb (tab4 i)).length co)
            have hs : (sb (tab4 i)).length = (tab4 i).size := sb_len _
            rw [hs] at hro hk5
            refine ⟨g4, gk, go, ck, co, rfl, Lib.hid ⟨by rw [hs]; exact hk5, hz4, hzk, hzo, hnk, hno, ((((hrk.set_ne hnk).set_ne hnk).set_ne hnk).set_ne hnk).set_ne hnk, by rw [hs]; exact ((((hro.set_ne hno).set_ne hno).set_ne hno).set_ne hno).set_ne hno, ((((hS.out.setCell (p := ⟨g4, 0, none⟩) hz4 _).setCell (p := ⟨g4, 1, none⟩) hz4 _).setCell (p := ⟨g4, 2, none⟩) hz4 _).setCell (p := ⟨g4, 3, none⟩) hz4 _).setCell (p := ⟨g4, 4, none⟩) hz4 _⟩, Lib.hid ⟨hlk, hlk9, sb_lt _, by rw [sb_len]; exact tab4_size i hi4⟩⟩
          · have hcB : wB.cell? ⟨gB, i, none⟩ = some (.string (tab4 i)) := by rw [hkB.cell]; have hl : i < (#[Value.string ⟨#[]⟩, .string ⟨#[97]⟩, .string ⟨#[98]⟩, .string ⟨#[97, 98]⟩] : Array Value).size := hi4; rw [Array.getElem?_eq_getElem hl]; congr 1; exact tab4_at i hi4
            go_simp
            refine hK.out _ _ (Or.inr hS.out) (fun _ => ?_)
            clear hK K
            refine AnyT.ready (rs := [9, 17]) (by kernel_rfl) (by simp) ?_
            refine AllT.cons rfl (fun K hK => ?_) (AllT.cons rfl (fun K hK => ?_) AllT.nil)
            · go_simp
              have hSz := hS.out.size
              refine (HKD.out _).mono ?_
              have hg4o := hg42
              rintro e w9 ⟨gk, ck, rfl, hrk, hlk, hlk9, hgk1, hgk2, hb9⟩
              have hS := Lib.hid (hS.out.trans (hb9.mono hS.out.size))
              have hk4 := hk4.below hb9
              have hg42 := Nat.lt_of_lt_of_le hg42 hb9.size
              have hkB := hkB.below hb9
              have hzk : wz.heap.size ≤ gk := by omega
              have hnk : g4 ≠ gk := by omega
              go_simp
              refine hK.out _ _ (Or.inr hS.out) (fun _ => ?_)
              clear hK K
              refine AnyT.ready (rs := [17]) (by kernel_rfl) (by simp) ?_
              refine AllT.cons rfl (fun K hK => ?_) AllT.nil
              go_simp
              obtain ⟨go, hgo⟩ : ∃ g, w9.heap.size = g := ⟨_, rfl⟩
              rw [hgo]
              have hzo : wz.heap.size ≤ go := by have := hS.out.size; omega
              have hno : g4 ≠ go := by omega
              have hb7 : Below w9.heap.size w9 ((w9.alloc (.cells (bytesRow (tab4 i) (grownCap w9 (tab4 i).size 0 5)) 5 ((bytesRow (tab4 i) (grownCap w9 (tab4 i).size 0 5)).size, (bytesRow (tab4 i) (grownCap w9 (tab4 i).size 0 5)).size + 1))).drew) := ((Below.refl _ _).alloc (Nat.le_refl _) _).drew
              have hS := Lib.hid (hS.out.trans (hb7.mono hS.out.size))
              have hk4 := hk4.below hb7
              have hg42 := Nat.lt_of_lt_of_le hg42 hb7.size
              have hkB := hkB.below hb7
              have hrk := (hrk.below hb7).fit
              have hgk2 := Nat.lt_of_lt_of_le hgk2 hb7.size
              have hro : Rd8 ((w9.alloc (.cells (bytesRow (tab4 i) (grownCap w9 (tab4 i).size 0 5)) 5 ((bytesRow (tab4 i) (grownCap w9 (tab4 i).size 0 5)).size, (bytesRow (tab4 i) (grownCap w9 (tab4 i).size 0 5)).size + 1))).drew) ((w9.alloc (.cells (bytesRow (tab4 i) (grownCap w9 (tab4 i).size 0 5)) 5 ((bytesRow (tab4 i) (grownCap w9 (tab4 i).size 0 5)).size, (bytesRow (tab4 i) (grownCap w9 (tab4 i).size 0 5)).size + 1))).drew).heap.size (some ⟨go, 0, none⟩) (sb (tab4 i)).length (bv (sb (tab4 i))) := Rd8.of_stringAt _ _ _ _ hgo
              have hgo2 : go < ((w9.alloc (.cells (bytesRow (tab4 i) (grownCap w9 (tab4 i).size 0 5)) 5 ((bytesRow (tab4 i) (grownCap w9 (tab4 i).size 0 5)).size, (bytesRow (tab4 i) (grownCap w9 (tab4 i).size 0 5)).size + 1))).drew).heap.size := by rw [← hgo]; simp
              obtain ⟨co, hco⟩ : ∃ x, grownCap w9 (tab4 i).size 0 5 = x := ⟨_, rfl⟩
              rw [hco] at hS hro hgo2 hk4 hg42 hkB hrk hgk2 ⊢
              obtain ⟨wD, hwD⟩ : ∃ x, (w9.alloc (.cells (bytesRow (tab4 i) co) 5 ((bytesRow (tab4 i) co).size, (bytesRow (tab4 i) co).size + 1))).drew = x := ⟨_, rfl⟩
              rw [hwD] at hS hro hgo2 hk4 hg42 hkB hrk hgk2 ⊢
              clear hwD hco hb7 hgo
              go_simp
              refine hK.out _ _ (Or.inr hS.out) (fun _ => ?_)
              clear hK K
              refine AnyT.take (i := 18) (v := .agg #[.int .i64 (x : Int), .int .i64 (y : Int), .slice (some ⟨gk, 0, none⟩) lk.length ck, .slice Av lv.length cv, .slice (some ⟨go, 0, none⟩) (sb (tab4 i)).length co]) rfl (by kernel_rfl) (by kernel_rfl) (by kernel_rfl) (by kernel_rfl) (fun _ _ _ h => h) (Or.inl ⟨by kernel_rfl, fun w _ => by go_simp; simp [sb_len]⟩) hS.out ?_
              refine AnyT.ready (rs := [20]) (by kernel_rfl) (by simp) ?_
              refine AllT.cons rfl (fun K hK => ?_) AllT.nil
              obtain ⟨c0, c1, c2, c3, c4⟩ := five hk4
              have f0 := hk4.frozen 0
              have f1 := hk4.frozen 1
              have f2 := hk4.frozen 2
              have f3 := hk4.frozen 3
              have f4 := hk4.frozen 4
              go_simp
              refine hK.out _ _ (Or.inl rfl) (fun _ => ?_)
              clear hK K
              refine AnyT.done (by kernel_rfl) ?_ _
              go_wp2_with fail
              go_meet
              have hk5 := ((((hk4.set_ 0 (.int .i64 (x : Int))).set_ 1 (.int .i64 (y : Int))).set_ 2 (.slice (some ⟨gk, 0, none⟩) lk.length ck)).set_ 3 (.slice Av lv.length cv)).set_ 4 (.slice (some ⟨go, 0, none⟩) (sb (tab4 i)).length co)
              have hs : (sb (tab4 i)).length = (tab4 i).size := sb_len _
              rw [hs] at hro hk5
              refine ⟨g4, gk, go, ck, co, rfl, Lib.hid ⟨by rw [hs]; exact hk5, hz4, hzk, hzo, hnk, hno, ((((hrk.set_ne hnk).set_ne hnk).set_ne hnk).set_ne hnk).set_ne hnk, by rw [hs]; exact ((((hro.set_ne hno).set_ne hno).set_ne hno).set_ne hno).set_ne hno, ((((hS.out.setCell (p := ⟨g4, 0, none⟩) hz4 _).setCell (p := ⟨g4, 1, none⟩) hz4 _).setCell (p := ⟨g4, 2, none⟩) hz4 _).setCell (p := ⟨g4, 3, none⟩) hz4 _).setCell (p := ⟨g4, 4, none⟩) hz4 _⟩, Lib.hid ⟨hlk, hlk9, sb_lt _, by rw [sb_len]; exact tab4_size i hi4⟩⟩
            · go_simp
              obtain ⟨go, hgo⟩ : ∃ g, wB.heap.size = g := ⟨_, rfl⟩
              rw [hgo]
              have hzo : wz.heap.size ≤ go := by have := hS.out.size; omega
              have hno : g4 ≠ go := by omega
              have hb7 : Below wB.heap.size wB ((wB.alloc (.cells (bytesRow (tab4 i) (grownCap wB (tab4 i).size 0 5)) 5 ((bytesRow (tab4 i) (grownCap wB (tab4 i).size 0 5)).size, (bytesRow (tab4 i) (grownCap wB (tab4 i).size 0 5)).size + 1))).drew) := ((Below.refl _ _).alloc (Nat.le_refl _) _).drew
              have hS := Lib.hid (hS.out.trans (hb7.mono hS.out.size))
              have hk4 := hk4.below hb7
              have hg42 := Nat.lt_of_lt_of_le hg42 hb7.size
              have hkB := hkB.below hb7
              have hro : Rd8 ((wB.alloc (.cells (bytesRow (tab4 i) (grownCap wB (tab4 i).size 0 5)) 5 ((bytesRow (tab4 i) (grownCap wB (tab4 i).size 0 5)).size, (bytesRow (tab4 i) (grownCap wB (tab4 i).size 0 5)).size + 1))).drew) ((wB.alloc (.cells (bytesRow (tab4 i) (grownCap wB (tab4 i).size 0 5)) 5 ((bytesRow (tab4 i) (grownCap wB (tab4 i).size 0 5)).size, (bytesRow (tab4 i) (grownCap wB (tab4 i).size 0 5)).size + 1))).drew).heap.size (some ⟨go, 0, none⟩) (sb (tab4 i)).length (bv (sb (tab4 i))) := Rd8.of_stringAt _ _ _ _ hgo
              have hgo2 : go < ((wB.alloc (.cells (bytesRow (tab4 i) (grownCap wB (tab4 i).size 0 5)) 5 ((bytesRow (tab4 i) (grownCap wB (tab4 i).size 0 5)).size, (bytesRow (tab4 i) (grownCap wB (tab4 i).size 0 5)).size + 1))).drew).heap.size := by rw [← hgo]; simp
              obtain ⟨co, hco⟩ : ∃ x, grownCap wB (tab4 i).size 0 5 = x := ⟨_, rfl⟩
              rw [hco] at hS hro hgo2 hk4 hg42 hkB ⊢
              obtain ⟨wD, hwD⟩ : ∃ x, (wB.alloc (.cells (bytesRow (tab4 i) co) 5 ((bytesRow (tab4 i) co).size, (bytesRow (tab4 i) co).size + 1))).drew = x := ⟨_, rfl⟩
              rw [hwD] at hS hro hgo2 hk4 hg42 hkB ⊢
              clear hwD hco hb7 hgo
              go_simp
              refine hK.out _ _ (Or.inr hS.out) (fun _ => ?_)
              clear hK K
              refine AnyT.ready (rs := [9]) (by kernel_rfl) (by simp) ?_
              refine AllT.cons rfl (fun K hK => ?_) AllT.nil
              go_simp
              have hSz := hS.out.size
              refine (HKD.out _).mono ?_
              have hg4o := hg42
              rintro e w9 ⟨gk, ck, rfl, hrk, hlk, hlk9, hgk1, hgk2, hb9⟩
              have hS := Lib.hid (hS.out.trans (hb9.mono hS.out.size))
              have hk4 := hk4.below hb9
              have hg42 := Nat.lt_of_lt_of_le hg42 hb9.size
              have hro := (hro.below hb9).fit
              have hgo2 := Nat.lt_of_lt_of_le hgo2 hb9.size
              have hzk : wz.heap.size ≤ gk := by omega
              have hnk : g4 ≠ gk := by omega
              go_simp
              refine hK.out _ _ (Or.inr hS.out) (fun _ => ?_)
              clear hK K
              refine AnyT.take (i := 18) (v := .agg #[.int .i64 (x : Int), .int .i64 (y : Int), .slice (some ⟨gk, 0, none⟩) lk.length ck, .slice Av lv.length cv, .slice (some ⟨go, 0, none⟩) (sb (tab4 i)).length co]) rfl (by kernel_rfl) (by kernel_rfl) (by kernel_rfl) (by kernel_rfl) (fun _ _ _ h => h) (Or.inl ⟨by kernel_rfl, fun w _ => by go_simp; simp [sb_len]⟩) hS.out ?_
              refine AnyT.ready (rs := [20]) (by kernel_rfl) (by simp) ?_
              refine AllT.cons rfl (fun K hK => ?_) AllT.nil
              obtain ⟨c0, c1, c2, c3, c4⟩ := five hk4
              have f0 := hk4.frozen 0
              have f1 := hk4.frozen 1
              have f2 := hk4.frozen 2
              have f3 := hk4.frozen 3
              have f4 := hk4.frozen 4
              go_simp
              refine hK.out _ _ (Or.inl rfl) (fun _ => ?_)
              clear hK K
              refine AnyT.done (by kernel_rfl) ?_ _
              go_wp2_with fail
              go_meet
              have hk5 := ((((hk4.set_ 0 (.int .i64 (x : Int))).set_ 1 (.int .i64 (y : Int))).set_ 2 (.slice (some ⟨gk, 0, none⟩) lk.length ck)).set_ 3 (.slice Av lv.length cv)).set_ 4 (.slice (some ⟨go, 0, none⟩) (sb (tab4 i)).length co)
              have hs : (sb (tab4 i)).length = (tab4 i).size := sb_len _
              rw [hs] at hro hk5
              refine ⟨g4, gk, go, ck, co, rfl, Lib.hid ⟨by rw [hs]; exact hk5, hz4, hzk, hzo, hnk, hno, ((((hrk.set_ne hnk).set_ne hnk).set_ne hnk).set_ne hnk).set_ne hnk, by rw [hs]; exact ((((hro.set_ne hno).set_ne hno).set_ne hno).set_ne hno).set_ne hno, ((((hS.out.setCell (p := ⟨g4, 0, none⟩) hz4 _).setCell (p := ⟨g4, 1, none⟩) hz4 _).setCell (p := ⟨g4, 2, none⟩) hz4 _).setCell (p := ⟨g4, 3, none⟩) hz4 _).setCell (p := ⟨g4, 4, none⟩) hz4 _⟩, Lib.hid ⟨hlk, hlk9, sb_lt _, by rw [sb_len]; exact tab4_size i hi4⟩⟩
    case rest =>
      obtain ⟨g, gk, go, ck, co, rfl, HC, HL⟩ := hcut
      obtain ⟨lo, hlo⟩ : ∃ l, sb (tab4 i) = l := ⟨_, rfl⟩
      obtain ⟨kd, hkd⟩ : ∃ l, (x : Int) = l := ⟨_, rfl⟩
      obtain ⟨wh, hwh⟩ : ∃ l, (y : Int) = l := ⟨_, rfl⟩
      rw [hlo, hkd, hwh] at HC
      rw [hlo] at HL
      have HLO := Lib.hid hlo
      have HKD0 := Lib.hid (HXN.out.trans hkd)
      have HWH := Lib.hid (HYN.out.trans hwh)
      clear hlo hkd hwh
      clear h4 hii hm hy hi hx hxw kc
      rename World => w5
      obtain ⟨p, hp, hp4, hpn⟩ : ∃ p : Nat, bits .and .i64 (n / 131072) 3 = (p : Int) ∧ p < 4 ∧ (n / 131072 % 4).toNat = p := by
        rw [and_3]; have h1 := Int.emod_nonneg (n / 131072) (show (4 : Int) ≠ 0 by omega); exact ⟨(n / 131072 % 4).toNat, by omega, by omega, rfl⟩
      have HPN := Lib.hid hpn
      clear hpn
      have hpi : (p : Int) < 4 := by omega
      have hpt := tabk_at p
      obtain ⟨z0, z1, z2, z3, z4⟩ := five HC.out.blk
      go_upto_region 3 with fail
      go_cut [38] from 31 to 38 (fun s38 wx => ∃ b : Bool, s38 = .bool b ∧ Hid (b = (kd == 0 || kd == 12)) ∧ wx = w5)
      case first =>
        by_cases h0 : kd = 0
        · have k0 : (kd == 0) = true := by simpa using h0
          clear h0
          go_wp2_with fail
          go_meet
          exact ⟨_, rfl, Lib.hid (by rw [k0]; rfl), rfl⟩
        · have k0 : (kd == 0) = false := by simpa using h0
          clear h0
          go_wp2_with fail
          go_meet
          exact ⟨_, rfl, Lib.hid (by rw [k0]; first | rfl | simp), rfl⟩
      case rest =>
      obtain ⟨b, rfl, HBB, hw5⟩ := hcut
      subst hw5
      rename World => w5
      go_upto_if 38 with fail
      go_cut [] from 39 to 45 (fun wx => ∃ kd', Hid (kd' = if b = true then tabk p else kd) ∧ Hid (CmdS8 wz wx g gk go ck co Av cv lk lv lo kd' wh))
      case first =>
        cases b with
        | false =>
          go_wp2_with fail
          go_meet
          exact ⟨_, Lib.hid (by simp), HC⟩
        | true =>
          have HA := Lib.hid (HC.out.below ((Below.refl _ _).alloc (Nat.le_refl _) (.cells #[.int .i64 1, .int .i64 2, .int .i64 4, .int .i64 9] 3)))
          obtain ⟨t0, t1, t2, t3, t4⟩ := five HA.out.blk
          have f0 := HA.out.blk.frozen 0
          go_wp2_with fail
          go_meet
          exact ⟨_, Lib.hid (by simp), Lib.hid (HA.out.set0 _)⟩
      case rest =>
        obtain ⟨kd', HKD1, HC2⟩ := hcut
        clear z0 z1 z2 z3 z4 hp hpi hpt HC
        rename World => w6
        obtain ⟨q, hq⟩ : ∃ q, bits .and .i64 (n / 524288) 31 = q := ⟨_, rfl⟩
        obtain ⟨r, hr⟩ : ∃ q, bits .and .i64 (n / 16777216) 31 = q := ⟨_, rfl⟩
        obtain ⟨u, hu⟩ : ∃ q, bits .and .i64 (n / 131072) 2047 = q := ⟨_, rfl⟩
        obtain ⟨v, hv⟩ : ∃ q, IntKind.i64.wrap (u - 20) = q := ⟨_, rfl⟩
        have HQN : Hid (n / 524288 % 32 = q) := Lib.hid (by rw [← hq, and_31])
        have HRN : Hid (n / 16777216 % 32 = r) := Lib.hid (by rw [← hr, and_31])
        have HVN : Hid (n / 131072 % 2048 - 20 = v) := Lib.hid (by
          have h1 : bits .and .i64 (n / 131072) 2047 = n / 131072 % 2048 := by simpa using and_mask (n / 131072) 11 (by omega)
          have h2 := Int.emod_nonneg (n / 131072) (show (2048 : Int) ≠ 0 by omega)
          have h3 := Int.emod_lt_of_pos (n / 131072) (show (0 : Int) < 2048 by omega)
          rw [← hv, ← hu, h1, IntWalk.i64_in _ (by omega)])
        go_upto_region 5 with fail
        go_cut [49] from 46 to 49 (fun s49 wx => ∃ b : Bool, s49 = .bool b ∧ Hid (b = (q == 0)) ∧ wx = w6)
        case first =>
          go_wp2_with fail
          go_meet
          exact ⟨_, rfl, Lib.hid (by first | rfl | simp), rfl⟩
        case rest =>
        obtain ⟨b1, rfl, HB1, hw6⟩ := hcut
        subst hw6
        rename World => w6
        go_upto_if 49 with fail
        go_cut [] from 50 to 58 (fun wx => ∃ kd2 wh2, Hid (kd2 = (if b1 = true then r else kd') ∧ wh2 = (if b1 = true then v else wh)) ∧ Hid (CmdS8 wz wx g gk go ck co Av cv lk lv lo kd2 wh2))
        case first =>
          cases b1 with
          | false =>
            go_wp2_with fail
            go_meet
            exact ⟨_, _, Lib.hid (by simp), HC2⟩
          | true =>
            obtain ⟨z0, z1, z2, z3, z4⟩ := five HC2.out.blk
            have f0 := HC2.out.blk.frozen 0
            obtain ⟨t0, t1, t2, t3, t4⟩ := five (HC2.out.set0 r).blk
            have f1 := (HC2.out.set0 r).blk.frozen 1
            go_wp2_with fail
            go_meet
            exact ⟨_, _, Lib.hid (by simp), Lib.hid ((HC2.out.set0 _).set1 _)⟩
        case rest =>
          obtain ⟨k3, wh3, H33, HC3⟩ := hcut
          clear hq hr hu hv HC2
          rename World => w7
          have hb0 := HX.out.1.below HC3.out.bel
          have hlt := HX.out.1.lt
          have hzg := HC3.out.zg
          obtain ⟨z0, z1, z2, z3, z4⟩ := five HC3.out.blk
          obtain ⟨t0, t1, t2, t3, t4⟩ := five hb0
          have f0 := hb0.frozen 0
          have f1 := hb0.frozen 1
          have f2 := hb0.frozen 2
          have f3 := hb0.frozen 3
          have f4 := hb0.frozen 4
          have HB0 := Lib.hid hb0
          clear hb0
          go_wp2_with fail
          have k5 := ((((HB0.out.set_ 0 (.int .i64 k3)).set_ 1 (.int .i64 wh3)).set_ 2 (.slice (some ⟨gk, 0, none⟩) lk.length ck)).set_ 3 (.slice Av lv.length cv)).set_ 4 (.slice (some ⟨go, 0, none⟩) lo.length co)
          refine bodyPost_ret (results_cell_row rfl _ _ _ _ _ _ _ rfl k5 Try.underlying27 rfl (by kernel_rfl)) rfl ?_
          have n1 : w.heap.size ≠ gk := by have := HC3.out.zk; omega
          have n2 : w.heap.size ≠ go := by have := HC3.out.zo; omega
          have n3 : w.heap.size ≠ gv := by have := HV.out.2; omega
          have rv := (HV.out.1.below HC3.out.bel)
          have hbw : Below w.heap.size w w7 := HX.out.2.trans (HC3.out.bel.mono HX.out.2.size)
          have hl := Nat.le_refl w.heap.size
          have hcm : cmdOf n = ⟨k3, wh3, lk, lv, lo⟩ := by
            unfold cmdOf
            rw [HLK.out, HJN.out, HIN.out, HPN.out, HLO.out, ← HLV.out, HKD0.out, HWH.out, HQN.out, HRN.out, HVN.out, H33.out.1, H33.out.2, HKD1.out, HBB.out, HB1.out]
            simp only [beq_iff_eq, Bool.or_eq_true]
          rw [hcm]
          refine ⟨⟨some ⟨gk, 0, none⟩, ck, Av, cv, some ⟨go, 0, none⟩, co⟩, rfl, ⟨⟨by have := HL.out.2.1; show lk.length ≤ 100; omega, HL.out.1⟩, ⟨by have := HVB.out.2; show lv.length ≤ 100; omega, HVB.out.1⟩, ⟨by have := HL.out.2.2.2; show lo.length ≤ 100; omega, HL.out.2.2.1⟩⟩, ⟨?_, ?_, ?_, gk, gv, go, rfl, HAV.out.symm, rfl, by have := HC3.out.zk; have := HX.out.2.size; omega, by have := HV.out.2; omega, by have := HC3.out.zo; have := HX.out.2.size; omega⟩, ?_⟩
          · exact ((((HC3.out.rk.set_ne n1).set_ne n1).set_ne n1).set_ne n1).set_ne n1
          · rw [HAV.out] at rv
            have rv := rv.fit
            rw [← HAV.out] at rv ⊢
            exact ((((rv.set_ne n3).set_ne n3).set_ne n3).set_ne n3).set_ne n3
          · exact ((((HC3.out.ro.set_ne n2).set_ne n2).set_ne n2).set_ne n2).set_ne n2
          · exact ((((hbw.setCell (p := ⟨w.heap.size, 0, none⟩) hl _).setCell (p := ⟨w.heap.size, 1, none⟩) hl _).setCell (p := ⟨w.heap.size, 2, none⟩) hl _).setCell (p := ⟨w.heap.size, 3, none⟩) hl _).setCell (p := ⟨w.heap.size, 4, none⟩) hl _
end Go.Proofs.Ytneehnoolhadbaa

