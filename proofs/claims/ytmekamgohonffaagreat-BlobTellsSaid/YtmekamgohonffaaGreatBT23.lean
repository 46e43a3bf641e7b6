/- MapsC0 KeysF ObjCmd -/
import Derived.Test.YtmekamgohonffaaGreatBT00
import Derived.Test.YtmekamgohonffaaGreatBT02
import Derived.Test.YtmekamgohonffaaGreatBT05
import Derived.Test.YtmekamgohonffaaGreatBT08
import Derived.Test.YtmekamgohonffaaGreatBT10
import Derived.Test.YtmekamgohonffaaGreatBT13
import Derived.Test.YtmekamgohonffaaGreatBT22
import Derived.Laws.DeepStrings4
import Derived.Deep.CutBlock
import Derived.Deep.RegionHeld3
namespace Go.Proofs.YtmekamgohonffaaGreat
open Go.RowKit
set_option linter.unusedVariables false
theorem sb_len (s : ByteArray) : (sb s).length = s.size := by unfold sb; rw [List.length_map, Array.length_toList]; rfl
theorem Rd.of_stringAt (w : World) (s : ByteArray) (cap : Nat) (t : TypeId) (mark : Nat × Nat) {g : Nat} (hg : w.heap.size = g) : Rd (w.alloc (.cells (bytesRow s cap) t mark)) (w.alloc (.cells (bytesRow s cap) t mark)).heap.size (some ⟨g, 0, none⟩) (sb s).length (bv (sb s)) := by
 subst hg; rw [sb_len]; exact (Rd.of_string w s cap t mark).fit
def GotKF (w : World) (e : Ending) (w' : World) : Prop := ∃ (k : List Nat) (g c : Nat), e = .returned (.slice (some ⟨g, 0, none⟩) k.length c) /\ Rd w' w'.heap.size (some ⟨g, 0, none⟩) k.length (bv k) /\ (∀ x ∈ k, x < 256) /\ k.length <= 9 /\ w.heap.size <= g /\ g < w'.heap.size /\ Below w.heap.size w w'
theorem gotKF_of {w w1 : World} (s : ByteArray) (cap : Nat) (t : TypeId) (mark : Nat × Nat) (hs : s.size <= 9) (hB : Below w.heap.size w w1) {g : Nat} (hg : w1.heap.size = g) : GotKF w (.returned (.slice (some ⟨g, 0, none⟩) s.size cap)) (w1.alloc (.cells (bytesRow s cap) t mark)) := by
 subst hg
 have h := (Rd.of_string w1 s cap t mark).fit
 refine ⟨sb s, w1.heap.size, cap, by rw [sb_len], by rw [sb_len]; exact h, sb_lt s, by rw [sb_len]; exact hs, hB.size, by simp, hB.alloc hB.size _⟩
set_option maxHeartbeats 1000000 in
set_option maxRecDepth 100000 in
theorem keysF_any (n : Int) (w : World) : Calls Tryz.prog 88 #[.int .i64 n] w (GotKF w) := by
 obtain ⟨j, hj, hj16⟩ : ∃ j : Nat, bits .and .i64 n 15 = (j : Int) /\ j < 16 := by
  rw [and_15]
  have h1 := Int.emod_nonneg n (show (16 : Int) ≠ 0 by omega)
  exact ⟨(n % 16).toNat, by omega, by omega⟩
 have kc := fun (w : World) (s : ByteArray) => run_bytes_of_string (P := Tryz.prog) w 9 23 5 s Tryz.underlying9 Tryz.underlying23 Tryz.underlying5
 have hji : (j : Int) < 16 := by omega
 have HJ := hD (show j = 0 \/ j = 1 \/ j = 2 \/ j = 3 \/ j = 4 \/ j = 5 \/ j = 6 \/ j = 7 \/ j = 8 \/ j = 9 \/ j = 10 \/ j = 11 \/ j = 12 \/ j = 13 \/ j = 14 \/ j = 15 by omega)
 clear hji
 rcases HJ.out with rfl | rfl | rfl | rfl | rfl | rfl | rfl | rfl | rfl | rfl | rfl | rfl | rfl | rfl | rfl | rfl
 all_goals clear HJ
 all_goals go_enter Tryz.func88, Tryz.ntmps88
 all_goals go_wp2
 all_goals go_ret
 · exact gotKF_of (⟨#[]⟩ : ByteArray) _ _ _ (by decide) ((Below.refl _ _).alloc lR _).drew (by simp)
 · exact gotKF_of (⟨#[97]⟩ : ByteArray) _ _ _ (by decide) ((Below.refl _ _).alloc lR _).drew (by simp)
 · exact gotKF_of (⟨#[98]⟩ : ByteArray) _ _ _ (by decide) ((Below.refl _ _).alloc lR _).drew (by simp)
 · exact gotKF_of (⟨#[99]⟩ : ByteArray) _ _ _ (by decide) ((Below.refl _ _).alloc lR _).drew (by simp)
 · exact gotKF_of (⟨#[97, 98]⟩ : ByteArray) _ _ _ (by decide) ((Below.refl _ _).alloc lR _).drew (by simp)
 · exact gotKF_of (⟨#[97, 98, 99]⟩ : ByteArray) _ _ _ (by decide) ((Below.refl _ _).alloc lR _).drew (by simp)
 · exact gotKF_of (⟨#[122]⟩ : ByteArray) _ _ _ (by decide) ((Below.refl _ _).alloc lR _).drew (by simp)
 · exact gotKF_of (⟨#[0]⟩ : ByteArray) _ _ _ (by decide) ((Below.refl _ _).alloc lR _).drew (by simp)
 · exact gotKF_of (⟨#[255]⟩ : ByteArray) _ _ _ (by decide) ((Below.refl _ _).alloc lR _).drew (by simp)
 · exact gotKF_of (⟨#[97, 98, 99, 100, 101, 102, 103, 104]⟩ : ByteArray) _ _ _ (by decide) ((Below.refl _ _).alloc lR _).drew (by simp)
 · exact gotKF_of (⟨#[97, 98, 99, 100, 101, 102, 103, 104, 105]⟩ : ByteArray) _ _ _ (by decide) ((Below.refl _ _).alloc lR _).drew (by simp)
 · exact gotKF_of (⟨#[107, 49]⟩ : ByteArray) _ _ _ (by decide) ((Below.refl _ _).alloc lR _).drew (by simp)
 · exact gotKF_of (⟨#[107, 50]⟩ : ByteArray) _ _ _ (by decide) ((Below.refl _ _).alloc lR _).drew (by simp)
 · exact gotKF_of (⟨#[107, 51]⟩ : ByteArray) _ _ _ (by decide) ((Below.refl _ _).alloc lR _).drew (by simp)
 · exact gotKF_of (⟨#[107, 52]⟩ : ByteArray) _ _ _ (by decide) ((Below.refl _ _).alloc lR _).drew (by simp)
 · exact gotKF_of (⟨#[107, 53]⟩ : ByteArray) _ _ _ (by decide) ((Below.refl _ _).alloc lR _).drew (by simp)
def tab8 (j : Nat) : ByteArray := ([⟨#[]⟩, ⟨#[97]⟩, ⟨#[98]⟩, ⟨#[97, 98]⟩, ⟨#[118, 97, 108, 117, 101]⟩, ⟨#[48, 49, 50, 51, 52, 53, 54, 55, 56, 57, 97, 98, 99, 100, 101, 102]⟩, ⟨#[48, 49, 50, 51, 52, 53, 54, 55, 56, 57, 97, 98, 99, 100, 101, 102, 103]⟩, ⟨#[0, 255]⟩] : List ByteArray).getD j ⟨#[]⟩
def tab4 (j : Nat) : ByteArray := ([⟨#[]⟩, ⟨#[97]⟩, ⟨#[98]⟩, ⟨#[97, 98]⟩] : List ByteArray).getD j ⟨#[]⟩
theorem tab8_at : ∀ j (h : j < ([.string ⟨#[]⟩, .string ⟨#[97]⟩, .string ⟨#[98]⟩, .string ⟨#[97, 98]⟩, .string ⟨#[118, 97, 108, 117, 101]⟩, .string ⟨#[48, 49, 50, 51, 52, 53, 54, 55, 56, 57, 97, 98, 99, 100, 101, 102]⟩, .string ⟨#[48, 49, 50, 51, 52, 53, 54, 55, 56, 57, 97, 98, 99, 100, 101, 102, 103]⟩, .string ⟨#[0, 255]⟩] : List Value).length), ([.string ⟨#[]⟩, .string ⟨#[97]⟩, .string ⟨#[98]⟩, .string ⟨#[97, 98]⟩, .string ⟨#[118, 97, 108, 117, 101]⟩, .string ⟨#[48, 49, 50, 51, 52, 53, 54, 55, 56, 57, 97, 98, 99, 100, 101, 102]⟩, .string ⟨#[48, 49, 50, 51, 52, 53, 54, 55, 56, 57, 97, 98, 99, 100, 101, 102, 103]⟩, .string ⟨#[0, 255]⟩] : List Value)[j]'h = .string (tab8 j) := by
 intro j h
 match j, h with
 | 0, _ | 1, _ | 2, _ | 3, _ | 4, _ | 5, _ | 6, _ | 7, _ => rfl
theorem tab4_at : ∀ j (h : j < ([.string ⟨#[]⟩, .string ⟨#[97]⟩, .string ⟨#[98]⟩, .string ⟨#[97, 98]⟩] : List Value).length), ([.string ⟨#[]⟩, .string ⟨#[97]⟩, .string ⟨#[98]⟩, .string ⟨#[97, 98]⟩] : List Value)[j]'h = .string (tab4 j) := by
 intro j h
 match j, h with
 | 0, _ | 1, _ | 2, _ | 3, _ => rfl
theorem tab8_size : ∀ j, j < 8 -> (tab8 j).size <= 17 := by
 intro j hj
 match j, hj with
 | 0, _ | 1, _ | 2, _ | 3, _ | 4, _ | 5, _ | 6, _ | 7, _ => decide
theorem tab4_size : ∀ j, j < 4 -> (tab4 j).size <= 2 := by
 intro j hj
 match j, hj with
 | 0, _ | 1, _ | 2, _ | 3, _ => decide
def tabk (p : Nat) : Int := ([1, 2, 4, 9] : List Int).getD p 0
theorem tabk_at : ∀ p (h : p < ([.int .i64 1, .int .i64 2, .int .i64 4, .int .i64 9] : List Value).length), ([.int .i64 1, .int .i64 2, .int .i64 4, .int .i64 9] : List Value)[p]'h = .int .i64 (tabk p) := by
 intro p h
 match p, h with
 | 0, _ | 1, _ | 2, _ | 3, _ => rfl
theorem Rd.set_ne {w : World} {B gk o n b i : Nat} {u : Value} {vs : List Value} (h : Rd w B (some ⟨gk, o, none⟩) n vs) (hne : b ≠ gk) : Rd (w.setCell ⟨b, i, none⟩ u) (w.setCell ⟨b, i, none⟩ u).heap.size (some ⟨gk, o, none⟩) n vs := by
 refine Rd.fit (B := B) ⟨h.1, fun hn => ?_⟩
 obtain ⟨b', o', e, hb, hc⟩ := h.2 hn
 injection e with e
 injection e with e1 e2
 subst e1 e2
 refine ⟨gk, o, rfl, hb, fun j hj => ?_⟩
 rw [<- hc j hj]
 exact World.cell?_of_block (Below.heap_setCell w ⟨b, i, none⟩ u gk (fun e => hne e.symm))
structure CmdS (wz wx : World) (g gk go ck co : Nat) (Av : Option Addr) (cv : Nat) (lk lv lo : List Nat) (kd wh : Int) : Prop where
 blk : Blk wx g 41 #[.int .i64 kd, .int .i64 wh, .slice (some ⟨gk, 0, none⟩) lk.length ck, .slice Av lv.length cv, .slice (some ⟨go, 0, none⟩) lo.length co]
 zg : wz.heap.size <= g
 zk : wz.heap.size <= gk
 zo : wz.heap.size <= go
 nk : g ≠ gk
 no : g ≠ go
 rk : Rd wx wx.heap.size (some ⟨gk, 0, none⟩) lk.length (bv lk)
 ro : Rd wx wx.heap.size (some ⟨go, 0, none⟩) lo.length (bv lo)
 bel : Below wz.heap.size wz wx
theorem CmdS.below {wz wx wy : World} {g gk go ck co : Nat} {Av : Option Addr} {cv : Nat} {lk lv lo : List Nat} {kd wh : Int} (h : CmdS wz wx g gk go ck co Av cv lk lv lo kd wh) (hb : Below wx.heap.size wx wy) : CmdS wz wy g gk go ck co Av cv lk lv lo kd wh :=
 ⟨h.blk.below hb, h.zg, h.zk, h.zo, h.nk, h.no, (h.rk.below hb).fit, (h.ro.below hb).fit, h.bel.trans (hb.mono h.bel.size)⟩
theorem CmdS.set0 {wz wx : World} {g gk go ck co : Nat} {Av : Option Addr} {cv : Nat} {lk lv lo : List Nat} {kd wh : Int} (h : CmdS wz wx g gk go ck co Av cv lk lv lo kd wh) (z : Int) : CmdS wz (wx.setCell ⟨g, 0, none⟩ (.int .i64 z)) g gk go ck co Av cv lk lv lo z wh :=
 ⟨h.blk.set_ 0 _, h.zg, h.zk, h.zo, h.nk, h.no, h.rk.set_ne h.nk, h.ro.set_ne h.no, h.bel.setCell (p := ⟨g, 0, none⟩) h.zg _⟩
theorem CmdS.set1 {wz wx : World} {g gk go ck co : Nat} {Av : Option Addr} {cv : Nat} {lk lv lo : List Nat} {kd wh : Int} (h : CmdS wz wx g gk go ck co Av cv lk lv lo kd wh) (z : Int) : CmdS wz (wx.setCell ⟨g, 1, none⟩ (.int .i64 z)) g gk go ck co Av cv lk lv lo kd z :=
 ⟨h.blk.set_ 1 _, h.zg, h.zk, h.zo, h.nk, h.no, h.rk.set_ne h.nk, h.ro.set_ne h.no, h.bel.setCell (p := ⟨g, 1, none⟩) h.zg _⟩
def CA.Z (a : CA) : Prop := (∃ g, a.Ak = some ⟨g, 0, none⟩) /\ (∃ g, a.Av = some ⟨g, 0, none⟩) /\ ∃ g, a.Ao = some ⟨g, 0, none⟩
set_option maxRecDepth 100000 in
set_option maxHeartbeats 8000000 in
theorem cmdZ_any (n : Int) (w : World) : Calls Tryz.prog 47 #[.int .i64 n] w fun e w' => ∃ ca c, e = .returned (cmdV ca c) /\ c.Fits /\ RdC w' w'.heap.size ca c /\ ca.Z /\ Below w.heap.size w w' := by
 obtain ⟨j, hj, hj8⟩ : ∃ j : Nat, bits .and .i64 (n / 32) 7 = (j : Int) /\ j < 8 := by
  rw [and_7]; have h1 := Int.emod_nonneg (n / 32) (show (8 : Int) ≠ 0 by omega); exact ⟨(n / 32 % 8).toNat, by omega, by omega⟩
 obtain ⟨i, hi, hi4⟩ : ∃ j : Nat, bits .and .i64 (n / 32768) 3 = (j : Int) /\ j < 4 := by
  rw [and_3]; have h1 := Int.emod_nonneg (n / 32768) (show (4 : Int) ≠ 0 by omega); exact ⟨(n / 32768 % 4).toNat, by omega, by omega⟩
 have kc := fun (w : World) (s : ByteArray) => run_bytes_of_string (P := Tryz.prog) w 9 23 5 s Tryz.underlying9 Tryz.underlying23 Tryz.underlying5
 obtain ⟨m, hm, hm32⟩ : ∃ j : Nat, bits .and .i64 n 31 = (j : Int) /\ j < 32 := by
  rw [and_31]; have h1 := Int.emod_nonneg n (show (32 : Int) ≠ 0 by omega); exact ⟨(n % 32).toNat, by omega, by omega⟩
 obtain ⟨y, hy, hy8⟩ : ∃ j : Nat, bits .and .i64 (n / 256) 7 = (j : Int) /\ j < 8 := by
  rw [and_7]; have h1 := Int.emod_nonneg (n / 256) (show (8 : Int) ≠ 0 by omega); exact ⟨(n / 256 % 8).toNat, by omega, by omega⟩
 obtain ⟨x, hx, hx13⟩ : ∃ x : Nat, (m : Int).tmod 13 = (x : Int) /\ x < 13 := ⟨m % 13, by rw [Int.tmod_eq_emod_of_nonneg (by omega)]; omega, by omega⟩
 have hxw : IntKind.i64.wrap (x : Int) = (x : Int) := IntWalk.i64_in _ (by omega)
 have h8 := tab8_at j
 have hji : (j : Int) < 8 := by omega
 go_enter Tryz.func47, Tryz.ntmps47
 go_upto_region 1 with fail
 go_cut [3] from 5 to 11 (fun s3 wx => ∃ (gv cp : Nat) (l : List Nat), s3 = .slice (some ⟨gv, 0, none⟩) l.length cp /\ Hid (Rd wx wx.heap.size (some ⟨gv, 0, none⟩) l.length (bv l) /\ w.heap.size ≠ gv) /\ Hid ((∀ x ∈ l, x < 256) /\ l.length <= 17) /\ Hid (Blk wx w.heap.size 41 #[.int .i64 0, .int .i64 0, .slice none 0 0, .slice none 0 0, .slice none 0 0] /\ Below w.heap.size w wx))
 case first =>
  go_wp2_with fail
  go_meet
  have hk0 : Blk (w.alloc (.cells #[.int .i64 0, .int .i64 0, .slice none 0 0, .slice none 0 0, .slice none 0 0] 41)) w.heap.size 41 #[.int .i64 0, .int .i64 0, .slice none 0 0, .slice none 0 0, .slice none 0 0] := Blk.new _ _ _
  refine ⟨_, _, sb (tab8 j), by rw [sb_len], hD ⟨Rd.of_stringAt _ (tab8 j) _ _ _ (by simp), by omega⟩, hD ⟨sb_lt _, by rw [sb_len]; exact tab8_size j hj8⟩, hD ⟨((hk0.alloc _).drew.alloc _), ((((Below.refl _ _).alloc lR _).alloc (by simp) _).drew).alloc (by simp; omega) _⟩⟩
 case rest =>
  obtain ⟨gv, cv, lv, rfl, HV, HVB, HX⟩ := hcut
  obtain ⟨Av, hAv⟩ : ∃ x : Option Addr, some ⟨gv, 0, none⟩ = x := ⟨_, rfl⟩
  rw [hAv]
  have HAV := hD hAv
  clear hAv
  rename World => wz
  have HJ8 := hD h8
  clear h8 hj hji
  have h4 := tab4_at i
  have hii : (i : Int) < 4 := by omega
  go_upto_region 2 with fail
  go_cut [4] from 12 to 30 (fun s4 wx => ∃ (g gk go ck co : Nat) (lk lo : List Nat) (kd wh : Int), s4 = .pointer (some ⟨g, 0, none⟩) /\ Hid (CmdS wz wx g gk go ck co Av cv lk lv lo kd wh) /\ Hid ((∀ x ∈ lk, x < 256) /\ lk.length <= 9 /\ (∀ x ∈ lo, x < 256) /\ lo.length <= 2))
  case first =>
   refine region_T (n := 20) (S := fun w' => Below wz.heap.size wz w') (by kernel_rfl) ?_
   have hS0 : Below wz.heap.size wz wz.drew := (Below.refl _ _).drew
   generalize wz.drew = w4 at hS0 |-
   have hS := hD hS0
   clear hS0
   refine AnyT.take (i := 0) (v := .int .i64 n) rfl (by kernel_rfl) (by kernel_rfl) (by kernel_rfl) (by kernel_rfl) (fun _ _ _ h => h) (Or.inl ⟨by kernel_rfl, fun w _ => by go_simp⟩) hS.out ?_
   refine AnyT.take (i := 1) (v := .int .i64 (m : Int)) rfl (by kernel_rfl) (by kernel_rfl) (by kernel_rfl) (by kernel_rfl) (fun _ _ _ h => h) (Or.inl ⟨by kernel_rfl, fun w _ => by go_simp⟩) hS.out ?_
   refine AnyT.take (i := 2) (v := .int .i64 (x : Int)) rfl (by kernel_rfl) (by kernel_rfl) (by kernel_rfl) (by kernel_rfl) (fun _ _ _ h => h) (Or.inl ⟨by kernel_rfl, fun w _ => by go_simp⟩) hS.out ?_
   refine AnyT.take (i := 3) (v := .int .i64 (x : Int)) rfl (by kernel_rfl) (by kernel_rfl) (by kernel_rfl) (by kernel_rfl) (fun _ _ _ h => h) (Or.inl ⟨by kernel_rfl, fun w _ => by go_simp⟩) hS.out ?_
   refine AnyT.take (i := 4) (v := .int .i64 n) rfl (by kernel_rfl) (by kernel_rfl) (by kernel_rfl) (by kernel_rfl) (fun _ _ _ h => h) (Or.inl ⟨by kernel_rfl, fun w _ => by go_simp⟩) hS.out ?_
   refine AnyT.take (i := 5) (v := .int .i64 (n / 256)) rfl (by kernel_rfl) (by kernel_rfl) (by kernel_rfl) (by kernel_rfl) (fun _ _ _ h => h) (Or.inl ⟨by kernel_rfl, fun w _ => by go_simp⟩) hS.out ?_
   refine AnyT.take (i := 6) (v := .int .i64 (y : Int)) rfl (by kernel_rfl) (by kernel_rfl) (by kernel_rfl) (by kernel_rfl) (fun _ _ _ h => h) (Or.inl ⟨by kernel_rfl, fun w _ => by go_simp⟩) hS.out ?_
   refine AnyT.take (i := 7) (v := .int .i64 n) rfl (by kernel_rfl) (by kernel_rfl) (by kernel_rfl) (by kernel_rfl) (fun _ _ _ h => h) (Or.inl ⟨by kernel_rfl, fun w _ => by go_simp⟩) hS.out ?_
   refine AnyT.take (i := 8) (v := .int .i64 (n / 2048)) rfl (by kernel_rfl) (by kernel_rfl) (by kernel_rfl) (by kernel_rfl) (fun _ _ _ h => h) (Or.inl ⟨by kernel_rfl, fun w _ => by go_simp⟩) hS.out ?_
   refine AnyT.take (i := 10) (v := .slice Av lv.length cv) rfl (by kernel_rfl) (by kernel_rfl) (by kernel_rfl) (by kernel_rfl) (fun _ _ _ h => h) (Or.inl ⟨by kernel_rfl, fun w _ => by go_simp⟩) hS.out ?_
   refine AnyT.take (i := 12) (v := .int .i64 n) rfl (by kernel_rfl) (by kernel_rfl) (by kernel_rfl) (by kernel_rfl) (fun _ _ _ h => h) (Or.inl ⟨by kernel_rfl, fun w _ => by go_simp⟩) hS.out ?_
   refine AnyT.take (i := 13) (v := .int .i64 (n / 32768)) rfl (by kernel_rfl) (by kernel_rfl) (by kernel_rfl) (by kernel_rfl) (fun _ _ _ h => h) (Or.inl ⟨by kernel_rfl, fun w _ => by go_simp⟩) hS.out ?_
   refine AnyT.take (i := 14) (v := .int .i64 (i : Int)) rfl (by kernel_rfl) (by kernel_rfl) (by kernel_rfl) (by kernel_rfl) (fun _ _ _ h => h) (Or.inl ⟨by kernel_rfl, fun w _ => by go_simp⟩) hS.out ?_
   refine AnyT.ready (rs := [9, 11, 19]) (by kernel_rfl) (by simp) ?_
   refine AllT.cons rfl (fun K hK => ?_) (AllT.cons rfl (fun K hK => ?_) (AllT.cons rfl (fun K hK => ?_) AllT.nil))
   · go_simp
     have hSz := hS.out.size
     refine (keysF_any _ _).mono ?_
     rintro e w9 ⟨lk, gk, ck, rfl, hrk, hlk, hlk9, hgk1, hgk2, hb9⟩
     have hS := hD (hS.out.trans (hb9.mono hS.out.size))
     have hzk : wz.heap.size <= gk := by omega
     go_simp
     refine hK.out _ _ (Or.inr hS.out) (fun _ => ?_)
     clear hK K
     refine AnyT.ready (rs := [11, 19]) (by kernel_rfl) (by simp) ?_
     refine AllT.cons rfl (fun K hK => ?_) (AllT.cons rfl (fun K hK => ?_) AllT.nil)
     · go_simp
       obtain ⟨gB, hgB⟩ : ∃ g, w9.heap.size = g := ⟨_, rfl⟩
       rw [hgB]
       have hbB : Below w9.heap.size w9 (w9.alloc (.cells #[.string ⟨#[]⟩, .string ⟨#[97]⟩, .string ⟨#[98]⟩, .string ⟨#[97, 98]⟩] 9)) := (Below.refl _ _).alloc lR _
       have hS := hD (hS.out.trans (hbB.mono hS.out.size))
       have hrk := (hrk.below hbB).fit
       have hgk2 := Nat.lt_of_lt_of_le hgk2 hbB.size
       have hkB : Blk (w9.alloc (.cells #[.string ⟨#[]⟩, .string ⟨#[97]⟩, .string ⟨#[98]⟩, .string ⟨#[97, 98]⟩] 9)) gB 9 #[.string ⟨#[]⟩, .string ⟨#[97]⟩, .string ⟨#[98]⟩, .string ⟨#[97, 98]⟩] := by rw [<- hgB]; exact Blk.new _ _ _
       obtain ⟨wB, hwB⟩ : ∃ x, (w9.alloc (.cells #[.string ⟨#[]⟩, .string ⟨#[97]⟩, .string ⟨#[98]⟩, .string ⟨#[97, 98]⟩] 9)) = x := ⟨_, rfl⟩
       rw [hwB] at hS hkB hrk hgk2 |-
       clear hwB hbB hgB
       go_simp
       refine hK.out _ _ (Or.inr hS.out) (fun _ => ?_)
       clear hK K
       refine AnyT.take (i := 15) (v := .pointer (some ⟨gB, i, none⟩)) rfl (by kernel_rfl) (by kernel_rfl) (by kernel_rfl) (by kernel_rfl) (fun _ _ _ h => h) (Or.inl ⟨by kernel_rfl, fun w _ => by go_simp⟩) hS.out ?_
       refine AnyT.ready (rs := [16, 19]) (by kernel_rfl) (by simp) ?_
       refine AllT.cons rfl (fun K hK => ?_) (AllT.cons rfl (fun K hK => ?_) AllT.nil)
       · have hcB : wB.cell? ⟨gB, i, none⟩ = some (.string (tab4 i)) := by rw [hkB.cell]; have hl : i < (#[Value.string ⟨#[]⟩, .string ⟨#[97]⟩, .string ⟨#[98]⟩, .string ⟨#[97, 98]⟩] : Array Value).size := hi4; rw [Array.getElem?_eq_getElem hl]; congr 1; exact tab4_at i hi4
         go_simp
         refine hK.out _ _ (Or.inr hS.out) (fun _ => ?_)
         clear hK K
         refine AnyT.ready (rs := [17, 19]) (by kernel_rfl) (by simp) ?_
         refine AllT.cons rfl (fun K hK => ?_) (AllT.cons rfl (fun K hK => ?_) AllT.nil)
         · go_simp
           obtain ⟨go, hgo⟩ : ∃ g, wB.heap.size = g := ⟨_, rfl⟩
           rw [hgo]
           have hzo : wz.heap.size <= go := by have := hS.out.size; omega
           have hb7 : Below wB.heap.size wB ((wB.alloc (.cells (bytesRow (tab4 i) (grownCap wB (tab4 i).size 0 5)) 5 ((bytesRow (tab4 i) (grownCap wB (tab4 i).size 0 5)).size, (bytesRow (tab4 i) (grownCap wB (tab4 i).size 0 5)).size + 1))).drew) := ((Below.refl _ _).alloc lR _).drew
           have hS := hD (hS.out.trans (hb7.mono hS.out.size))
           have hrk := (hrk.below hb7).fit
           have hgk2 := Nat.lt_of_lt_of_le hgk2 hb7.size
           have hkB := hkB.below hb7
           have hro : Rd ((wB.alloc (.cells (bytesRow (tab4 i) (grownCap wB (tab4 i).size 0 5)) 5 ((bytesRow (tab4 i) (grownCap wB (tab4 i).size 0 5)).size, (bytesRow (tab4 i) (grownCap wB (tab4 i).size 0 5)).size + 1))).drew) ((wB.alloc (.cells (bytesRow (tab4 i) (grownCap wB (tab4 i).size 0 5)) 5 ((bytesRow (tab4 i) (grownCap wB (tab4 i).size 0 5)).size, (bytesRow (tab4 i) (grownCap wB (tab4 i).size 0 5)).size + 1))).drew).heap.size (some ⟨go, 0, none⟩) (sb (tab4 i)).length (bv (sb (tab4 i))) := Rd.of_stringAt _ _ _ _ _ hgo
           have hgo2 : go < ((wB.alloc (.cells (bytesRow (tab4 i) (grownCap wB (tab4 i).size 0 5)) 5 ((bytesRow (tab4 i) (grownCap wB (tab4 i).size 0 5)).size, (bytesRow (tab4 i) (grownCap wB (tab4 i).size 0 5)).size + 1))).drew).heap.size := by rw [<- hgo]; simp
           obtain ⟨co, hco⟩ : ∃ x, grownCap wB (tab4 i).size 0 5 = x := ⟨_, rfl⟩
           rw [hco] at hS hro hgo2 hrk hgk2 hkB |-
           obtain ⟨wD, hwD⟩ : ∃ x, (wB.alloc (.cells (bytesRow (tab4 i) co) 5 ((bytesRow (tab4 i) co).size, (bytesRow (tab4 i) co).size + 1))).drew = x := ⟨_, rfl⟩
           rw [hwD] at hS hro hgo2 hrk hgk2 hkB |-
           clear hwD hco hb7 hgo
           go_simp
           refine hK.out _ _ (Or.inr hS.out) (fun _ => ?_)
           clear hK K
           refine AnyT.take (i := 18) (v := .agg #[.int .i64 (x : Int), .int .i64 (y : Int), .slice (some ⟨gk, 0, none⟩) lk.length ck, .slice Av lv.length cv, .slice (some ⟨go, 0, none⟩) (sb (tab4 i)).length co]) rfl (by kernel_rfl) (by kernel_rfl) (by kernel_rfl) (by kernel_rfl) (fun _ _ _ h => h) (Or.inl ⟨by kernel_rfl, fun w _ => by go_simp; simp [sb_len]⟩) hS.out ?_
           refine AnyT.ready (rs := [19]) (by kernel_rfl) (by simp) ?_
           refine AllT.cons rfl (fun K hK => ?_) AllT.nil
           go_simp
           obtain ⟨g4, hg4⟩ : ∃ g, wD.heap.size = g := ⟨_, rfl⟩
           rw [hg4]
           have hnk : g4 ≠ gk := by omega
           have hno : g4 ≠ go := by omega
           have hz4 : wz.heap.size <= g4 := by have := hS.out.size; omega
           have hb4 : Below wD.heap.size wD (wD.alloc (.cells #[.int .i64 0, .int .i64 0, .slice none 0 0, .slice none 0 0, .slice none 0 0] 41)) := (Below.refl _ _).alloc lR _
           have hS := hD (hS.out.trans (hb4.mono hS.out.size))
           have hrk := (hrk.below hb4).fit
           have hgk2 := Nat.lt_of_lt_of_le hgk2 hb4.size
           have hro := (hro.below hb4).fit
           have hgo2 := Nat.lt_of_lt_of_le hgo2 hb4.size
           have hk4 : Blk (wD.alloc (.cells #[.int .i64 0, .int .i64 0, .slice none 0 0, .slice none 0 0, .slice none 0 0] 41)) g4 41 #[.int .i64 0, .int .i64 0, .slice none 0 0, .slice none 0 0, .slice none 0 0] := by rw [<- hg4]; exact Blk.new _ _ _
           have hg42 := hk4.lt
           obtain ⟨wC, hwC⟩ : ∃ x, (wD.alloc (.cells #[.int .i64 0, .int .i64 0, .slice none 0 0, .slice none 0 0, .slice none 0 0] 41)) = x := ⟨_, rfl⟩
           rw [hwC] at hS hk4 hg42 hrk hgk2 hro hgo2 |-
           clear hwC hb4 hg4
           go_simp
           refine hK.out _ _ (Or.inr hS.out) (fun _ => ?_)
           clear hK K
           refine AnyT.ready (rs := [20]) (by kernel_rfl) (by simp) ?_
           refine AllT.cons rfl (fun K hK => ?_) AllT.nil
           obtain ⟨c0, c1, c2, c3, c4⟩ := five hk4
           have f0 := hk4.frozen 0
           have f1 := hk4.frozen 1
           have f2 := hk4.frozen 2
           have f3 := hk4.frozen 3
           have f4 := hk4.frozen 4
           go_simp
           refine hK.out _ _ (Or.inl rfl) (fun _ => ?_)
           clear hK K
           refine AnyT.done (by kernel_rfl) ?_ _
           go_wp2_with fail
           go_meet
           have hk5 := ((((hk4.set_ 0 (.int .i64 (x : Int))).set_ 1 (.int .i64 (y : Int))).set_ 2 (.slice (some ⟨gk, 0, none⟩) lk.length ck)).set_ 3 (.slice Av lv.length cv)).set_ 4 (.slice (some ⟨go, 0, none⟩) (sb (tab4 i)).length co)
           have hs : (sb (tab4 i)).length = (tab4 i).size := sb_len _
           rw [hs] at hro hk5
           refine ⟨g4, gk, go, ck, co, lk, sb (tab4 i), _, _, rfl, hD ⟨by rw [hs]; exact hk5, hz4, hzk, hzo, hnk, hno, ((((hrk.set_ne hnk).set_ne hnk).set_ne hnk).set_ne hnk).set_ne hnk, by rw [hs]; exact ((((hro.set_ne hno).set_ne hno).set_ne hno).set_ne hno).set_ne hno, ((((hS.out.setCell (p := ⟨g4, 0, none⟩) hz4 _).setCell (p := ⟨g4, 1, none⟩) hz4 _).setCell (p := ⟨g4, 2, none⟩) hz4 _).setCell (p := ⟨g4, 3, none⟩) hz4 _).setCell (p := ⟨g4, 4, none⟩) hz4 _⟩, hD ⟨hlk, hlk9, sb_lt _, by rw [sb_len]; exact tab4_size i hi4⟩⟩
         · go_simp
           obtain ⟨g4, hg4⟩ : ∃ g, wB.heap.size = g := ⟨_, rfl⟩
           rw [hg4]
           have hnk : g4 ≠ gk := by omega
           have hz4 : wz.heap.size <= g4 := by have := hS.out.size; omega
           have hb4 : Below wB.heap.size wB (wB.alloc (.cells #[.int .i64 0, .int .i64 0, .slice none 0 0, .slice none 0 0, .slice none 0 0] 41)) := (Below.refl _ _).alloc lR _
           have hS := hD (hS.out.trans (hb4.mono hS.out.size))
           have hrk := (hrk.below hb4).fit
           have hgk2 := Nat.lt_of_lt_of_le hgk2 hb4.size
           have hkB := hkB.below hb4
           have hk4 : Blk (wB.alloc (.cells #[.int .i64 0, .int .i64 0, .slice none 0 0, .slice none 0 0, .slice none 0 0] 41)) g4 41 #[.int .i64 0, .int .i64 0, .slice none 0 0, .slice none 0 0, .slice none 0 0] := by rw [<- hg4]; exact Blk.new _ _ _
           have hg42 := hk4.lt
           obtain ⟨wC, hwC⟩ : ∃ x, (wB.alloc (.cells #[.int .i64 0, .int .i64 0, .slice none 0 0, .slice none 0 0, .slice none 0 0] 41)) = x := ⟨_, rfl⟩
           rw [hwC] at hS hk4 hg42 hrk hgk2 hkB |-
           clear hwC hb4 hg4
           go_simp
           refine hK.out _ _ (Or.inr hS.out) (fun _ => ?_)
           clear hK K
           refine AnyT.ready (rs := [17]) (by kernel_rfl) (by simp) ?_
           refine AllT.cons rfl (fun K hK => ?_) AllT.nil
           go_simp
           obtain ⟨go, hgo⟩ : ∃ g, wC.heap.size = g := ⟨_, rfl⟩
           rw [hgo]
           have hzo : wz.heap.size <= go := by have := hS.out.size; omega
           have hno : g4 ≠ go := by omega
           have hb7 : Below wC.heap.size wC ((wC.alloc (.cells (bytesRow (tab4 i) (grownCap wC (tab4 i).size 0 5)) 5 ((bytesRow (tab4 i) (grownCap wC (tab4 i).size 0 5)).size, (bytesRow (tab4 i) (grownCap wC (tab4 i).size 0 5)).size + 1))).drew) := ((Below.refl _ _).alloc lR _).drew
           have hS := hD (hS.out.trans (hb7.mono hS.out.size))
           have hrk := (hrk.below hb7).fit
           have hgk2 := Nat.lt_of_lt_of_le hgk2 hb7.size
           have hkB := hkB.below hb7
           have hk4 := hk4.below hb7
           have hg42 := Nat.lt_of_lt_of_le hg42 hb7.size
           have hro : Rd ((wC.alloc (.cells (bytesRow (tab4 i) (grownCap wC (tab4 i).size 0 5)) 5 ((bytesRow (tab4 i) (grownCap wC (tab4 i).size 0 5)).size, (bytesRow (tab4 i) (grownCap wC (tab4 i).size 0 5)).size + 1))).drew) ((wC.alloc (.cells (bytesRow (tab4 i) (grownCap wC (tab4 i).size 0 5)) 5 ((bytesRow (tab4 i) (grownCap wC (tab4 i).size 0 5)).size, (bytesRow (tab4 i) (grownCap wC (tab4 i).size 0 5)).size + 1))).drew).heap.size (some ⟨go, 0, none⟩) (sb (tab4 i)).length (bv (sb (tab4 i))) := Rd.of_stringAt _ _ _ _ _ hgo
           have hgo2 : go < ((wC.alloc (.cells (bytesRow (tab4 i) (grownCap wC (tab4 i).size 0 5)) 5 ((bytesRow (tab4 i) (grownCap wC (tab4 i).size 0 5)).size, (bytesRow (tab4 i) (grownCap wC (tab4 i).size 0 5)).size + 1))).drew).heap.size := by rw [<- hgo]; simp
           obtain ⟨co, hco⟩ : ∃ x, grownCap wC (tab4 i).size 0 5 = x := ⟨_, rfl⟩
           rw [hco] at hS hro hgo2 hrk hgk2 hkB hk4 hg42 |-
           obtain ⟨wD, hwD⟩ : ∃ x, (wC.alloc (.cells (bytesRow (tab4 i) co) 5 ((bytesRow (tab4 i) co).size, (bytesRow (tab4 i) co).size + 1))).drew = x := ⟨_, rfl⟩
           rw [hwD] at hS hro hgo2 hrk hgk2 hkB hk4 hg42 |-
           clear hwD hco hb7 hgo
           go_simp
           refine hK.out _ _ (Or.inr hS.out) (fun _ => ?_)
           clear hK K
           refine AnyT.take (i := 18) (v := .agg #[.int .i64 (x : Int), .int .i64 (y : Int), .slice (some ⟨gk, 0, none⟩) lk.length ck, .slice Av lv.length cv, .slice (some ⟨go, 0, none⟩) (sb (tab4 i)).length co]) rfl (by kernel_rfl) (by kernel_rfl) (by kernel_rfl) (by kernel_rfl) (fun _ _ _ h => h) (Or.inl ⟨by kernel_rfl, fun w _ => by go_simp; simp [sb_len]⟩) hS.out ?_
           refine AnyT.ready (rs := [20]) (by kernel_rfl) (by simp) ?_
           refine AllT.cons rfl (fun K hK => ?_) AllT.nil
           obtain ⟨c0, c1, c2, c3, c4⟩ := five hk4
           have f0 := hk4.frozen 0
           have f1 := hk4.frozen 1
           have f2 := hk4.frozen 2
           have f3 := hk4.frozen 3
           have f4 := hk4.frozen 4
           go_simp
           refine hK.out _ _ (Or.inl rfl) (fun _ => ?_)
           clear hK K
           refine AnyT.done (by kernel_rfl) ?_ _
           go_wp2_with fail
           go_meet
           have hk5 := ((((hk4.set_ 0 (.int .i64 (x : Int))).set_ 1 (.int .i64 (y : Int))).set_ 2 (.slice (some ⟨gk, 0, none⟩) lk.length ck)).set_ 3 (.slice Av lv.length cv)).set_ 4 (.slice (some ⟨go, 0, none⟩) (sb (tab4 i)).length co)
           have hs : (sb (tab4 i)).length = (tab4 i).size := sb_len _
           rw [hs] at hro hk5
           refine ⟨g4, gk, go, ck, co, lk, sb (tab4 i), _, _, rfl, hD ⟨by rw [hs]; exact hk5, hz4, hzk, hzo, hnk, hno, ((((hrk.set_ne hnk).set_ne hnk).set_ne hnk).set_ne hnk).set_ne hnk, by rw [hs]; exact ((((hro.set_ne hno).set_ne hno).set_ne hno).set_ne hno).set_ne hno, ((((hS.out.setCell (p := ⟨g4, 0, none⟩) hz4 _).setCell (p := ⟨g4, 1, none⟩) hz4 _).setCell (p := ⟨g4, 2, none⟩) hz4 _).setCell (p := ⟨g4, 3, none⟩) hz4 _).setCell (p := ⟨g4, 4, none⟩) hz4 _⟩, hD ⟨hlk, hlk9, sb_lt _, by rw [sb_len]; exact tab4_size i hi4⟩⟩
       · go_simp
         obtain ⟨g4, hg4⟩ : ∃ g, wB.heap.size = g := ⟨_, rfl⟩
         rw [hg4]
         have hnk : g4 ≠ gk := by omega
         have hz4 : wz.heap.size <= g4 := by have := hS.out.size; omega
         have hb4 : Below wB.heap.size wB (wB.alloc (.cells #[.int .i64 0, .int .i64 0, .slice none 0 0, .slice none 0 0, .slice none 0 0] 41)) := (Below.refl _ _).alloc lR _
         have hS := hD (hS.out.trans (hb4.mono hS.out.size))
         have hrk := (hrk.below hb4).fit
         have hgk2 := Nat.lt_of_lt_of_le hgk2 hb4.size
         have hkB := hkB.below hb4
         have hk4 : Blk (wB.alloc (.cells #[.int .i64 0, .int .i64 0, .slice none 0 0, .slice none 0 0, .slice none 0 0] 41)) g4 41 #[.int .i64 0, .int .i64 0, .slice none 0 0, .slice none 0 0, .slice none 0 0] := by rw [<- hg4]; exact Blk.new _ _ _
         have hg42 := hk4.lt
         obtain ⟨wC, hwC⟩ : ∃ x, (wB.alloc (.cells #[.int .i64 0, .int .i64 0, .slice none 0 0, .slice none 0 0, .slice none 0 0] 41)) = x := ⟨_, rfl⟩
         rw [hwC] at hS hk4 hg42 hrk hgk2 hkB |-
         clear hwC hb4 hg4
         go_simp
         refine hK.out _ _ (Or.inr hS.out) (fun _ => ?_)
         clear hK K
         refine AnyT.ready (rs := [16]) (by kernel_rfl) (by simp) ?_
         refine AllT.cons rfl (fun K hK => ?_) AllT.nil
         have hcB : wC.cell? ⟨gB, i, none⟩ = some (.string (tab4 i)) := by rw [hkB.cell]; have hl : i < (#[Value.string ⟨#[]⟩, .string ⟨#[97]⟩, .string ⟨#[98]⟩, .string ⟨#[97, 98]⟩] : Array Value).size := hi4; rw [Array.getElem?_eq_getElem hl]; congr 1; exact tab4_at i hi4
         go_simp
         refine hK.out _ _ (Or.inr hS.out) (fun _ => ?_)
         clear hK K
         refine AnyT.ready (rs := [17]) (by kernel_rfl) (by simp) ?_
         refine AllT.cons rfl (fun K hK => ?_) AllT.nil
         go_simp
         obtain ⟨go, hgo⟩ : ∃ g, wC.heap.size = g := ⟨_, rfl⟩
         rw [hgo]
         have hzo : wz.heap.size <= go := by have := hS.out.size; omega
         have hno : g4 ≠ go := by omega
         have hb7 : Below wC.heap.size wC ((wC.alloc (.cells (bytesRow (tab4 i) (grownCap wC (tab4 i).size 0 5)) 5 ((bytesRow (tab4 i) (grownCap wC (tab4 i).size 0 5)).size, (bytesRow (tab4 i) (grownCap wC (tab4 i).size 0 5)).size + 1))).drew) := ((Below.refl _ _).alloc lR _).drew
         have hS := hD (hS.out.trans (hb7.mono hS.out.size))
         have hrk := (hrk.below hb7).fit
         have hgk2 := Nat.lt_of_lt_of_le hgk2 hb7.size
         have hkB := hkB.below hb7
         have hk4 := hk4.below hb7
         have hg42 := Nat.lt_of_lt_of_le hg42 hb7.size
         have hro : Rd ((wC.alloc (.cells (bytesRow (tab4 i) (grownCap wC (tab4 i).size 0 5)) 5 ((bytesRow (tab4 i) (grownCap wC (tab4 i).size 0 5)).size, (bytesRow (tab4 i) (grownCap wC (tab4 i).size 0 5)).size + 1))).drew) ((wC.alloc (.cells (bytesRow (tab4 i) (grownCap wC (tab4 i).size 0 5)) 5 ((bytesRow (tab4 i) (grownCap wC (tab4 i).size 0 5)).size, (bytesRow (tab4 i) (grownCap wC (tab4 i).size 0 5)).size + 1))).drew).heap.size (some ⟨go, 0, none⟩) (sb (tab4 i)).length (bv (sb (tab4 i))) := Rd.of_stringAt _ _ _ _ _ hgo
         have hgo2 : go < ((wC.alloc (.cells (bytesRow (tab4 i) (grownCap wC (tab4 i).size 0 5)) 5 ((bytesRow (tab4 i) (grownCap wC (tab4 i).size 0 5)).size, (bytesRow (tab4 i) (grownCap wC (tab4 i).size 0 5)).size + 1))).drew).heap.size := by rw [<- hgo]; simp
         obtain ⟨co, hco⟩ : ∃ x, grownCap wC (tab4 i).size 0 5 = x := ⟨_, rfl⟩
         rw [hco] at hS hro hgo2 hrk hgk2 hkB hk4 hg42 |-
         obtain ⟨wD, hwD⟩ : ∃ x, (wC.alloc (.cells (bytesRow (tab4 i) co) 5 ((bytesRow (tab4 i) co).size, (bytesRow (tab4 i) co).size + 1))).drew = x := ⟨_, rfl⟩
         rw [hwD] at hS hro hgo2 hrk hgk2 hkB hk4 hg42 |-
         clear hwD hco hb7 hgo
         go_simp
         refine hK.out _ _ (Or.inr hS.out) (fun _ => ?_)
         clear hK K
         refine AnyT.take (i := 18) (v := .agg #[.int .i64 (x : Int), .int .i64 (y : Int), .slice (some ⟨gk, 0, none⟩) lk.length ck, .slice Av lv.length cv, .slice (some ⟨go, 0, none⟩) (sb (tab4 i)).length co]) rfl (by kernel_rfl) (by kernel_rfl) (by kernel_rfl) (by kernel_rfl) (fun _ _ _ h => h) (Or.inl ⟨by kernel_rfl, fun w _ => by go_simp; simp [sb_len]⟩) hS.out ?_
         refine AnyT.ready (rs := [20]) (by kernel_rfl) (by simp) ?_
         refine AllT.cons rfl (fun K hK => ?_) AllT.nil
         obtain ⟨c0, c1, c2, c3, c4⟩ := five hk4
         have f0 := hk4.frozen 0
         have f1 := hk4.frozen 1
         have f2 := hk4.frozen 2
         have f3 := hk4.frozen 3
         have f4 := hk4.frozen 4
         go_simp
         refine hK.out _ _ (Or.inl rfl) (fun _ => ?_)
         clear hK K
         refine AnyT.done (by kernel_rfl) ?_ _
         go_wp2_with fail
         go_meet
         have hk5 := ((((hk4.set_ 0 (.int .i64 (x : Int))).set_ 1 (.int .i64 (y : Int))).set_ 2 (.slice (some ⟨gk, 0, none⟩) lk.length ck)).set_ 3 (.slice Av lv.length cv)).set_ 4 (.slice (some ⟨go, 0, none⟩) (sb (tab4 i)).length co)
         have hs : (sb (tab4 i)).length = (tab4 i).size := sb_len _
         rw [hs] at hro hk5
         refine ⟨g4, gk, go, ck, co, lk, sb (tab4 i), _, _, rfl, hD ⟨by rw [hs]; exact hk5, hz4, hzk, hzo, hnk, hno, ((((hrk.set_ne hnk).set_ne hnk).set_ne hnk).set_ne hnk).set_ne hnk, by rw [hs]; exact ((((hro.set_ne hno).set_ne hno).set_ne hno).set_ne hno).set_ne hno, ((((hS.out.setCell (p := ⟨g4, 0, none⟩) hz4 _).setCell (p := ⟨g4, 1, none⟩) hz4 _).setCell (p := ⟨g4, 2, none⟩) hz4 _).setCell (p := ⟨g4, 3, none⟩) hz4 _).setCell (p := ⟨g4, 4, none⟩) hz4 _⟩, hD ⟨hlk, hlk9, sb_lt _, by rw [sb_len]; exact tab4_size i hi4⟩⟩
     · go_simp
       obtain ⟨g4, hg4⟩ : ∃ g, w9.heap.size = g := ⟨_, rfl⟩
       rw [hg4]
       have hnk : g4 ≠ gk := by omega
       have hz4 : wz.heap.size <= g4 := by have := hS.out.size; omega
       have hb4 : Below w9.heap.size w9 (w9.alloc (.cells #[.int .i64 0, .int .i64 0, .slice none 0 0, .slice none 0 0, .slice none 0 0] 41)) := (Below.refl _ _).alloc lR _
       have hS := hD (hS.out.trans (hb4.mono hS.out.size))
       have hrk := (hrk.below hb4).fit
       have hgk2 := Nat.lt_of_lt_of_le hgk2 hb4.size
       have hk4 : Blk (w9.alloc (.cells #[.int .i64 0, .int .i64 0, .slice none 0 0, .slice none 0 0, .slice none 0 0] 41)) g4 41 #[.int .i64 0, .int .i64 0, .slice none 0 0, .slice none 0 0, .slice none 0 0] := by rw [<- hg4]; exact Blk.new _ _ _
       have hg42 := hk4.lt
       obtain ⟨wC, hwC⟩ : ∃ x, (w9.alloc (.cells #[.int .i64 0, .int .i64 0, .slice none 0 0, .slice none 0 0, .slice none 0 0] 41)) = x := ⟨_, rfl⟩
       rw [hwC] at hS hk4 hg42 hrk hgk2 |-
       clear hwC hb4 hg4
       go_simp
       refine hK.out _ _ (Or.inr hS.out) (fun _ => ?_)
       clear hK K
       refine AnyT.ready (rs := [11]) (by kernel_rfl) (by simp) ?_
       refine AllT.cons rfl (fun K hK => ?_) AllT.nil
       go_simp
       obtain ⟨gB, hgB⟩ : ∃ g, wC.heap.size = g := ⟨_, rfl⟩
       rw [hgB]
       have hbB : Below wC.heap.size wC (wC.alloc (.cells #[.string ⟨#[]⟩, .string ⟨#[97]⟩, .string ⟨#[98]⟩, .string ⟨#[97, 98]⟩] 9)) := (Below.refl _ _).alloc lR _
       have hS := hD (hS.out.trans (hbB.mono hS.out.size))
       have hrk := (hrk.below hbB).fit
       have hgk2 := Nat.lt_of_lt_of_le hgk2 hbB.size
       have hk4 := hk4.below hbB
       have hg42 := Nat.lt_of_lt_of_le hg42 hbB.size
       have hkB : Blk (wC.alloc (.cells #[.string ⟨#[]⟩, .string ⟨#[97]⟩, .string ⟨#[98]⟩, .string ⟨#[97, 98]⟩] 9)) gB 9 #[.string ⟨#[]⟩, .string ⟨#[97]⟩, .string ⟨#[98]⟩, .string ⟨#[97, 98]⟩] := by rw [<- hgB]; exact Blk.new _ _ _
       obtain ⟨wB, hwB⟩ : ∃ x, (wC.alloc (.cells #[.string ⟨#[]⟩, .string ⟨#[97]⟩, .string ⟨#[98]⟩, .string ⟨#[97, 98]⟩] 9)) = x := ⟨_, rfl⟩
       rw [hwB] at hS hkB hrk hgk2 hk4 hg42 |-
       clear hwB hbB hgB
       go_simp
       refine hK.out _ _ (Or.inr hS.out) (fun _ => ?_)
       clear hK K
       refine AnyT.take (i := 15) (v := .pointer (some ⟨gB, i, none⟩)) rfl (by kernel_rfl) (by kernel_rfl) (by kernel_rfl) (by kernel_rfl) (fun _ _ _ h => h) (Or.inl ⟨by kernel_rfl, fun w _ => by go_simp⟩) hS.out ?_
       refine AnyT.ready (rs := [16]) (by kernel_rfl) (by simp) ?_
       refine AllT.cons rfl (fun K hK => ?_) AllT.nil
       have hcB : wB.cell? ⟨gB, i, none⟩ = some (.string (tab4 i)) := by rw [hkB.cell]; have hl : i < (#[Value.string ⟨#[]⟩, .string ⟨#[97]⟩, .string ⟨#[98]⟩, .string ⟨#[97, 98]⟩] : Array Value).size := hi4; rw [Array.getElem?_eq_getElem hl]; congr 1; exact tab4_at i hi4
       go_simp
       refine hK.out _ _ (Or.inr hS.out) (fun _ => ?_)
       clear hK K
       refine AnyT.ready (rs := [17]) (by kernel_rfl) (by simp) ?_
       refine AllT.cons rfl (fun K hK => ?_) AllT.nil
       go_simp
       obtain ⟨go, hgo⟩ : ∃ g, wB.heap.size = g := ⟨_, rfl⟩
       rw [hgo]
       have hzo : wz.heap.size <= go := by have := hS.out.size; omega
       have hno : g4 ≠ go := by omega
       have hb7 : Below wB.heap.size wB ((wB.alloc (.cells (bytesRow (tab4 i) (grownCap wB (tab4 i).size 0 5)) 5 ((bytesRow (tab4 i) (grownCap wB (tab4 i).size 0 5)).size, (bytesRow (tab4 i) (grownCap wB (tab4 i).size 0 5)).size + 1))).drew) := ((Below.refl _ _).alloc lR _).drew
       have hS := hD (hS.out.trans (hb7.mono hS.out.size))
       have hrk := (hrk.below hb7).fit
       have hgk2 := Nat.lt_of_lt_of_le hgk2 hb7.size
       have hk4 := hk4.below hb7
       have hg42 := Nat.lt_of_lt_of_le hg42 hb7.size
       have hkB := hkB.below hb7
       have hro : Rd ((wB.alloc (.cells (bytesRow (tab4 i) (grownCap wB (tab4 i).size 0 5)) 5 ((bytesRow (tab4 i) (grownCap wB (tab4 i).size 0 5)).size, (bytesRow (tab4 i) (grownCap wB (tab4 i).size 0 5)).size + 1))).drew) ((wB.alloc (.cells (bytesRow (tab4 i) (grownCap wB (tab4 i).size 0 5)) 5 ((bytesRow (tab4 i) (grownCap wB (tab4 i).size 0 5)).size, (bytesRow (tab4 i) (grownCap wB (tab4 i).size 0 5)).size + 1))).drew).heap.size (some ⟨go, 0, none⟩) (sb (tab4 i)).length (bv (sb (tab4 i))) := Rd.of_stringAt _ _ _ _ _ hgo
       have hgo2 : go < ((wB.alloc (.cells (bytesRow (tab4 i) (grownCap wB (tab4 i).size 0 5)) 5 ((bytesRow (tab4 i) (grownCap wB (tab4 i).size 0 5)).size, (bytesRow (tab4 i) (grownCap wB (tab4 i).size 0 5)).size + 1))).drew).heap.size := by rw [<- hgo]; simp
       obtain ⟨co, hco⟩ : ∃ x, grownCap wB (tab4 i).size 0 5 = x := ⟨_, rfl⟩
       rw [hco] at hS hro hgo2 hrk hgk2 hk4 hg42 hkB |-
       obtain ⟨wD, hwD⟩ : ∃ x, (wB.alloc (.cells (bytesRow (tab4 i) co) 5 ((bytesRow (tab4 i) co).size, (bytesRow (tab4 i) co).size + 1))).drew = x := ⟨_, rfl⟩
       rw [hwD] at hS hro hgo2 hrk hgk2 hk4 hg42 hkB |-
       clear hwD hco hb7 hgo
       go_simp
       refine hK.out _ _ (Or.inr hS.out) (fun _ => ?_)
       clear hK K
       refine AnyT.take (i := 18) (v := .agg #[.int .i64 (x : Int), .int .i64 (y : Int), .slice (some ⟨gk, 0, none⟩) lk.length ck, .slice Av lv.length cv, .slice (some ⟨go, 0, none⟩) (sb (tab4 i)).length co]) rfl (by kernel_rfl) (by kernel_rfl) (by kernel_rfl) (by kernel_rfl) (fun _ _ _ h => h) (Or.inl ⟨by kernel_rfl, fun w _ => by go_simp; simp [sb_len]⟩) hS.out ?_
       refine AnyT.ready (rs := [20]) (by kernel_rfl) (by simp) ?_
       refine AllT.cons rfl (fun K hK => ?_) AllT.nil
       obtain ⟨c0, c1, c2, c3, c4⟩ := five hk4
       have f0 := hk4.frozen 0
       have f1 := hk4.frozen 1
       have f2 := hk4.frozen 2
       have f3 := hk4.frozen 3
       have f4 := hk4.frozen 4
       go_simp
       refine hK.out _ _ (Or.inl rfl) (fun _ => ?_)
       clear hK K
       refine AnyT.done (by kernel_rfl) ?_ _
       go_wp2_with fail
       go_meet
       have hk5 := ((((hk4.set_ 0 (.int .i64 (x : Int))).set_ 1 (.int .i64 (y : Int))).set_ 2 (.slice (some ⟨gk, 0, none⟩) lk.length ck)).set_ 3 (.slice Av lv.length cv)).set_ 4 (.slice (some ⟨go, 0, none⟩) (sb (tab4 i)).length co)
       have hs : (sb (tab4 i)).length = (tab4 i).size := sb_len _
       rw [hs] at hro hk5
       refine ⟨g4, gk, go, ck, co, lk, sb (tab4 i), _, _, rfl, hD ⟨by rw [hs]; exact hk5, hz4, hzk, hzo, hnk, hno, ((((hrk.set_ne hnk).set_ne hnk).set_ne hnk).set_ne hnk).set_ne hnk, by rw [hs]; exact ((((hro.set_ne hno).set_ne hno).set_ne hno).set_ne hno).set_ne hno, ((((hS.out.setCell (p := ⟨g4, 0, none⟩) hz4 _).setCell (p := ⟨g4, 1, none⟩) hz4 _).setCell (p := ⟨g4, 2, none⟩) hz4 _).setCell (p := ⟨g4, 3, none⟩) hz4 _).setCell (p := ⟨g4, 4, none⟩) hz4 _⟩, hD ⟨hlk, hlk9, sb_lt _, by rw [sb_len]; exact tab4_size i hi4⟩⟩
   · go_simp
     obtain ⟨gB, hgB⟩ : ∃ g, w4.heap.size = g := ⟨_, rfl⟩
     rw [hgB]
     have hbB : Below w4.heap.size w4 (w4.alloc (.cells #[.string ⟨#[]⟩, .string ⟨#[97]⟩, .string ⟨#[98]⟩, .string ⟨#[97, 98]⟩] 9)) := (Below.refl _ _).alloc lR _
     have hS := hD (hS.out.trans (hbB.mono hS.out.size))
     have hkB : Blk (w4.alloc (.cells #[.string ⟨#[]⟩, .string ⟨#[97]⟩, .string ⟨#[98]⟩, .string ⟨#[97, 98]⟩] 9)) gB 9 #[.string ⟨#[]⟩, .string ⟨#[97]⟩, .string ⟨#[98]⟩, .string ⟨#[97, 98]⟩] := by rw [<- hgB]; exact Blk.new _ _ _
     obtain ⟨wB, hwB⟩ : ∃ x, (w4.alloc (.cells #[.string ⟨#[]⟩, .string ⟨#[97]⟩, .string ⟨#[98]⟩, .string ⟨#[97, 98]⟩] 9)) = x := ⟨_, rfl⟩
     rw [hwB] at hS hkB |-
     clear hwB hbB hgB
     go_simp
     refine hK.out _ _ (Or.inr hS.out) (fun _ => ?_)
     clear hK K
     refine AnyT.take (i := 15) (v := .pointer (some ⟨gB, i, none⟩)) rfl (by kernel_rfl) (by kernel_rfl) (by kernel_rfl) (by kernel_rfl) (fun _ _ _ h => h) (Or.inl ⟨by kernel_rfl, fun w _ => by go_simp⟩) hS.out ?_
     refine AnyT.ready (rs := [9, 16, 19]) (by kernel_rfl) (by simp) ?_
     refine AllT.cons rfl (fun K hK => ?_) (AllT.cons rfl (fun K hK => ?_) (AllT.cons rfl (fun K hK => ?_) AllT.nil))
     · go_simp
       have hSz := hS.out.size
       refine (keysF_any _ _).mono ?_
       rintro e w9 ⟨lk, gk, ck, rfl, hrk, hlk, hlk9, hgk1, hgk2, hb9⟩
       have hS := hD (hS.out.trans (hb9.mono hS.out.size))
       have hkB := hkB.below hb9
       have hzk : wz.heap.size <= gk := by omega
       go_simp
       refine hK.out _ _ (Or.inr hS.out) (fun _ => ?_)
       clear hK K
       refine AnyT.ready (rs := [16, 19]) (by kernel_rfl) (by simp) ?_
       refine AllT.cons rfl (fun K hK => ?_) (AllT.cons rfl (fun K hK => ?_) AllT.nil)
       · have hcB : w9.cell? ⟨gB, i, none⟩ = some (.string (tab4 i)) := by rw [hkB.cell]; have hl : i < (#[Value.string ⟨#[]⟩, .string ⟨#[97]⟩, .string ⟨#[98]⟩, .string ⟨#[97, 98]⟩] : Array Value).size := hi4; rw [Array.getElem?_eq_getElem hl]; congr 1; exact tab4_at i hi4
         go_simp
         refine hK.out _ _ (Or.inr hS.out) (fun _ => ?_)
         clear hK K
         refine AnyT.ready (rs := [17, 19]) (by kernel_rfl) (by simp) ?_
         refine AllT.cons rfl (fun K hK => ?_) (AllT.cons rfl (fun K hK => ?_) AllT.nil)
         · go_simp
           obtain ⟨go, hgo⟩ : ∃ g, w9.heap.size = g := ⟨_, rfl⟩
           rw [hgo]
           have hzo : wz.heap.size <= go := by have := hS.out.size; omega
           have hb7 : Below w9.heap.size w9 ((w9.alloc (.cells (bytesRow (tab4 i) (grownCap w9 (tab4 i).size 0 5)) 5 ((bytesRow (tab4 i) (grownCap w9 (tab4 i).size 0 5)).size, (bytesRow (tab4 i) (grownCap w9 (tab4 i).size 0 5)).size + 1))).drew) := ((Below.refl _ _).alloc lR _).drew
           have hS := hD (hS.out.trans (hb7.mono hS.out.size))
           have hkB := hkB.below hb7
           have hrk := (hrk.below hb7).fit
           have hgk2 := Nat.lt_of_lt_of_le hgk2 hb7.size
           have hro : Rd ((w9.alloc (.cells (bytesRow (tab4 i) (grownCap w9 (tab4 i).size 0 5)) 5 ((bytesRow (tab4 i) (grownCap w9 (tab4 i).size 0 5)).size, (bytesRow (tab4 i) (grownCap w9 (tab4 i).size 0 5)).size + 1))).drew) ((w9.alloc (.cells (bytesRow (tab4 i) (grownCap w9 (tab4 i).size 0 5)) 5 ((bytesRow (tab4 i) (grownCap w9 (tab4 i).size 0 5)).size, (bytesRow (tab4 i) (grownCap w9 (tab4 i).size 0 5)).size + 1))).drew).heap.size (some ⟨go, 0, none⟩) (sb (tab4 i)).length (bv (sb (tab4 i))) := Rd.of_stringAt _ _ _ _ _ hgo
           have hgo2 : go < ((w9.alloc (.cells (bytesRow (tab4 i) (grownCap w9 (tab4 i).size 0 5)) 5 ((bytesRow (tab4 i) (grownCap w9 (tab4 i).size 0 5)).size, (bytesRow (tab4 i) (grownCap w9 (tab4 i).size 0 5)).size + 1))).drew).heap.size := by rw [<- hgo]; simp
           obtain ⟨co, hco⟩ : ∃ x, grownCap w9 (tab4 i).size 0 5 = x := ⟨_, rfl⟩
           rw [hco] at hS hro hgo2 hkB hrk hgk2 |-
           obtain ⟨wD, hwD⟩ : ∃ x, (w9.alloc (.cells (bytesRow (tab4 i) co) 5 ((bytesRow (tab4 i) co).size, (bytesRow (tab4 i) co).size + 1))).drew = x := ⟨_, rfl⟩
           rw [hwD] at hS hro hgo2 hkB hrk hgk2 |-
           clear hwD hco hb7 hgo
           go_simp
           refine hK.out _ _ (Or.inr hS.out) (fun _ => ?_)
           clear hK K
           refine AnyT.take (i := 18) (v := .agg #[.int .i64 (x : Int), .int .i64 (y : Int), .slice (some ⟨gk, 0, none⟩) lk.length ck, .slice Av lv.length cv, .slice (some ⟨go, 0, none⟩) (sb (tab4 i)).length co]) rfl (by kernel_rfl) (by kernel_rfl) (by kernel_rfl) (by kernel_rfl) (fun _ _ _ h => h) (Or.inl ⟨by kernel_rfl, fun w _ => by go_simp; simp [sb_len]⟩) hS.out ?_
           refine AnyT.ready (rs := [19]) (by kernel_rfl) (by simp) ?_
           refine AllT.cons rfl (fun K hK => ?_) AllT.nil
           go_simp
           obtain ⟨g4, hg4⟩ : ∃ g, wD.heap.size = g := ⟨_, rfl⟩
           rw [hg4]
           have hnk : g4 ≠ gk := by omega
           have hno : g4 ≠ go := by omega
           have hz4 : wz.heap.size <= g4 := by have := hS.out.size; omega
           have hb4 : Below wD.heap.size wD (wD.alloc (.cells #[.int .i64 0, .int .i64 0, .slice none 0 0, .slice none 0 0, .slice none 0 0] 41)) := (Below.refl _ _).alloc lR _
           have hS := hD (hS.out.trans (hb4.mono hS.out.size))
           have hrk := (hrk.below hb4).fit
           have hgk2 := Nat.lt_of_lt_of_le hgk2 hb4.size
           have hro := (hro.below hb4).fit
           have hgo2 := Nat.lt_of_lt_of_le hgo2 hb4.size
           have hk4 : Blk (wD.alloc (.cells #[.int .i64 0, .int .i64 0, .slice none 0 0, .slice none 0 0, .slice none 0 0] 41)) g4 41 #[.int .i64 0, .int .i64 0, .slice none 0 0, .slice none 0 0, .slice none 0 0] := by rw [<- hg4]; exact Blk.new _ _ _
           have hg42 := hk4.lt
           obtain ⟨wC, hwC⟩ : ∃ x, (wD.alloc (.cells #[.int .i64 0, .int .i64 0, .slice none 0 0, .slice none 0 0, .slice none 0 0] 41)) = x := ⟨_, rfl⟩
           rw [hwC] at hS hk4 hg42 hrk hgk2 hro hgo2 |-
           clear hwC hb4 hg4
           go_simp
           refine hK.out _ _ (Or.inr hS.out) (fun _ => ?_)
           clear hK K
           refine AnyT.ready (rs := [20]) (by kernel_rfl) (by simp) ?_
           refine AllT.cons rfl (fun K hK => ?_) AllT.nil
           obtain ⟨c0, c1, c2, c3, c4⟩ := five hk4
           have f0 := hk4.frozen 0
           have f1 := hk4.frozen 1
           have f2 := hk4.frozen 2
           have f3 := hk4.frozen 3
           have f4 := hk4.frozen 4
           go_simp
           refine hK.out _ _ (Or.inl rfl) (fun _ => ?_)
           clear hK K
           refine AnyT.done (by kernel_rfl) ?_ _
           go_wp2_with fail
           go_meet
           have hk5 := ((((hk4.set_ 0 (.int .i64 (x : Int))).set_ 1 (.int .i64 (y : Int))).set_ 2 (.slice (some ⟨gk, 0, none⟩) lk.length ck)).set_ 3 (.slice Av lv.length cv)).set_ 4 (.slice (some ⟨go, 0, none⟩) (sb (tab4 i)).length co)
           have hs : (sb (tab4 i)).length = (tab4 i).size := sb_len _
           rw [hs] at hro hk5
           refine ⟨g4, gk, go, ck, co, lk, sb (tab4 i), _, _, rfl, hD ⟨by rw [hs]; exact hk5, hz4, hzk, hzo, hnk, hno, ((((hrk.set_ne hnk).set_ne hnk).set_ne hnk).set_ne hnk).set_ne hnk, by rw [hs]; exact ((((hro.set_ne hno).set_ne hno).set_ne hno).set_ne hno).set_ne hno, ((((hS.out.setCell (p := ⟨g4, 0, none⟩) hz4 _).setCell (p := ⟨g4, 1, none⟩) hz4 _).setCell (p := ⟨g4, 2, none⟩) hz4 _).setCell (p := ⟨g4, 3, none⟩) hz4 _).setCell (p := ⟨g4, 4, none⟩) hz4 _⟩, hD ⟨hlk, hlk9, sb_lt _, by rw [sb_len]; exact tab4_size i hi4⟩⟩
         · go_simp
           obtain ⟨g4, hg4⟩ : ∃ g, w9.heap.size = g := ⟨_, rfl⟩
           rw [hg4]
           have hnk : g4 ≠ gk := by omega
           have hz4 : wz.heap.size <= g4 := by have := hS.out.size; omega
           have hb4 : Below w9.heap.size w9 (w9.alloc (.cells #[.int .i64 0, .int .i64 0, .slice none 0 0, .slice none 0 0, .slice none 0 0] 41)) := (Below.refl _ _).alloc lR _
           have hS := hD (hS.out.trans (hb4.mono hS.out.size))
           have hkB := hkB.below hb4
           have hrk := (hrk.below hb4).fit
           have hgk2 := Nat.lt_of_lt_of_le hgk2 hb4.size
           have hk4 : Blk (w9.alloc (.cells #[.int .i64 0, .int .i64 0, .slice none 0 0, .slice none 0 0, .slice none 0 0] 41)) g4 41 #[.int .i64 0, .int .i64 0, .slice none 0 0, .slice none 0 0, .slice none 0 0] := by rw [<- hg4]; exact Blk.new _ _ _
           have hg42 := hk4.lt
           obtain ⟨wC, hwC⟩ : ∃ x, (w9.alloc (.cells #[.int .i64 0, .int .i64 0, .slice none 0 0, .slice none 0 0, .slice none 0 0] 41)) = x := ⟨_, rfl⟩
           rw [hwC] at hS hk4 hg42 hkB hrk hgk2 |-
           clear hwC hb4 hg4
           go_simp
           refine hK.out _ _ (Or.inr hS.out) (fun _ => ?_)
           clear hK K
           refine AnyT.ready (rs := [17]) (by kernel_rfl) (by simp) ?_
           refine AllT.cons rfl (fun K hK => ?_) AllT.nil
           go_simp
           obtain ⟨go, hgo⟩ : ∃ g, wC.heap.size = g := ⟨_, rfl⟩
           rw [hgo]
           have hzo : wz.heap.size <= go := by have := hS.out.size; omega
           have hno : g4 ≠ go := by omega
           have hb7 : Below wC.heap.size wC ((wC.alloc (.cells (bytesRow (tab4 i) (grownCap wC (tab4 i).size 0 5)) 5 ((bytesRow (tab4 i) (grownCap wC (tab4 i).size 0 5)).size, (bytesRow (tab4 i) (grownCap wC (tab4 i).size 0 5)).size + 1))).drew) := ((Below.refl _ _).alloc lR _).drew
           have hS := hD (hS.out.trans (hb7.mono hS.out.size))
           have hkB := hkB.below hb7
           have hrk := (hrk.below hb7).fit
           have hgk2 := Nat.lt_of_lt_of_le hgk2 hb7.size
           have hk4 := hk4.below hb7
           have hg42 := Nat.lt_of_lt_of_le hg42 hb7.size
           have hro : Rd ((wC.alloc (.cells (bytesRow (tab4 i) (grownCap wC (tab4 i).size 0 5)) 5 ((bytesRow (tab4 i) (grownCap wC (tab4 i).size 0 5)).size, (bytesRow (tab4 i) (grownCap wC (tab4 i).size 0 5)).size + 1))).drew) ((wC.alloc (.cells (bytesRow (tab4 i) (grownCap wC (tab4 i).size 0 5)) 5 ((bytesRow (tab4 i) (grownCap wC (tab4 i).size 0 5)).size, (bytesRow (tab4 i) (grownCap wC (tab4 i).size 0 5)).size + 1))).drew).heap.size (some ⟨go, 0, none⟩) (sb (tab4 i)).length (bv (sb (tab4 i))) := Rd.of_stringAt _ _ _ _ _ hgo
           have hgo2 : go < ((wC.alloc (.cells (bytesRow (tab4 i) (grownCap wC (tab4 i).size 0 5)) 5 ((bytesRow (tab4 i) (grownCap wC (tab4 i).size 0 5)).size, (bytesRow (tab4 i) (grownCap wC (tab4 i).size 0 5)).size + 1))).drew).heap.size := by rw [<- hgo]; simp
           obtain ⟨co, hco⟩ : ∃ x, grownCap wC (tab4 i).size 0 5 = x := ⟨_, rfl⟩
           rw [hco] at hS hro hgo2 hkB hrk hgk2 hk4 hg42 |-
           obtain ⟨wD, hwD⟩ : ∃ x, (wC.alloc (.cells (bytesRow (tab4 i) co) 5 ((bytesRow (tab4 i) co).size, (bytesRow (tab4 i) co).size + 1))).drew = x := ⟨_, rfl⟩
           rw [hwD] at hS hro hgo2 hkB hrk hgk2 hk4 hg42 |-
           clear hwD hco hb7 hgo
           go_simp
           refine hK.out _ _ (Or.inr hS.out) (fun _ => ?_)
           clear hK K
           refine AnyT.take (i := 18) (v := .agg #[.int .i64 (x : Int), .int .i64 (y : Int), .slice (some ⟨gk, 0, none⟩) lk.length ck, .slice Av lv.length cv, .slice (some ⟨go, 0, none⟩) (sb (tab4 i)).length co]) rfl (by kernel_rfl) (by kernel_rfl) (by kernel_rfl) (by kernel_rfl) (fun _ _ _ h => h) (Or.inl ⟨by kernel_rfl, fun w _ => by go_simp; simp [sb_len]⟩) hS.out ?_
           refine AnyT.ready (rs := [20]) (by kernel_rfl) (by simp) ?_
           refine AllT.cons rfl (fun K hK => ?_) AllT.nil
           obtain ⟨c0, c1, c2, c3, c4⟩ := five hk4
           have f0 := hk4.frozen 0
           have f1 := hk4.frozen 1
           have f2 := hk4.frozen 2
           have f3 := hk4.frozen 3
           have f4 := hk4.frozen 4
           go_simp
           refine hK.out _ _ (Or.inl rfl) (fun _ => ?_)
           clear hK K
           refine AnyT.done (by kernel_rfl) ?_ _
           go_wp2_with fail
           go_meet
           have hk5 := ((((hk4.set_ 0 (.int .i64 (x : Int))).set_ 1 (.int .i64 (y : Int))).set_ 2 (.slice (some ⟨gk, 0, none⟩) lk.length ck)).set_ 3 (.slice Av lv.length cv)).set_ 4 (.slice (some ⟨go, 0, none⟩) (sb (tab4 i)).length co)
           have hs : (sb (tab4 i)).length = (tab4 i).size := sb_len _
           rw [hs] at hro hk5
           refine ⟨g4, gk, go, ck, co, lk, sb (tab4 i), _, _, rfl, hD ⟨by rw [hs]; exact hk5, hz4, hzk, hzo, hnk, hno, ((((hrk.set_ne hnk).set_ne hnk).set_ne hnk).set_ne hnk).set_ne hnk, by rw [hs]; exact ((((hro.set_ne hno).set_ne hno).set_ne hno).set_ne hno).set_ne hno, ((((hS.out.setCell (p := ⟨g4, 0, none⟩) hz4 _).setCell (p := ⟨g4, 1, none⟩) hz4 _).setCell (p := ⟨g4, 2, none⟩) hz4 _).setCell (p := ⟨g4, 3, none⟩) hz4 _).setCell (p := ⟨g4, 4, none⟩) hz4 _⟩, hD ⟨hlk, hlk9, sb_lt _, by rw [sb_len]; exact tab4_size i hi4⟩⟩
       · go_simp
         obtain ⟨g4, hg4⟩ : ∃ g, w9.heap.size = g := ⟨_, rfl⟩
         rw [hg4]
         have hnk : g4 ≠ gk := by omega
         have hz4 : wz.heap.size <= g4 := by have := hS.out.size; omega
         have hb4 : Below w9.heap.size w9 (w9.alloc (.cells #[.int .i64 0, .int .i64 0, .slice none 0 0, .slice none 0 0, .slice none 0 0] 41)) := (Below.refl _ _).alloc lR _
         have hS := hD (hS.out.trans (hb4.mono hS.out.size))
         have hkB := hkB.below hb4
         have hrk := (hrk.below hb4).fit
         have hgk2 := Nat.lt_of_lt_of_le hgk2 hb4.size
         have hk4 : Blk (w9.alloc (.cells #[.int .i64 0, .int .i64 0, .slice none 0 0, .slice none 0 0, .slice none 0 0] 41)) g4 41 #[.int .i64 0, .int .i64 0, .slice none 0 0, .slice none 0 0, .slice none 0 0] := by rw [<- hg4]; exact Blk.new _ _ _
         have hg42 := hk4.lt
         obtain ⟨wC, hwC⟩ : ∃ x, (w9.alloc (.cells #[.int .i64 0, .int .i64 0, .slice none 0 0, .slice none 0 0, .slice none 0 0] 41)) = x := ⟨_, rfl⟩
         rw [hwC] at hS hk4 hg42 hkB hrk hgk2 |-
         clear hwC hb4 hg4
         go_simp
         refine hK.out _ _ (Or.inr hS.out) (fun _ => ?_)
         clear hK K
         refine AnyT.ready (rs := [16]) (by kernel_rfl) (by simp) ?_
         refine AllT.cons rfl (fun K hK => ?_) AllT.nil
         have hcB : wC.cell? ⟨gB, i, none⟩ = some (.string (tab4 i)) := by rw [hkB.cell]; have hl : i < (#[Value.string ⟨#[]⟩, .string ⟨#[97]⟩, .string ⟨#[98]⟩, .string ⟨#[97, 98]⟩] : Array Value).size := hi4; rw [Array.getElem?_eq_getElem hl]; congr 1; exact tab4_at i hi4
         go_simp
         refine hK.out _ _ (Or.inr hS.out) (fun _ => ?_)
         clear hK K
         refine AnyT.ready (rs := [17]) (by kernel_rfl) (by simp) ?_
         refine AllT.cons rfl (fun K hK => ?_) AllT.nil
         go_simp
         obtain ⟨go, hgo⟩ : ∃ g, wC.heap.size = g := ⟨_, rfl⟩
         rw [hgo]
         have hzo : wz.heap.size <= go := by have := hS.out.size; omega
         have hno : g4 ≠ go := by omega
         have hb7 : Below wC.heap.size wC ((wC.alloc (.cells (bytesRow (tab4 i) (grownCap wC (tab4 i).size 0 5)) 5 ((bytesRow (tab4 i) (grownCap wC (tab4 i).size 0 5)).size, (bytesRow (tab4 i) (grownCap wC (tab4 i).size 0 5)).size + 1))).drew) := ((Below.refl _ _).alloc lR _).drew
         have hS := hD (hS.out.trans (hb7.mono hS.out.size))
         have hkB := hkB.below hb7
         have hrk := (hrk.below hb7).fit
         have hgk2 := Nat.lt_of_lt_of_le hgk2 hb7.size
         have hk4 := hk4.below hb7
         have hg42 := Nat.lt_of_lt_of_le hg42 hb7.size
         have hro : Rd ((wC.alloc (.cells (bytesRow (tab4 i) (grownCap wC (tab4 i).size 0 5)) 5 ((bytesRow (tab4 i) (grownCap wC (tab4 i).size 0 5)).size, (bytesRow (tab4 i) (grownCap wC (tab4 i).size 0 5)).size + 1))).drew) ((wC.alloc (.cells (bytesRow (tab4 i) (grownCap wC (tab4 i).size 0 5)) 5 ((bytesRow (tab4 i) (grownCap wC (tab4 i).size 0 5)).size, (bytesRow (tab4 i) (grownCap wC (tab4 i).size 0 5)).size + 1))).drew).heap.size (some ⟨go, 0, none⟩) (sb (tab4 i)).length (bv (sb (tab4 i))) := Rd.of_stringAt _ _ _ _ _ hgo
         have hgo2 : go < ((wC.alloc (.cells (bytesRow (tab4 i) (grownCap wC (tab4 i).size 0 5)) 5 ((bytesRow (tab4 i) (grownCap wC (tab4 i).size 0 5)).size, (bytesRow (tab4 i) (grownCap wC (tab4 i).size 0 5)).size + 1))).drew).heap.size := by rw [<- hgo]; simp
         obtain ⟨co, hco⟩ : ∃ x, grownCap wC (tab4 i).size 0 5 = x := ⟨_, rfl⟩
         rw [hco] at hS hro hgo2 hkB hrk hgk2 hk4 hg42 |-
         obtain ⟨wD, hwD⟩ : ∃ x, (wC.alloc (.cells (bytesRow (tab4 i) co) 5 ((bytesRow (tab4 i) co).size, (bytesRow (tab4 i) co).size + 1))).drew = x := ⟨_, rfl⟩
         rw [hwD] at hS hro hgo2 hkB hrk hgk2 hk4 hg42 |-
         clear hwD hco hb7 hgo
         go_simp
         refine hK.out _ _ (Or.inr hS.out) (fun _ => ?_)
         clear hK K
         refine AnyT.take (i := 18) (v := .agg #[.int .i64 (x : Int), .int .i64 (y : Int), .slice (some ⟨gk, 0, none⟩) lk.length ck, .slice Av lv.length cv, .slice (some ⟨go, 0, none⟩) (sb (tab4 i)).length co]) rfl (by kernel_rfl) (by kernel_rfl) (by kernel_rfl) (by kernel_rfl) (fun _ _ _ h => h) (Or.inl ⟨by kernel_rfl, fun w _ => by go_simp; simp [sb_len]⟩) hS.out ?_
         refine AnyT.ready (rs := [20]) (by kernel_rfl) (by simp) ?_
         refine AllT.cons rfl (fun K hK => ?_) AllT.nil
         obtain ⟨c0, c1, c2, c3, c4⟩ := five hk4
         have f0 := hk4.frozen 0
         have f1 := hk4.frozen 1
         have f2 := hk4.frozen 2
         have f3 := hk4.frozen 3
         have f4 := hk4.frozen 4
         go_simp
         refine hK.out _ _ (Or.inl rfl) (fun _ => ?_)
         clear hK K
         refine AnyT.done (by kernel_rfl) ?_ _
         go_wp2_with fail
         go_meet
         have hk5 := ((((hk4.set_ 0 (.int .i64 (x : Int))).set_ 1 (.int .i64 (y : Int))).set_ 2 (.slice (some ⟨gk, 0, none⟩) lk.length ck)).set_ 3 (.slice Av lv.length cv)).set_ 4 (.slice (some ⟨go, 0, none⟩) (sb (tab4 i)).length co)
         have hs : (sb (tab4 i)).length = (tab4 i).size := sb_len _
         rw [hs] at hro hk5
         refine ⟨g4, gk, go, ck, co, lk, sb (tab4 i), _, _, rfl, hD ⟨by rw [hs]; exact hk5, hz4, hzk, hzo, hnk, hno, ((((hrk.set_ne hnk).set_ne hnk).set_ne hnk).set_ne hnk).set_ne hnk, by rw [hs]; exact ((((hro.set_ne hno).set_ne hno).set_ne hno).set_ne hno).set_ne hno, ((((hS.out.setCell (p := ⟨g4, 0, none⟩) hz4 _).setCell (p := ⟨g4, 1, none⟩) hz4 _).setCell (p := ⟨g4, 2, none⟩) hz4 _).setCell (p := ⟨g4, 3, none⟩) hz4 _).setCell (p := ⟨g4, 4, none⟩) hz4 _⟩, hD ⟨hlk, hlk9, sb_lt _, by rw [sb_len]; exact tab4_size i hi4⟩⟩
     · have hcB : wB.cell? ⟨gB, i, none⟩ = some (.string (tab4 i)) := by rw [hkB.cell]; have hl : i < (#[Value.string ⟨#[]⟩, .string ⟨#[97]⟩, .string ⟨#[98]⟩, .string ⟨#[97, 98]⟩] : Array Value).size := hi4; rw [Array.getElem?_eq_getElem hl]; congr 1; exact tab4_at i hi4
       go_simp
       refine hK.out _ _ (Or.inr hS.out) (fun _ => ?_)
       clear hK K
       refine AnyT.ready (rs := [9, 17, 19]) (by kernel_rfl) (by simp) ?_
       refine AllT.cons rfl (fun K hK => ?_) (AllT.cons rfl (fun K hK => ?_) (AllT.cons rfl (fun K hK => ?_) AllT.nil))
       · go_simp
         have hSz := hS.out.size
         refine (keysF_any _ _).mono ?_
         rintro e w9 ⟨lk, gk, ck, rfl, hrk, hlk, hlk9, hgk1, hgk2, hb9⟩
         have hS := hD (hS.out.trans (hb9.mono hS.out.size))
         have hkB := hkB.below hb9
         have hzk : wz.heap.size <= gk := by omega
         go_simp
         refine hK.out _ _ (Or.inr hS.out) (fun _ => ?_)
         clear hK K
         refine AnyT.ready (rs := [17, 19]) (by kernel_rfl) (by simp) ?_
         refine AllT.cons rfl (fun K hK => ?_) (AllT.cons rfl (fun K hK => ?_) AllT.nil)
         · go_simp
           obtain ⟨go, hgo⟩ : ∃ g, w9.heap.size = g := ⟨_, rfl⟩
           rw [hgo]
           have hzo : wz.heap.size <= go := by have := hS.out.size; omega
           have hb7 : Below w9.heap.size w9 ((w9.alloc (.cells (bytesRow (tab4 i) (grownCap w9 (tab4 i).size 0 5)) 5 ((bytesRow (tab4 i) (grownCap w9 (tab4 i).size 0 5)).size, (bytesRow (tab4 i) (grownCap w9 (tab4 i).size 0 5)).size + 1))).drew) := ((Below.refl _ _).alloc lR _).drew
           have hS := hD (hS.out.trans (hb7.mono hS.out.size))
           have hkB := hkB.below hb7
           have hrk := (hrk.below hb7).fit
           have hgk2 := Nat.lt_of_lt_of_le hgk2 hb7.size
           have hro : Rd ((w9.alloc (.cells (bytesRow (tab4 i) (grownCap w9 (tab4 i).size 0 5)) 5 ((bytesRow (tab4 i) (grownCap w9 (tab4 i).size 0 5)).size, (bytesRow (tab4 i) (grownCap w9 (tab4 i).size 0 5)).size + 1))).drew) ((w9.alloc (.cells (bytesRow (tab4 i) (grownCap w9 (tab4 i).size 0 5)) 5 ((bytesRow (tab4 i) (grownCap w9 (tab4 i).size 0 5)).size, (bytesRow (tab4 i) (grownCap w9 (tab4 i).size 0 5)).size + 1))).drew).heap.size (some ⟨go, 0, none⟩) (sb (tab4 i)).length (bv (sb (tab4 i))) := Rd.of_stringAt _ _ _ _ _ hgo
           have hgo2 : go < ((w9.alloc (.cells (bytesRow (tab4 i) (grownCap w9 (tab4 i).size 0 5)) 5 ((bytesRow (tab4 i) (grownCap w9 (tab4 i).size 0 5)).size, (bytesRow (tab4 i) (grownCap w9 (tab4 i).size 0 5)).size + 1))).drew).heap.size := by rw [<- hgo]; simp
           obtain ⟨co, hco⟩ : ∃ x, grownCap w9 (tab4 i).size 0 5 = x := ⟨_, rfl⟩
           rw [hco] at hS hro hgo2 hkB hrk hgk2 |-
           obtain ⟨wD, hwD⟩ : ∃ x, (w9.alloc (.cells (bytesRow (tab4 i) co) 5 ((bytesRow (tab4 i) co).size, (bytesRow (tab4 i) co).size + 1))).drew = x := ⟨_, rfl⟩
           rw [hwD] at hS hro hgo2 hkB hrk hgk2 |-
           clear hwD hco hb7 hgo
           go_simp
           refine hK.out _ _ (Or.inr hS.out) (fun _ => ?_)
           clear hK K
           refine AnyT.take (i := 18) (v := .agg #[.int .i64 (x : Int), .int .i64 (y : Int), .slice (some ⟨gk, 0, none⟩) lk.length ck, .slice Av lv.length cv, .slice (some ⟨go, 0, none⟩) (sb (tab4 i)).length co]) rfl (by kernel_rfl) (by kernel_rfl) (by kernel_rfl) (by kernel_rfl) (fun _ _ _ h => h) (Or.inl ⟨by kernel_rfl, fun w _ => by go_simp; simp [sb_len]⟩) hS.out ?_
           refine AnyT.ready (rs := [19]) (by kernel_rfl) (by simp) ?_
           refine AllT.cons rfl (fun K hK => ?_) AllT.nil
           go_simp
           obtain ⟨g4, hg4⟩ : ∃ g, wD.heap.size = g := ⟨_, rfl⟩
           rw [hg4]
           have hnk : g4 ≠ gk := by omega
           have hno : g4 ≠ go := by omega
           have hz4 : wz.heap.size <= g4 := by have := hS.out.size; omega
           have hb4 : Below wD.heap.size wD (wD.alloc (.cells #[.int .i64 0, .int .i64 0, .slice none 0 0, .slice none 0 0, .slice none 0 0] 41)) := (Below.refl _ _).alloc lR _
           have hS := hD (hS.out.trans (hb4.mono hS.out.size))
           have hrk := (hrk.below hb4).fit
           have hgk2 := Nat.lt_of_lt_of_le hgk2 hb4.size
           have hro := (hro.below hb4).fit
           have hgo2 := Nat.lt_of_lt_of_le hgo2 hb4.size
           have hk4 : Blk (wD.alloc (.cells #[.int .i64 0, .int .i64 0, .slice none 0 0, .slice none 0 0, .slice none 0 0] 41)) g4 41 #[.int .i64 0, .int .i64 0, .slice none 0 0, .slice none 0 0, .slice none 0 0] := by rw [<- hg4]; exact Blk.new _ _ _
           have hg42 := hk4.lt
           obtain ⟨wC, hwC⟩ : ∃ x, (wD.alloc (.cells #[.int .i64 0, .int .i64 0, .slice none 0 0, .slice none 0 0, .slice none 0 0] 41)) = x := ⟨_, rfl⟩
           rw [hwC] at hS hk4 hg42 hrk hgk2 hro hgo2 |-
           clear hwC hb4 hg4
           go_simp
           refine hK.out _ _ (Or.inr hS.out) (fun _ => ?_)
           clear hK K
           refine AnyT.ready (rs := [20]) (by kernel_rfl) (by simp) ?_
           refine AllT.cons rfl (fun K hK => ?_) AllT.nil
           obtain ⟨c0, c1, c2, c3, c4⟩ := five hk4
           have f0 := hk4.frozen 0
           have f1 := hk4.frozen 1
           have f2 := hk4.frozen 2
           have f3 := hk4.frozen 3
           have f4 := hk4.frozen 4
           go_simp
           refine hK.out _ _ (Or.inl rfl) (fun _ => ?_)
           clear hK K
           refine AnyT.done (by kernel_rfl) ?_ _
           go_wp2_with fail
           go_meet
           have hk5 := ((((hk4.set_ 0 (.int .i64 (x : Int))).set_ 1 (.int .i64 (y : Int))).set_ 2 (.slice (some ⟨gk, 0, none⟩) lk.length ck)).set_ 3 (.slice Av lv.length cv)).set_ 4 (.slice (some ⟨go, 0, none⟩) (sb (tab4 i)).length co)
           have hs : (sb (tab4 i)).length = (tab4 i).size := sb_len _
           rw [hs] at hro hk5
           refine ⟨g4, gk, go, ck, co, lk, sb (tab4 i), _, _, rfl, hD ⟨by rw [hs]; exact hk5, hz4, hzk, hzo, hnk, hno, ((((hrk.set_ne hnk).set_ne hnk).set_ne hnk).set_ne hnk).set_ne hnk, by rw [hs]; exact ((((hro.set_ne hno).set_ne hno).set_ne hno).set_ne hno).set_ne hno, ((((hS.out.setCell (p := ⟨g4, 0, none⟩) hz4 _).setCell (p := ⟨g4, 1, none⟩) hz4 _).setCell (p := ⟨g4, 2, none⟩) hz4 _).setCell (p := ⟨g4, 3, none⟩) hz4 _).setCell (p := ⟨g4, 4, none⟩) hz4 _⟩, hD ⟨hlk, hlk9, sb_lt _, by rw [sb_len]; exact tab4_size i hi4⟩⟩
         · go_simp
           obtain ⟨g4, hg4⟩ : ∃ g, w9.heap.size = g := ⟨_, rfl⟩
           rw [hg4]
           have hnk : g4 ≠ gk := by omega
           have hz4 : wz.heap.size <= g4 := by have := hS.out.size; omega
           have hb4 : Below w9.heap.size w9 (w9.alloc (.cells #[.int .i64 0, .int .i64 0, .slice none 0 0, .slice none 0 0, .slice none 0 0] 41)) := (Below.refl _ _).alloc lR _
           have hS := hD (hS.out.trans (hb4.mono hS.out.size))
           have hkB := hkB.below hb4
           have hrk := (hrk.below hb4).fit
           have hgk2 := Nat.lt_of_lt_of_le hgk2 hb4.size
           have hk4 : Blk (w9.alloc (.cells #[.int .i64 0, .int .i64 0, .slice none 0 0, .slice none 0 0, .slice none 0 0] 41)) g4 41 #[.int .i64 0, .int .i64 0, .slice none 0 0, .slice none 0 0, .slice none 0 0] := by rw [<- hg4]; exact Blk.new _ _ _
           have hg42 := hk4.lt
           obtain ⟨wC, hwC⟩ : ∃ x, (w9.alloc (.cells #[.int .i64 0, .int .i64 0, .slice none 0 0, .slice none 0 0, .slice none 0 0] 41)) = x := ⟨_, rfl⟩
           rw [hwC] at hS hk4 hg42 hkB hrk hgk2 |-
           clear hwC hb4 hg4
           go_simp
           refine hK.out _ _ (Or.inr hS.out) (fun _ => ?_)
           clear hK K
           refine AnyT.ready (rs := [17]) (by kernel_rfl) (by simp) ?_
           refine AllT.cons rfl (fun K hK => ?_) AllT.nil
           go_simp
           obtain ⟨go, hgo⟩ : ∃ g, wC.heap.size = g := ⟨_, rfl⟩
           rw [hgo]
           have hzo : wz.heap.size <= go := by have := hS.out.size; omega
           have hno : g4 ≠ go := by omega
           have hb7 : Below wC.heap.size wC ((wC.alloc (.cells (bytesRow (tab4 i) (grownCap wC (tab4 i).size 0 5)) 5 ((bytesRow (tab4 i) (grownCap wC (tab4 i).size 0 5)).size, (bytesRow (tab4 i) (grownCap wC (tab4 i).size 0 5)).size + 1))).drew) := ((Below.refl _ _).alloc lR _).drew
           have hS := hD (hS.out.trans (hb7.mono hS.out.size))
           have hkB := hkB.below hb7
           have hrk := (hrk.below hb7).fit
           have hgk2 := Nat.lt_of_lt_of_le hgk2 hb7.size
           have hk4 := hk4.below hb7
           have hg42 := Nat.lt_of_lt_of_le hg42 hb7.size
           have hro : Rd ((wC.alloc (.cells (bytesRow (tab4 i) (grownCap wC (tab4 i).size 0 5)) 5 ((bytesRow (tab4 i) (grownCap wC (tab4 i).size 0 5)).size, (bytesRow (tab4 i) (grownCap wC (tab4 i).size 0 5)).size + 1))).drew) ((wC.alloc (.cells (bytesRow (tab4 i) (grownCap wC (tab4 i).size 0 5)) 5 ((bytesRow (tab4 i) (grownCap wC (tab4 i).size 0 5)).size, (bytesRow (tab4 i) (grownCap wC (tab4 i).size 0 5)).size + 1))).drew).heap.size (some ⟨go, 0, none⟩) (sb (tab4 i)).length (bv (sb (tab4 i))) := Rd.of_stringAt _ _ _ _ _ hgo
           have hgo2 : go < ((wC.alloc (.cells (bytesRow (tab4 i) (grownCap wC (tab4 i).size 0 5)) 5 ((bytesRow (tab4 i) (grownCap wC (tab4 i).size 0 5)).size, (bytesRow (tab4 i) (grownCap wC (tab4 i).size 0 5)).size + 1))).drew).heap.size := by rw [<- hgo]; simp
           obtain ⟨co, hco⟩ : ∃ x, grownCap wC (tab4 i).size 0 5 = x := ⟨_, rfl⟩
           rw [hco] at hS hro hgo2 hkB hrk hgk2 hk4 hg42 |-
           obtain ⟨wD, hwD⟩ : ∃ x, (wC.alloc (.cells (bytesRow (tab4 i) co) 5 ((bytesRow (tab4 i) co).size, (bytesRow (tab4 i) co).size + 1))).drew = x := ⟨_, rfl⟩
           rw [hwD] at hS hro hgo2 hkB hrk hgk2 hk4 hg42 |-
           clear hwD hco hb7 hgo
           go_simp
           refine hK.out _ _ (Or.inr hS.out) (fun _ => ?_)
           clear hK K
           refine AnyT.take (i := 18) (v := .agg #[.int .i64 (x : Int), .int .i64 (y : Int), .slice (some ⟨gk, 0, none⟩) lk.length ck, .slice Av lv.length cv, .slice (some ⟨go, 0, none⟩) (sb (tab4 i)).length co]) rfl (by kernel_rfl) (by kernel_rfl) (by kernel_rfl) (by kernel_rfl) (fun _ _ _ h => h) (Or.inl ⟨by kernel_rfl, fun w _ => by go_simp; simp [sb_len]⟩) hS.out ?_
           refine AnyT.ready (rs := [20]) (by kernel_rfl) (by simp) ?_
           refine AllT.cons rfl (fun K hK => ?_) AllT.nil
           obtain ⟨c0, c1, c2, c3, c4⟩ := five hk4
           have f0 := hk4.frozen 0
           have f1 := hk4.frozen 1
           have f2 := hk4.frozen 2
           have f3 := hk4.frozen 3
           have f4 := hk4.frozen 4
           go_simp
           refine hK.out _ _ (Or.inl rfl) (fun _ => ?_)
           clear hK K
           refine AnyT.done (by kernel_rfl) ?_ _
           go_wp2_with fail
           go_meet
           have hk5 := ((((hk4.set_ 0 (.int .i64 (x : Int))).set_ 1 (.int .i64 (y : Int))).set_ 2 (.slice (some ⟨gk, 0, none⟩) lk.length ck)).set_ 3 (.slice Av lv.length cv)).set_ 4 (.slice (some ⟨go, 0, none⟩) (sb (tab4 i)).length co)
           have hs : (sb (tab4 i)).length = (tab4 i).size := sb_len _
           rw [hs] at hro hk5
           refine ⟨g4, gk, go, ck, co, lk, sb (tab4 i), _, _, rfl, hD ⟨by rw [hs]; exact hk5, hz4, hzk, hzo, hnk, hno, ((((hrk.set_ne hnk).set_ne hnk).set_ne hnk).set_ne hnk).set_ne hnk, by rw [hs]; exact ((((hro.set_ne hno).set_ne hno).set_ne hno).set_ne hno).set_ne hno, ((((hS.out.setCell (p := ⟨g4, 0, none⟩) hz4 _).setCell (p := ⟨g4, 1, none⟩) hz4 _).setCell (p := ⟨g4, 2, none⟩) hz4 _).setCell (p := ⟨g4, 3, none⟩) hz4 _).setCell (p := ⟨g4, 4, none⟩) hz4 _⟩, hD ⟨hlk, hlk9, sb_lt _, by rw [sb_len]; exact tab4_size i hi4⟩⟩
       · go_simp
         obtain ⟨go, hgo⟩ : ∃ g, wB.heap.size = g := ⟨_, rfl⟩
         rw [hgo]
         have hzo : wz.heap.size <= go := by have := hS.out.size; omega
         have hb7 : Below wB.heap.size wB ((wB.alloc (.cells (bytesRow (tab4 i) (grownCap wB (tab4 i).size 0 5)) 5 ((bytesRow (tab4 i) (grownCap wB (tab4 i).size 0 5)).size, (bytesRow (tab4 i) (grownCap wB (tab4 i).size 0 5)).size + 1))).drew) := ((Below.refl _ _).alloc lR _).drew
         have hS := hD (hS.out.trans (hb7.mono hS.out.size))
         have hkB := hkB.below hb7
         have hro : Rd ((wB.alloc (.cells (bytesRow (tab4 i) (grownCap wB (tab4 i).size 0 5)) 5 ((bytesRow (tab4 i) (grownCap wB (tab4 i).size 0 5)).size, (bytesRow (tab4 i) (grownCap wB (tab4 i).size 0 5)).size + 1))).drew) ((wB.alloc (.cells (bytesRow (tab4 i) (grownCap wB (tab4 i).size 0 5)) 5 ((bytesRow (tab4 i) (grownCap wB (tab4 i).size 0 5)).size, (bytesRow (tab4 i) (grownCap wB (tab4 i).size 0 5)).size + 1))).drew).heap.size (some ⟨go, 0, none⟩) (sb (tab4 i)).length (bv (sb (tab4 i))) := Rd.of_stringAt _ _ _ _ _ hgo
         have hgo2 : go < ((wB.alloc (.cells (bytesRow (tab4 i) (grownCap wB (tab4 i).size 0 5)) 5 ((bytesRow (tab4 i) (grownCap wB (tab4 i).size 0 5)).size, (bytesRow (tab4 i) (grownCap wB (tab4 i).size 0 5)).size + 1))).drew).heap.size := by rw [<- hgo]; simp
         obtain ⟨co, hco⟩ : ∃ x, grownCap wB (tab4 i).size 0 5 = x := ⟨_, rfl⟩
         rw [hco] at hS hro hgo2 hkB |-
         obtain ⟨wD, hwD⟩ : ∃ x, (wB.alloc (.cells (bytesRow (tab4 i) co) 5 ((bytesRow (tab4 i) co).size, (bytesRow (tab4 i) co).size + 1))).drew = x := ⟨_, rfl⟩
         rw [hwD] at hS hro hgo2 hkB |-
         clear hwD hco hb7 hgo
         go_simp
         refine hK.out _ _ (Or.inr hS.out) (fun _ => ?_)
         clear hK K
         refine AnyT.ready (rs := [9, 19]) (by kernel_rfl) (by simp) ?_
         refine AllT.cons rfl (fun K hK => ?_) (AllT.cons rfl (fun K hK => ?_) AllT.nil)
         · go_simp
           have hSz := hS.out.size
           refine (keysF_any _ _).mono ?_
           rintro e w9 ⟨lk, gk, ck, rfl, hrk, hlk, hlk9, hgk1, hgk2, hb9⟩
           have hS := hD (hS.out.trans (hb9.mono hS.out.size))
           have hro := (hro.below hb9).fit
           have hgo2 := Nat.lt_of_lt_of_le hgo2 hb9.size
           have hzk : wz.heap.size <= gk := by omega
           go_simp
           refine hK.out _ _ (Or.inr hS.out) (fun _ => ?_)
           clear hK K
           refine AnyT.take (i := 18) (v := .agg #[.int .i64 (x : Int), .int .i64 (y : Int), .slice (some ⟨gk, 0, none⟩) lk.length ck, .slice Av lv.length cv, .slice (some ⟨go, 0, none⟩) (sb (tab4 i)).length co]) rfl (by kernel_rfl) (by kernel_rfl) (by kernel_rfl) (by kernel_rfl) (fun _ _ _ h => h) (Or.inl ⟨by kernel_rfl, fun w _ => by go_simp; simp [sb_len]⟩) hS.out ?_
           refine AnyT.ready (rs := [19]) (by kernel_rfl) (by simp) ?_
           refine AllT.cons rfl (fun K hK => ?_) AllT.nil
           go_simp
           obtain ⟨g4, hg4⟩ : ∃ g, w9.heap.size = g := ⟨_, rfl⟩
           rw [hg4]
           have hnk : g4 ≠ gk := by omega
           have hno : g4 ≠ go := by omega
           have hz4 : wz.heap.size <= g4 := by have := hS.out.size; omega
           have hb4 : Below w9.heap.size w9 (w9.alloc (.cells #[.int .i64 0, .int .i64 0, .slice none 0 0, .slice none 0 0, .slice none 0 0] 41)) := (Below.refl _ _).alloc lR _
           have hS := hD (hS.out.trans (hb4.mono hS.out.size))
           have hro := (hro.below hb4).fit
           have hgo2 := Nat.lt_of_lt_of_le hgo2 hb4.size
           have hrk := (hrk.below hb4).fit
           have hgk2 := Nat.lt_of_lt_of_le hgk2 hb4.size
           have hk4 : Blk (w9.alloc (.cells #[.int .i64 0, .int .i64 0, .slice none 0 0, .slice none 0 0, .slice none 0 0] 41)) g4 41 #[.int .i64 0, .int .i64 0, .slice none 0 0, .slice none 0 0, .slice none 0 0] := by rw [<- hg4]; exact Blk.new _ _ _
           have hg42 := hk4.lt
           obtain ⟨wC, hwC⟩ : ∃ x, (w9.alloc (.cells #[.int .i64 0, .int .i64 0, .slice none 0 0, .slice none 0 0, .slice none 0 0] 41)) = x := ⟨_, rfl⟩
           rw [hwC] at hS hk4 hg42 hro hgo2 hrk hgk2 |-
           clear hwC hb4 hg4
           go_simp
           refine hK.out _ _ (Or.inr hS.out) (fun _ => ?_)
           clear hK K
           refine AnyT.ready (rs := [20]) (by kernel_rfl) (by simp) ?_
           refine AllT.cons rfl (fun K hK => ?_) AllT.nil
           obtain ⟨c0, c1, c2, c3, c4⟩ := five hk4
           have f0 := hk4.frozen 0
           have f1 := hk4.frozen 1
           have f2 := hk4.frozen 2
           have f3 := hk4.frozen 3
           have f4 := hk4.frozen 4
           go_simp
           refine hK.out _ _ (Or.inl rfl) (fun _ => ?_)
           clear hK K
           refine AnyT.done (by kernel_rfl) ?_ _
           go_wp2_with fail
           go_meet
           have hk5 := ((((hk4.set_ 0 (.int .i64 (x : Int))).set_ 1 (.int .i64 (y : Int))).set_ 2 (.slice (some ⟨gk, 0, none⟩) lk.length ck)).set_ 3 (.slice Av lv.length cv)).set_ 4 (.slice (some ⟨go, 0, none⟩) (sb (tab4 i)).length co)
           have hs : (sb (tab4 i)).length = (tab4 i).size := sb_len _
           rw [hs] at hro hk5
           refine ⟨g4, gk, go, ck, co, lk, sb (tab4 i), _, _, rfl, hD ⟨by rw [hs]; exact hk5, hz4, hzk, hzo, hnk, hno, ((((hrk.set_ne hnk).set_ne hnk).set_ne hnk).set_ne hnk).set_ne hnk, by rw [hs]; exact ((((hro.set_ne hno).set_ne hno).set_ne hno).set_ne hno).set_ne hno, ((((hS.out.setCell (p := ⟨g4, 0, none⟩) hz4 _).setCell (p := ⟨g4, 1, none⟩) hz4 _).setCell (p := ⟨g4, 2, none⟩) hz4 _).setCell (p := ⟨g4, 3, none⟩) hz4 _).setCell (p := ⟨g4, 4, none⟩) hz4 _⟩, hD ⟨hlk, hlk9, sb_lt _, by rw [sb_len]; exact tab4_size i hi4⟩⟩
         · go_simp
           obtain ⟨g4, hg4⟩ : ∃ g, wD.heap.size = g := ⟨_, rfl⟩
           rw [hg4]
           have hno : g4 ≠ go := by omega
           have hz4 : wz.heap.size <= g4 := by have := hS.out.size; omega
           have hb4 : Below wD.heap.size wD (wD.alloc (.cells #[.int .i64 0, .int .i64 0, .slice none 0 0, .slice none 0 0, .slice none 0 0] 41)) := (Below.refl _ _).alloc lR _
           have hS := hD (hS.out.trans (hb4.mono hS.out.size))
           have hro := (hro.below hb4).fit
           have hgo2 := Nat.lt_of_lt_of_le hgo2 hb4.size
           have hk4 : Blk (wD.alloc (.cells #[.int .i64 0, .int .i64 0, .slice none 0 0, .slice none 0 0, .slice none 0 0] 41)) g4 41 #[.int .i64 0, .int .i64 0, .slice none 0 0, .slice none 0 0, .slice none 0 0] := by rw [<- hg4]; exact Blk.new _ _ _
           have hg42 := hk4.lt
           obtain ⟨wC, hwC⟩ : ∃ x, (wD.alloc (.cells #[.int .i64 0, .int .i64 0, .slice none 0 0, .slice none 0 0, .slice none 0 0] 41)) = x := ⟨_, rfl⟩
           rw [hwC] at hS hk4 hg42 hro hgo2 |-
           clear hwC hb4 hg4
           go_simp
           refine hK.out _ _ (Or.inr hS.out) (fun _ => ?_)
           clear hK K
           refine AnyT.ready (rs := [9]) (by kernel_rfl) (by simp) ?_
           refine AllT.cons rfl (fun K hK => ?_) AllT.nil
           go_simp
           have hSz := hS.out.size
           refine (keysF_any _ _).mono ?_
           have hg4o := hg42
           rintro e w9 ⟨lk, gk, ck, rfl, hrk, hlk, hlk9, hgk1, hgk2, hb9⟩
           have hS := hD (hS.out.trans (hb9.mono hS.out.size))
           have hro := (hro.below hb9).fit
           have hgo2 := Nat.lt_of_lt_of_le hgo2 hb9.size
           have hk4 := hk4.below hb9
           have hg42 := Nat.lt_of_lt_of_le hg42 hb9.size
           have hzk : wz.heap.size <= gk := by omega
           have hnk : g4 ≠ gk := by omega
           go_simp
           refine hK.out _ _ (Or.inr hS.out) (fun _ => ?_)
           clear hK K
           refine AnyT.take (i := 18) (v := .agg #[.int .i64 (x : Int), .int .i64 (y : Int), .slice (some ⟨gk, 0, none⟩) lk.length ck, .slice Av lv.length cv, .slice (some ⟨go, 0, none⟩) (sb (tab4 i)).length co]) rfl (by kernel_rfl) (by kernel_rfl) (by kernel_rfl) (by kernel_rfl) (fun _ _ _ h => h) (Or.inl ⟨by kernel_rfl, fun w _ => by go_simp; simp [sb_len]⟩) hS.out ?_
           refine AnyT.ready (rs := [20]) (by kernel_rfl) (by simp) ?_
           refine AllT.cons rfl (fun K hK => ?_) AllT.nil
           obtain ⟨c0, c1, c2, c3, c4⟩ := five hk4
           have f0 := hk4.frozen 0
           have f1 := hk4.frozen 1
           have f2 := hk4.frozen 2
           have f3 := hk4.frozen 3
           have f4 := hk4.frozen 4
           go_simp
           refine hK.out _ _ (Or.inl rfl) (fun _ => ?_)
           clear hK K
           refine AnyT.done (by kernel_rfl) ?_ _
           go_wp2_with fail
           go_meet
           have hk5 := ((((hk4.set_ 0 (.int .i64 (x : Int))).set_ 1 (.int .i64 (y : Int))).set_ 2 (.slice (some ⟨gk, 0, none⟩) lk.length ck)).set_ 3 (.slice Av lv.length cv)).set_ 4 (.slice (some ⟨go, 0, none⟩) (sb (tab4 i)).length co)
           have hs : (sb (tab4 i)).length = (tab4 i).size := sb_len _
           rw [hs] at hro hk5
           refine ⟨g4, gk, go, ck, co, lk, sb (tab4 i), _, _, rfl, hD ⟨by rw [hs]; exact hk5, hz4, hzk, hzo, hnk, hno, ((((hrk.set_ne hnk).set_ne hnk).set_ne hnk).set_ne hnk).set_ne hnk, by rw [hs]; exact ((((hro.set_ne hno).set_ne hno).set_ne hno).set_ne hno).set_ne hno, ((((hS.out.setCell (p := ⟨g4, 0, none⟩) hz4 _).setCell (p := ⟨g4, 1, none⟩) hz4 _).setCell (p := ⟨g4, 2, none⟩) hz4 _).setCell (p := ⟨g4, 3, none⟩) hz4 _).setCell (p := ⟨g4, 4, none⟩) hz4 _⟩, hD ⟨hlk, hlk9, sb_lt _, by rw [sb_len]; exact tab4_size i hi4⟩⟩
       · go_simp
         obtain ⟨g4, hg4⟩ : ∃ g, wB.heap.size = g := ⟨_, rfl⟩
         rw [hg4]
         have hz4 : wz.heap.size <= g4 := by have := hS.out.size; omega
         have hb4 : Below wB.heap.size wB (wB.alloc (.cells #[.int .i64 0, .int .i64 0, .slice none 0 0, .slice none 0 0, .slice none 0 0] 41)) := (Below.refl _ _).alloc lR _
         have hS := hD (hS.out.trans (hb4.mono hS.out.size))
         have hkB := hkB.below hb4
         have hk4 : Blk (wB.alloc (.cells #[.int .i64 0, .int .i64 0, .slice none 0 0, .slice none 0 0, .slice none 0 0] 41)) g4 41 #[.int .i64 0, .int .i64 0, .slice none 0 0, .slice none 0 0, .slice none 0 0] := by rw [<- hg4]; exact Blk.new _ _ _
         have hg42 := hk4.lt
         obtain ⟨wC, hwC⟩ : ∃ x, (wB.alloc (.cells #[.int .i64 0, .int .i64 0, .slice none 0 0, .slice none 0 0, .slice none 0 0] 41)) = x := ⟨_, rfl⟩
         rw [hwC] at hS hk4 hg42 hkB |-
         clear hwC hb4 hg4
         go_simp
         refine hK.out _ _ (Or.inr hS.out) (fun _ => ?_)
         clear hK K
         refine AnyT.ready (rs := [9, 17]) (by kernel_rfl) (by simp) ?_
         refine AllT.cons rfl (fun K hK => ?_) (AllT.cons rfl (fun K hK => ?_) AllT.nil)
         · go_simp
           have hSz := hS.out.size
           refine (keysF_any _ _).mono ?_
           have hg4o := hg42
           rintro e w9 ⟨lk, gk, ck, rfl, hrk, hlk, hlk9, hgk1, hgk2, hb9⟩
           have hS := hD (hS.out.trans (hb9.mono hS.out.size))
           have hkB := hkB.below hb9
           have hk4 := hk4.below hb9
           have hg42 := Nat.lt_of_lt_of_le hg42 hb9.size
           have hzk : wz.heap.size <= gk := by omega
           have hnk : g4 ≠ gk := by omega
           go_simp
           refine hK.out _ _ (Or.inr hS.out) (fun _ => ?_)
           clear hK K
           refine AnyT.ready (rs := [17]) (by kernel_rfl) (by simp) ?_
           refine AllT.cons rfl (fun K hK => ?_) AllT.nil
           go_simp
           obtain ⟨go, hgo⟩ : ∃ g, w9.heap.size = g := ⟨_, rfl⟩
           rw [hgo]
           have hzo : wz.heap.size <= go := by have := hS.out.size; omega
           have hno : g4 ≠ go := by omega
           have hb7 : Below w9.heap.size w9 ((w9.alloc (.cells (bytesRow (tab4 i) (grownCap w9 (tab4 i).size 0 5)) 5 ((bytesRow (tab4 i) (grownCap w9 (tab4 i).size 0 5)).size, (bytesRow (tab4 i) (grownCap w9 (tab4 i).size 0 5)).size + 1))).drew) := ((Below.refl _ _).alloc lR _).drew
           have hS := hD (hS.out.trans (hb7.mono hS.out.size))
           have hkB := hkB.below hb7
           have hk4 := hk4.below hb7
           have hg42 := Nat.lt_of_lt_of_le hg42 hb7.size
           have hrk := (hrk.below hb7).fit
           have hgk2 := Nat.lt_of_lt_of_le hgk2 hb7.size
           have hro : Rd ((w9.alloc (.cells (bytesRow (tab4 i) (grownCap w9 (tab4 i).size 0 5)) 5 ((bytesRow (tab4 i) (grownCap w9 (tab4 i).size 0 5)).size, (bytesRow (tab4 i) (grownCap w9 (tab4 i).size 0 5)).size + 1))).drew) ((w9.alloc (.cells (bytesRow (tab4 i) (grownCap w9 (tab4 i).size 0 5)) 5 ((bytesRow (tab4 i) (grownCap w9 (tab4 i).size 0 5)).size, (bytesRow (tab4 i) (grownCap w9 (tab4 i).size 0 5)).size + 1))).drew).heap.size (some ⟨go, 0, none⟩) (sb (tab4 i)).length (bv (sb (tab4 i))) := Rd.of_stringAt _ _ _ _ _ hgo
           have hgo2 : go < ((w9.alloc (.cells (bytesRow (tab4 i) (grownCap w9 (tab4 i).size 0 5)) 5 ((bytesRow (tab4 i) (grownCap w9 (tab4 i).size 0 5)).size, (bytesRow (tab4 i) (grownCap w9 (tab4 i).size 0 5)).size + 1))).drew).heap.size := by rw [<- hgo]; simp
           obtain ⟨co, hco⟩ : ∃ x, grownCap w9 (tab4 i).size 0 5 = x := ⟨_, rfl⟩
           rw [hco] at hS hro hgo2 hkB hk4 hg42 hrk hgk2 |-
           obtain ⟨wD, hwD⟩ : ∃ x, (w9.alloc (.cells (bytesRow (tab4 i) co) 5 ((bytesRow (tab4 i) co).size, (bytesRow (tab4 i) co).size + 1))).drew = x := ⟨_, rfl⟩
           rw [hwD] at hS hro hgo2 hkB hk4 hg42 hrk hgk2 |-
           clear hwD hco hb7 hgo
           go_simp
           refine hK.out _ _ (Or.inr hS.out) (fun _ => ?_)
           clear hK K
           refine AnyT.take (i := 18) (v := .agg #[.int .i64 (x : Int), .int .i64 (y : Int), .slice (some ⟨gk, 0, none⟩) lk.length ck, .slice Av lv.length cv, .slice (some ⟨go, 0, none⟩) (sb (tab4 i)).length co]) rfl (by kernel_rfl) (by kernel_rfl) (by kernel_rfl) (by kernel_rfl) (fun _ _ _ h => h) (Or.inl ⟨by kernel_rfl, fun w _ => by go_simp; simp [sb_len]⟩) hS.out ?_
           refine AnyT.ready (rs := [20]) (by kernel_rfl) (by simp) ?_
           refine AllT.cons rfl (fun K hK => ?_) AllT.nil
           obtain ⟨c0, c1, c2, c3, c4⟩ := five hk4
           have f0 := hk4.frozen 0
           have f1 := hk4.frozen 1
           have f2 := hk4.frozen 2
           have f3 := hk4.frozen 3
           have f4 := hk4.frozen 4
           go_simp
           refine hK.out _ _ (Or.inl rfl) (fun _ => ?_)
           clear hK K
           refine AnyT.done (by kernel_rfl) ?_ _
           go_wp2_with fail
           go_meet
           have hk5 := ((((hk4.set_ 0 (.int .i64 (x : Int))).set_ 1 (.int .i64 (y : Int))).set_ 2 (.slice (some ⟨gk, 0, none⟩) lk.length ck)).set_ 3 (.slice Av lv.length cv)).set_ 4 (.slice (some ⟨go, 0, none⟩) (sb (tab4 i)).length co)
           have hs : (sb (tab4 i)).length = (tab4 i).size := sb_len _
           rw [hs] at hro hk5
           refine ⟨g4, gk, go, ck, co, lk, sb (tab4 i), _, _, rfl, hD ⟨by rw [hs]; exact hk5, hz4, hzk, hzo, hnk, hno, ((((hrk.set_ne hnk).set_ne hnk).set_ne hnk).set_ne hnk).set_ne hnk, by rw [hs]; exact ((((hro.set_ne hno).set_ne hno).set_ne hno).set_ne hno).set_ne hno, ((((hS.out.setCell (p := ⟨g4, 0, none⟩) hz4 _).setCell (p := ⟨g4, 1, none⟩) hz4 _).setCell (p := ⟨g4, 2, none⟩) hz4 _).setCell (p := ⟨g4, 3, none⟩) hz4 _).setCell (p := ⟨g4, 4, none⟩) hz4 _⟩, hD ⟨hlk, hlk9, sb_lt _, by rw [sb_len]; exact tab4_size i hi4⟩⟩
         · go_simp
           obtain ⟨go, hgo⟩ : ∃ g, wC.heap.size = g := ⟨_, rfl⟩
           rw [hgo]
           have hzo : wz.heap.size <= go := by have := hS.out.size; omega
           have hno : g4 ≠ go := by omega
           have hb7 : Below wC.heap.size wC ((wC.alloc (.cells (bytesRow (tab4 i) (grownCap wC (tab4 i).size 0 5)) 5 ((bytesRow (tab4 i) (grownCap wC (tab4 i).size 0 5)).size, (bytesRow (tab4 i) (grownCap wC (tab4 i).size 0 5)).size + 1))).drew) := ((Below.refl _ _).alloc lR _).drew
           have hS := hD (hS.out.trans (hb7.mono hS.out.size))
           have hkB := hkB.below hb7
           have hk4 := hk4.below hb7
           have hg42 := Nat.lt_of_lt_of_le hg42 hb7.size
           have hro : Rd ((wC.alloc (.cells (bytesRow (tab4 i) (grownCap wC (tab4 i).size 0 5)) 5 ((bytesRow (tab4 i) (grownCap wC (tab4 i).size 0 5)).size, (bytesRow (tab4 i) (grownCap wC (tab4 i).size 0 5)).size + 1))).drew) ((wC.alloc (.cells (bytesRow (tab4 i) (grownCap wC (tab4 i).size 0 5)) 5 ((bytesRow (tab4 i) (grownCap wC (tab4 i).size 0 5)).size, (bytesRow (tab4 i) (grownCap wC (tab4 i).size 0 5)).size + 1))).drew).heap.size (some ⟨go, 0, none⟩) (sb (tab4 i)).length (bv (sb (tab4 i))) := Rd.of_stringAt _ _ _ _ _ hgo
           have hgo2 : go < ((wC.alloc (.cells (bytesRow (tab4 i) (grownCap wC (tab4 i).size 0 5)) 5 ((bytesRow (tab4 i) (grownCap wC (tab4 i).size 0 5)).size, (bytesRow (tab4 i) (grownCap wC (tab4 i).size 0 5)).size + 1))).drew).heap.size := by rw [<- hgo]; simp
           obtain ⟨co, hco⟩ : ∃ x, grownCap wC (tab4 i).size 0 5 = x := ⟨_, rfl⟩
           rw [hco] at hS hro hgo2 hkB hk4 hg42 |-
           obtain ⟨wD, hwD⟩ : ∃ x, (wC.alloc (.cells (bytesRow (tab4 i) co) 5 ((bytesRow (tab4 i) co).size, (bytesRow (tab4 i) co).size + 1))).drew = x := ⟨_, rfl⟩
           rw [hwD] at hS hro hgo2 hkB hk4 hg42 |-
           clear hwD hco hb7 hgo
           go_simp
           refine hK.out _ _ (Or.inr hS.out) (fun _ => ?_)
           clear hK K
           refine AnyT.ready (rs := [9]) (by kernel_rfl) (by simp) ?_
           refine AllT.cons rfl (fun K hK => ?_) AllT.nil
           go_simp
           have hSz := hS.out.size
           refine (keysF_any _ _).mono ?_
           have hg4o := hg42
           rintro e w9 ⟨lk, gk, ck, rfl, hrk, hlk, hlk9, hgk1, hgk2, hb9⟩
           have hS := hD (hS.out.trans (hb9.mono hS.out.size))
           have hk4 := hk4.below hb9
           have hg42 := Nat.lt_of_lt_of_le hg42 hb9.size
           have hro := (hro.below hb9).fit
           have hgo2 := Nat.lt_of_lt_of_le hgo2 hb9.size
           have hzk : wz.heap.size <= gk := by omega
           have hnk : g4 ≠ gk := by omega
           go_simp
           refine hK.out _ _ (Or.inr hS.out) (fun _ => ?_)
           clear hK K
           refine AnyT.take (i := 18) (v := .agg #[.int .i64 (x : Int), .int .i64 (y : Int), .slice (some ⟨gk, 0, none⟩) lk.length ck, .slice Av lv.length cv, .slice (some ⟨go, 0, none⟩) (sb (tab4 i)).length co]) rfl (by kernel_rfl) (by kernel_rfl) (by kernel_rfl) (by kernel_rfl) (fun _ _ _ h => h) (Or.inl ⟨by kernel_rfl, fun w _ => by go_simp; simp [sb_len]⟩) hS.out ?_
           refine AnyT.ready (rs := [20]) (by kernel_rfl) (by simp) ?_
           refine AllT.cons rfl (fun K hK => ?_) AllT.nil
           obtain ⟨c0, c1, c2, c3, c4⟩ := five hk4
           have f0 := hk4.frozen 0
           have f1 := hk4.frozen 1
           have f2 := hk4.frozen 2
           have f3 := hk4.frozen 3
           have f4 := hk4.frozen 4
           go_simp
           refine hK.out _ _ (Or.inl rfl) (fun _ => ?_)
           clear hK K
           refine AnyT.done (by kernel_rfl) ?_ _
           go_wp2_with fail
           go_meet
           have hk5 := ((((hk4.set_ 0 (.int .i64 (x : Int))).set_ 1 (.int .i64 (y : Int))).set_ 2 (.slice (some ⟨gk, 0, none⟩) lk.length ck)).set_ 3 (.slice Av lv.length cv)).set_ 4 (.slice (some ⟨go, 0, none⟩) (sb (tab4 i)).length co)
           have hs : (sb (tab4 i)).length = (tab4 i).size := sb_len _
           rw [hs] at hro hk5
           refine ⟨g4, gk, go, ck, co, lk, sb (tab4 i), _, _, rfl, hD ⟨by rw [hs]; exact hk5, hz4, hzk, hzo, hnk, hno, ((((hrk.set_ne hnk).set_ne hnk).set_ne hnk).set_ne hnk).set_ne hnk, by rw [hs]; exact ((((hro.set_ne hno).set_ne hno).set_ne hno).set_ne hno).set_ne hno, ((((hS.out.setCell (p := ⟨g4, 0, none⟩) hz4 _).setCell (p := ⟨g4, 1, none⟩) hz4 _).setCell (p := ⟨g4, 2, none⟩) hz4 _).setCell (p := ⟨g4, 3, none⟩) hz4 _).setCell (p := ⟨g4, 4, none⟩) hz4 _⟩, hD ⟨hlk, hlk9, sb_lt _, by rw [sb_len]; exact tab4_size i hi4⟩⟩
     · go_simp
       obtain ⟨g4, hg4⟩ : ∃ g, wB.heap.size = g := ⟨_, rfl⟩
       rw [hg4]
       have hz4 : wz.heap.size <= g4 := by have := hS.out.size; omega
       have hb4 : Below wB.heap.size wB (wB.alloc (.cells #[.int .i64 0, .int .i64 0, .slice none 0 0, .slice none 0 0, .slice none 0 0] 41)) := (Below.refl _ _).alloc lR _
       have hS := hD (hS.out.trans (hb4.mono hS.out.size))
       have hkB := hkB.below hb4
       have hk4 : Blk (wB.alloc (.cells #[.int .i64 0, .int .i64 0, .slice none 0 0, .slice none 0 0, .slice none 0 0] 41)) g4 41 #[.int .i64 0, .int .i64 0, .slice none 0 0, .slice none 0 0, .slice none 0 0] := by rw [<- hg4]; exact Blk.new _ _ _
       have hg42 := hk4.lt
       obtain ⟨wC, hwC⟩ : ∃ x, (wB.alloc (.cells #[.int .i64 0, .int .i64 0, .slice none 0 0, .slice none 0 0, .slice none 0 0] 41)) = x := ⟨_, rfl⟩
       rw [hwC] at hS hk4 hg42 hkB |-
       clear hwC hb4 hg4
       go_simp
       refine hK.out _ _ (Or.inr hS.out) (fun _ => ?_)
       clear hK K
       refine AnyT.ready (rs := [9, 16]) (by kernel_rfl) (by simp) ?_
       refine AllT.cons rfl (fun K hK => ?_) (AllT.cons rfl (fun K hK => ?_) AllT.nil)
       · go_simp
         have hSz := hS.out.size
         refine (keysF_any _ _).mono ?_
         have hg4o := hg42
         rintro e w9 ⟨lk, gk, ck, rfl, hrk, hlk, hlk9, hgk1, hgk2, hb9⟩
         have hS := hD (hS.out.trans (hb9.mono hS.out.size))
         have hkB := hkB.below hb9
         have hk4 := hk4.below hb9
         have hg42 := Nat.lt_of_lt_of_le hg42 hb9.size
         have hzk : wz.heap.size <= gk := by omega
         have hnk : g4 ≠ gk := by omega
         go_simp
         refine hK.out _ _ (Or.inr hS.out) (fun _ => ?_)
         clear hK K
         refine AnyT.ready (rs := [16]) (by kernel_rfl) (by simp) ?_
         refine AllT.cons rfl (fun K hK => ?_) AllT.nil
         have hcB : w9.cell? ⟨gB, i, none⟩ = some (.string (tab4 i)) := by rw [hkB.cell]; have hl : i < (#[Value.string ⟨#[]⟩, .string ⟨#[97]⟩, .string ⟨#[98]⟩, .string ⟨#[97, 98]⟩] : Array Value).size := hi4; rw [Array.getElem?_eq_getElem hl]; congr 1; exact tab4_at i hi4
         go_simp
         refine hK.out _ _ (Or.inr hS.out) (fun _ => ?_)
         clear hK K
         refine AnyT.ready (rs := [17]) (by kernel_rfl) (by simp) ?_
         refine AllT.cons rfl (fun K hK => ?_) AllT.nil
         go_simp
         obtain ⟨go, hgo⟩ : ∃ g, w9.heap.size = g := ⟨_, rfl⟩
         rw [hgo]
         have hzo : wz.heap.size <= go := by have := hS.out.size; omega
         have hno : g4 ≠ go := by omega
         have hb7 : Below w9.heap.size w9 ((w9.alloc (.cells (bytesRow (tab4 i) (grownCap w9 (tab4 i).size 0 5)) 5 ((bytesRow (tab4 i) (grownCap w9 (tab4 i).size 0 5)).size, (bytesRow (tab4 i) (grownCap w9 (tab4 i).size 0 5)).size + 1))).drew) := ((Below.refl _ _).alloc lR _).drew
         have hS := hD (hS.out.trans (hb7.mono hS.out.size))
         have hkB := hkB.below hb7
         have hk4 := hk4.below hb7
         have hg42 := Nat.lt_of_lt_of_le hg42 hb7.size
         have hrk := (hrk.below hb7).fit
         have hgk2 := Nat.lt_of_lt_of_le hgk2 hb7.size
         have hro : Rd ((w9.alloc (.cells (bytesRow (tab4 i) (grownCap w9 (tab4 i).size 0 5)) 5 ((bytesRow (tab4 i) (grownCap w9 (tab4 i).size 0 5)).size, (bytesRow (tab4 i) (grownCap w9 (tab4 i).size 0 5)).size + 1))).drew) ((w9.alloc (.cells (bytesRow (tab4 i) (grownCap w9 (tab4 i).size 0 5)) 5 ((bytesRow (tab4 i) (grownCap w9 (tab4 i).size 0 5)).size, (bytesRow (tab4 i) (grownCap w9 (tab4 i).size 0 5)).size + 1))).drew).heap.size (some ⟨go, 0, none⟩) (sb (tab4 i)).length (bv (sb (tab4 i))) := Rd.of_stringAt _ _ _ _ _ hgo
         have hgo2 : go < ((w9.alloc (.cells (bytesRow (tab4 i) (grownCap w9 (tab4 i).size 0 5)) 5 ((bytesRow (tab4 i) (grownCap w9 (tab4 i).size 0 5)).size, (bytesRow (tab4 i) (grownCap w9 (tab4 i).size 0 5)).size + 1))).drew).heap.size := by rw [<- hgo]; simp
         obtain ⟨co, hco⟩ : ∃ x, grownCap w9 (tab4 i).size 0 5 = x := ⟨_, rfl⟩
         rw [hco] at hS hro hgo2 hkB hk4 hg42 hrk hgk2 |-
         obtain ⟨wD, hwD⟩ : ∃ x, (w9.alloc (.cells (bytesRow (tab4 i) co) 5 ((bytesRow (tab4 i) co).size, (bytesRow (tab4 i) co).size + 1))).drew = x := ⟨_, rfl⟩
         rw [hwD] at hS hro hgo2 hkB hk4 hg42 hrk hgk2 |-
         clear hwD hco hb7 hgo
         go_simp
         refine hK.out _ _ (Or.inr hS.out) (fun _ => ?_)
         clear hK K
         refine AnyT.take (i := 18) (v := .agg #[.int .i64 (x : Int), .int .i64 (y : Int), .slice (some ⟨gk, 0, none⟩) lk.length ck, .slice Av lv.length cv, .slice (some ⟨go, 0, none⟩) (sb (tab4 i)).length co]) rfl (by kernel_rfl) (by kernel_rfl) (by kernel_rfl) (by kernel_rfl) (fun _ _ _ h => h) (Or.inl ⟨by kernel_rfl, fun w _ => by go_simp; simp [sb_len]⟩) hS.out ?_
         refine AnyT.ready (rs := [20]) (by kernel_rfl) (by simp) ?_
         refine AllT.cons rfl (fun K hK => ?_) AllT.nil
         obtain ⟨c0, c1, c2, c3, c4⟩ := five hk4
         have f0 := hk4.frozen 0
         have f1 := hk4.frozen 1
         have f2 := hk4.frozen 2
         have f3 := hk4.frozen 3
         have f4 := hk4.frozen 4
         go_simp
         refine hK.out _ _ (Or.inl rfl) (fun _ => ?_)
         clear hK K
         refine AnyT.done (by kernel_rfl) ?_ _
         go_wp2_with fail
         go_meet
         have hk5 := ((((hk4.set_ 0 (.int .i64 (x : Int))).set_ 1 (.int .i64 (y : Int))).set_ 2 (.slice (some ⟨gk, 0, none⟩) lk.length ck)).set_ 3 (.slice Av lv.length cv)).set_ 4 (.slice (some ⟨go, 0, none⟩) (sb (tab4 i)).length co)
         have hs : (sb (tab4 i)).length = (tab4 i).size := sb_len _
         rw [hs] at hro hk5
         refine ⟨g4, gk, go, ck, co, lk, sb (tab4 i), _, _, rfl, hD ⟨by rw [hs]; exact hk5, hz4, hzk, hzo, hnk, hno, ((((hrk.set_ne hnk).set_ne hnk).set_ne hnk).set_ne hnk).set_ne hnk, by rw [hs]; exact ((((hro.set_ne hno).set_ne hno).set_ne hno).set_ne hno).set_ne hno, ((((hS.out.setCell (p := ⟨g4, 0, none⟩) hz4 _).setCell (p := ⟨g4, 1, none⟩) hz4 _).setCell (p := ⟨g4, 2, none⟩) hz4 _).setCell (p := ⟨g4, 3, none⟩) hz4 _).setCell (p := ⟨g4, 4, none⟩) hz4 _⟩, hD ⟨hlk, hlk9, sb_lt _, by rw [sb_len]; exact tab4_size i hi4⟩⟩
       · have hcB : wC.cell? ⟨gB, i, none⟩ = some (.string (tab4 i)) := by rw [hkB.cell]; have hl : i < (#[Value.string ⟨#[]⟩, .string ⟨#[97]⟩, .string ⟨#[98]⟩, .string ⟨#[97, 98]⟩] : Array Value).size := hi4; rw [Array.getElem?_eq_getElem hl]; congr 1; exact tab4_at i hi4
         go_simp
         refine hK.out _ _ (Or.inr hS.out) (fun _ => ?_)
         clear hK K
         refine AnyT.ready (rs := [9, 17]) (by kernel_rfl) (by simp) ?_
         refine AllT.cons rfl (fun K hK => ?_) (AllT.cons rfl (fun K hK => ?_) AllT.nil)
         · go_simp
           have hSz := hS.out.size
           refine (keysF_any _ _).mono ?_
           have hg4o := hg42
           rintro e w9 ⟨lk, gk, ck, rfl, hrk, hlk, hlk9, hgk1, hgk2, hb9⟩
           have hS := hD (hS.out.trans (hb9.mono hS.out.size))
           have hkB := hkB.below hb9
           have hk4 := hk4.below hb9
           have hg42 := Nat.lt_of_lt_of_le hg42 hb9.size
           have hzk : wz.heap.size <= gk := by omega
           have hnk : g4 ≠ gk := by omega
           go_simp
           refine hK.out _ _ (Or.inr hS.out) (fun _ => ?_)
           clear hK K
           refine AnyT.ready (rs := [17]) (by kernel_rfl) (by simp) ?_
           refine AllT.cons rfl (fun K hK => ?_) AllT.nil
           go_simp
           obtain ⟨go, hgo⟩ : ∃ g, w9.heap.size = g := ⟨_, rfl⟩
           rw [hgo]
           have hzo : wz.heap.size <= go := by have := hS.out.size; omega
           have hno : g4 ≠ go := by omega
           have hb7 : Below w9.heap.size w9 ((w9.alloc (.cells (bytesRow (tab4 i) (grownCap w9 (tab4 i).size 0 5)) 5 ((bytesRow (tab4 i) (grownCap w9 (tab4 i).size 0 5)).size, (bytesRow (tab4 i) (grownCap w9 (tab4 i).size 0 5)).size + 1))).drew) := ((Below.refl _ _).alloc lR _).drew
           have hS := hD (hS.out.trans (hb7.mono hS.out.size))
           have hkB := hkB.below hb7
           have hk4 := hk4.below hb7
           have hg42 := Nat.lt_of_lt_of_le hg42 hb7.size
           have hrk := (hrk.below hb7).fit
           have hgk2 := Nat.lt_of_lt_of_le hgk2 hb7.size
           have hro : Rd ((w9.alloc (.cells (bytesRow (tab4 i) (grownCap w9 (tab4 i).size 0 5)) 5 ((bytesRow (tab4 i) (grownCap w9 (tab4 i).size 0 5)).size, (bytesRow (tab4 i) (grownCap w9 (tab4 i).size 0 5)).size + 1))).drew) ((w9.alloc (.cells (bytesRow (tab4 i) (grownCap w9 (tab4 i).size 0 5)) 5 ((bytesRow (tab4 i) (grownCap w9 (tab4 i).size 0 5)).size, (bytesRow (tab4 i) (grownCap w9 (tab4 i).size 0 5)).size + 1))).drew).heap.size (some ⟨go, 0, none⟩) (sb (tab4 i)).length (bv (sb (tab4 i))) := Rd.of_stringAt _ _ _ _ _ hgo
           have hgo2 : go < ((w9.alloc (.cells (bytesRow (tab4 i) (grownCap w9 (tab4 i).size 0 5)) 5 ((bytesRow (tab4 i) (grownCap w9 (tab4 i).size 0 5)).size, (bytesRow (tab4 i) (grownCap w9 (tab4 i).size 0 5)).size + 1))).drew).heap.size := by rw [<- hgo]; simp
           obtain ⟨co, hco⟩ : ∃ x, grownCap w9 (tab4 i).size 0 5 = x := ⟨_, rfl⟩
           rw [hco] at hS hro hgo2 hkB hk4 hg42 hrk hgk2 |-
           obtain ⟨wD, hwD⟩ : ∃ x, (w9.alloc (.cells (bytesRow (tab4 i) co) 5 ((bytesRow (tab4 i) co).size, (bytesRow (tab4 i) co).size + 1))).drew = x := ⟨_, rfl⟩
           rw [hwD] at hS hro hgo2 hkB hk4 hg42 hrk hgk2 |-
           clear hwD hco hb7 hgo
           go_simp
           refine hK.out _ _ (Or.inr hS.out) (fun _ => ?_)
           clear hK K
           refine AnyT.take (i := 18) (v := .agg #[.int .i64 (x : Int), .int .i64 (y : Int), .slice (some ⟨gk, 0, none⟩) lk.length ck, .slice Av lv.length cv, .slice (some ⟨go, 0, none⟩) (sb (tab4 i)).length co]) rfl (by kernel_rfl) (by kernel_rfl) (by kernel_rfl) (by kernel_rfl) (fun _ _ _ h => h) (Or.inl ⟨by kernel_rfl, fun w _ => by go_simp; simp [sb_len]⟩) hS.out ?_
           refine AnyT.ready (rs := [20]) (by kernel_rfl) (by simp) ?_
           refine AllT.cons rfl (fun K hK => ?_) AllT.nil
           obtain ⟨c0, c1, c2, c3, c4⟩ := five hk4
           have f0 := hk4.frozen 0
           have f1 := hk4.frozen 1
           have f2 := hk4.frozen 2
           have f3 := hk4.frozen 3
           have f4 := hk4.frozen 4
           go_simp
           refine hK.out _ _ (Or.inl rfl) (fun _ => ?_)
           clear hK K
           refine AnyT.done (by kernel_rfl) ?_ _
           go_wp2_with fail
           go_meet
           have hk5 := ((((hk4.set_ 0 (.int .i64 (x : Int))).set_ 1 (.int .i64 (y : Int))).set_ 2 (.slice (some ⟨gk, 0, none⟩) lk.length ck)).set_ 3 (.slice Av lv.length cv)).set_ 4 (.slice (some ⟨go, 0, none⟩) (sb (tab4 i)).length co)
           have hs : (sb (tab4 i)).length = (tab4 i).size := sb_len _
           rw [hs] at hro hk5
           refine ⟨g4, gk, go, ck, co, lk, sb (tab4 i), _, _, rfl, hD ⟨by rw [hs]; exact hk5, hz4, hzk, hzo, hnk, hno, ((((hrk.set_ne hnk).set_ne hnk).set_ne hnk).set_ne hnk).set_ne hnk, by rw [hs]; exact ((((hro.set_ne hno).set_ne hno).set_ne hno).set_ne hno).set_ne hno, ((((hS.out.setCell (p := ⟨g4, 0, none⟩) hz4 _).setCell (p := ⟨g4, 1, none⟩) hz4 _).setCell (p := ⟨g4, 2, none⟩) hz4 _).setCell (p := ⟨g4, 3, none⟩) hz4 _).setCell (p := ⟨g4, 4, none⟩) hz4 _⟩, hD ⟨hlk, hlk9, sb_lt _, by rw [sb_len]; exact tab4_size i hi4⟩⟩
         · go_simp
           obtain ⟨go, hgo⟩ : ∃ g, wC.heap.size = g := ⟨_, rfl⟩
           rw [hgo]
           have hzo : wz.heap.size <= go := by have := hS.out.size; omega
           have hno : g4 ≠ go := by omega
           have hb7 : Below wC.heap.size wC ((wC.alloc (.cells (bytesRow (tab4 i) (grownCap wC (tab4 i).size 0 5)) 5 ((bytesRow (tab4 i) (grownCap wC (tab4 i).size 0 5)).size, (bytesRow (tab4 i) (grownCap wC (tab4 i).size 0 5)).size + 1))).drew) := ((Below.refl _ _).alloc lR _).drew
           have hS := hD (hS.out.trans (hb7.mono hS.out.size))
           have hkB := hkB.below hb7
           have hk4 := hk4.below hb7
           have hg42 := Nat.lt_of_lt_of_le hg42 hb7.size
           have hro : Rd ((wC.alloc (.cells (bytesRow (tab4 i) (grownCap wC (tab4 i).size 0 5)) 5 ((bytesRow (tab4 i) (grownCap wC (tab4 i).size 0 5)).size, (bytesRow (tab4 i) (grownCap wC (tab4 i).size 0 5)).size + 1))).drew) ((wC.alloc (.cells (bytesRow (tab4 i) (grownCap wC (tab4 i).size 0 5)) 5 ((bytesRow (tab4 i) (grownCap wC (tab4 i).size 0 5)).size, (bytesRow (tab4 i) (grownCap wC (tab4 i).size 0 5)).size + 1))).drew).heap.size (some ⟨go, 0, none⟩) (sb (tab4 i)).length (bv (sb (tab4 i))) := Rd.of_stringAt _ _ _ _ _ hgo
           have hgo2 : go < ((wC.alloc (.cells (bytesRow (tab4 i) (grownCap wC (tab4 i).size 0 5)) 5 ((bytesRow (tab4 i) (grownCap wC (tab4 i).size 0 5)).size, (bytesRow (tab4 i) (grownCap wC (tab4 i).size 0 5)).size + 1))).drew).heap.size := by rw [<- hgo]; simp
           obtain ⟨co, hco⟩ : ∃ x, grownCap wC (tab4 i).size 0 5 = x := ⟨_, rfl⟩
           rw [hco] at hS hro hgo2 hkB hk4 hg42 |-
           obtain ⟨wD, hwD⟩ : ∃ x, (wC.alloc (.cells (bytesRow (tab4 i) co) 5 ((bytesRow (tab4 i) co).size, (bytesRow (tab4 i) co).size + 1))).drew = x := ⟨_, rfl⟩
           rw [hwD] at hS hro hgo2 hkB hk4 hg42 |-
           clear hwD hco hb7 hgo
           go_simp
           refine hK.out _ _ (Or.inr hS.out) (fun _ => ?_)
           clear hK K
           refine AnyT.ready (rs := [9]) (by kernel_rfl) (by simp) ?_
           refine AllT.cons rfl (fun K hK => ?_) AllT.nil
           go_simp
           have hSz := hS.out.size
           refine (keysF_any _ _).mono ?_
           have hg4o := hg42
           rintro e w9 ⟨lk, gk, ck, rfl, hrk, hlk, hlk9, hgk1, hgk2, hb9⟩
           have hS := hD (hS.out.trans (hb9.mono hS.out.size))
           have hk4 := hk4.below hb9
           have hg42 := Nat.lt_of_lt_of_le hg42 hb9.size
           have hro := (hro.below hb9).fit
           have hgo2 := Nat.lt_of_lt_of_le hgo2 hb9.size
           have hzk : wz.heap.size <= gk := by omega
           have hnk : g4 ≠ gk := by omega
           go_simp
           refine hK.out _ _ (Or.inr hS.out) (fun _ => ?_)
           clear hK K
           refine AnyT.take (i := 18) (v := .agg #[.int .i64 (x : Int), .int .i64 (y : Int), .slice (some ⟨gk, 0, none⟩) lk.length ck, .slice Av lv.length cv, .slice (some ⟨go, 0, none⟩) (sb (tab4 i)).length co]) rfl (by kernel_rfl) (by kernel_rfl) (by kernel_rfl) (by kernel_rfl) (fun _ _ _ h => h) (Or.inl ⟨by kernel_rfl, fun w _ => by go_simp; simp [sb_len]⟩) hS.out ?_
           refine AnyT.ready (rs := [20]) (by kernel_rfl) (by simp) ?_
           refine AllT.cons rfl (fun K hK => ?_) AllT.nil
           obtain ⟨c0, c1, c2, c3, c4⟩ := five hk4
           have f0 := hk4.frozen 0
           have f1 := hk4.frozen 1
           have f2 := hk4.frozen 2
           have f3 := hk4.frozen 3
           have f4 := hk4.frozen 4
           go_simp
           refine hK.out _ _ (Or.inl rfl) (fun _ => ?_)
           clear hK K
           refine AnyT.done (by kernel_rfl) ?_ _
           go_wp2_with fail
           go_meet
           have hk5 := ((((hk4.set_ 0 (.int .i64 (x : Int))).set_ 1 (.int .i64 (y : Int))).set_ 2 (.slice (some ⟨gk, 0, none⟩) lk.length ck)).set_ 3 (.slice Av lv.length cv)).set_ 4 (.slice (some ⟨go, 0, none⟩) (sb (tab4 i)).length co)
           have hs : (sb (tab4 i)).length = (tab4 i).size := sb_len _
           rw [hs] at hro hk5
           refine ⟨g4, gk, go, ck, co, lk, sb (tab4 i), _, _, rfl, hD ⟨by rw [hs]; exact hk5, hz4, hzk, hzo, hnk, hno, ((((hrk.set_ne hnk).set_ne hnk).set_ne hnk).set_ne hnk).set_ne hnk, by rw [hs]; exact ((((hro.set_ne hno).set_ne hno).set_ne hno).set_ne hno).set_ne hno, ((((hS.out.setCell (p := ⟨g4, 0, none⟩) hz4 _).setCell (p := ⟨g4, 1, none⟩) hz4 _).setCell (p := ⟨g4, 2, none⟩) hz4 _).setCell (p := ⟨g4, 3, none⟩) hz4 _).setCell (p := ⟨g4, 4, none⟩) hz4 _⟩, hD ⟨hlk, hlk9, sb_lt _, by rw [sb_len]; exact tab4_size i hi4⟩⟩
   · go_simp
     obtain ⟨g4, hg4⟩ : ∃ g, w4.heap.size = g := ⟨_, rfl⟩
     rw [hg4]
     have hz4 : wz.heap.size <= g4 := by have := hS.out.size; omega
     have hb4 : Below w4.heap.size w4 (w4.alloc (.cells #[.int .i64 0, .int .i64 0, .slice none 0 0, .slice none 0 0, .slice none 0 0] 41)) := (Below.refl _ _).alloc lR _
     have hS := hD (hS.out.trans (hb4.mono hS.out.size))
     have hk4 : Blk (w4.alloc (.cells #[.int .i64 0, .int .i64 0, .slice none 0 0, .slice none 0 0, .slice none 0 0] 41)) g4 41 #[.int .i64 0, .int .i64 0, .slice none 0 0, .slice none 0 0, .slice none 0 0] := by rw [<- hg4]; exact Blk.new _ _ _
     have hg42 := hk4.lt
     obtain ⟨wC, hwC⟩ : ∃ x, (w4.alloc (.cells #[.int .i64 0, .int .i64 0, .slice none 0 0, .slice none 0 0, .slice none 0 0] 41)) = x := ⟨_, rfl⟩
     rw [hwC] at hS hk4 hg42 |-
     clear hwC hb4 hg4
     go_simp
     refine hK.out _ _ (Or.inr hS.out) (fun _ => ?_)
     clear hK K
     refine AnyT.ready (rs := [9, 11]) (by kernel_rfl) (by simp) ?_
     refine AllT.cons rfl (fun K hK => ?_) (AllT.cons rfl (fun K hK => ?_) AllT.nil)
     · go_simp
       have hSz := hS.out.size
       refine (keysF_any _ _).mono ?_
       have hg4o := hg42
       rintro e w9 ⟨lk, gk, ck, rfl, hrk, hlk, hlk9, hgk1, hgk2, hb9⟩
       have hS := hD (hS.out.trans (hb9.mono hS.out.size))
       have hk4 := hk4.below hb9
       have hg42 := Nat.lt_of_lt_of_le hg42 hb9.size
       have hzk : wz.heap.size <= gk := by omega
       have hnk : g4 ≠ gk := by omega
       go_simp
       refine hK.out _ _ (Or.inr hS.out) (fun _ => ?_)
       clear hK K
       refine AnyT.ready (rs := [11]) (by kernel_rfl) (by simp) ?_
       refine AllT.cons rfl (fun K hK => ?_) AllT.nil
       go_simp
       obtain ⟨gB, hgB⟩ : ∃ g, w9.heap.size = g := ⟨_, rfl⟩
       rw [hgB]
       have hbB : Below w9.heap.size w9 (w9.alloc (.cells #[.string ⟨#[]⟩, .string ⟨#[97]⟩, .string ⟨#[98]⟩, .string ⟨#[97, 98]⟩] 9)) := (Below.refl _ _).alloc lR _
       have hS := hD (hS.out.trans (hbB.mono hS.out.size))
       have hk4 := hk4.below hbB
       have hg42 := Nat.lt_of_lt_of_le hg42 hbB.size
       have hrk := (hrk.below hbB).fit
       have hgk2 := Nat.lt_of_lt_of_le hgk2 hbB.size
       have hkB : Blk (w9.alloc (.cells #[.string ⟨#[]⟩, .string ⟨#[97]⟩, .string ⟨#[98]⟩, .string ⟨#[97, 98]⟩] 9)) gB 9 #[.string ⟨#[]⟩, .string ⟨#[97]⟩, .string ⟨#[98]⟩, .string ⟨#[97, 98]⟩] := by rw [<- hgB]; exact Blk.new _ _ _
       obtain ⟨wB, hwB⟩ : ∃ x, (w9.alloc (.cells #[.string ⟨#[]⟩, .string ⟨#[97]⟩, .string ⟨#[98]⟩, .string ⟨#[97, 98]⟩] 9)) = x := ⟨_, rfl⟩
       rw [hwB] at hS hkB hk4 hg42 hrk hgk2 |-
       clear hwB hbB hgB
       go_simp
       refine hK.out _ _ (Or.inr hS.out) (fun _ => ?_)
       clear hK K
       refine AnyT.take (i := 15) (v := .pointer (some ⟨gB, i, none⟩)) rfl (by kernel_rfl) (by kernel_rfl) (by kernel_rfl) (by kernel_rfl) (fun _ _ _ h => h) (Or.inl ⟨by kernel_rfl, fun w _ => by go_simp⟩) hS.out ?_
       refine AnyT.ready (rs := [16]) (by kernel_rfl) (by simp) ?_
       refine AllT.cons rfl (fun K hK => ?_) AllT.nil
       have hcB : wB.cell? ⟨gB, i, none⟩ = some (.string (tab4 i)) := by rw [hkB.cell]; have hl : i < (#[Value.string ⟨#[]⟩, .string ⟨#[97]⟩, .string ⟨#[98]⟩, .string ⟨#[97, 98]⟩] : Array Value).size := hi4; rw [Array.getElem?_eq_getElem hl]; congr 1; exact tab4_at i hi4
       go_simp
       refine hK.out _ _ (Or.inr hS.out) (fun _ => ?_)
       clear hK K
       refine AnyT.ready (rs := [17]) (by kernel_rfl) (by simp) ?_
       refine AllT.cons rfl (fun K hK => ?_) AllT.nil
       go_simp
       obtain ⟨go, hgo⟩ : ∃ g, wB.heap.size = g := ⟨_, rfl⟩
       rw [hgo]
       have hzo : wz.heap.size <= go := by have := hS.out.size; omega
       have hno : g4 ≠ go := by omega
       have hb7 : Below wB.heap.size wB ((wB.alloc (.cells (bytesRow (tab4 i) (grownCap wB (tab4 i).size 0 5)) 5 ((bytesRow (tab4 i) (grownCap wB (tab4 i).size 0 5)).size, (bytesRow (tab4 i) (grownCap wB (tab4 i).size 0 5)).size + 1))).drew) := ((Below.refl _ _).alloc lR _).drew
       have hS := hD (hS.out.trans (hb7.mono hS.out.size))
       have hk4 := hk4.below hb7
       have hg42 := Nat.lt_of_lt_of_le hg42 hb7.size
       have hrk := (hrk.below hb7).fit
       have hgk2 := Nat.lt_of_lt_of_le hgk2 hb7.size
       have hkB := hkB.below hb7
       have hro : Rd ((wB.alloc (.cells (bytesRow (tab4 i) (grownCap wB (tab4 i).size 0 5)) 5 ((bytesRow (tab4 i) (grownCap wB (tab4 i).size 0 5)).size, (bytesRow (tab4 i) (grownCap wB (tab4 i).size 0 5)).size + 1))).drew) ((wB.alloc (.cells (bytesRow (tab4 i) (grownCap wB (tab4 i).size 0 5)) 5 ((bytesRow (tab4 i) (grownCap wB (tab4 i).size 0 5)).size, (bytesRow (tab4 i) (grownCap wB (tab4 i).size 0 5)).size + 1))).drew).heap.size (some ⟨go, 0, none⟩) (sb (tab4 i)).length (bv (sb (tab4 i))) := Rd.of_stringAt _ _ _ _ _ hgo
       have hgo2 : go < ((wB.alloc (.cells (bytesRow (tab4 i) (grownCap wB (tab4 i).size 0 5)) 5 ((bytesRow (tab4 i) (grownCap wB (tab4 i).size 0 5)).size, (bytesRow (tab4 i) (grownCap wB (tab4 i).size 0 5)).size + 1))).drew).heap.size := by rw [<- hgo]; simp
       obtain ⟨co, hco⟩ : ∃ x, grownCap wB (tab4 i).size 0 5 = x := ⟨_, rfl⟩
       rw [hco] at hS hro hgo2 hk4 hg42 hrk hgk2 hkB |-
       obtain ⟨wD, hwD⟩ : ∃ x, (wB.alloc (.cells (bytesRow (tab4 i) co) 5 ((bytesRow (tab4 i) co).size, (bytesRow (tab4 i) co).size + 1))).drew = x := ⟨_, rfl⟩
       rw [hwD] at hS hro hgo2 hk4 hg42 hrk hgk2 hkB |-
       clear hwD hco hb7 hgo
       go_simp
       refine hK.out _ _ (Or.inr hS.out) (fun _ => ?_)
       clear hK K
       refine AnyT.take (i := 18) (v := .agg #[.int .i64 (x : Int), .int .i64 (y : Int), .slice (some ⟨gk, 0, none⟩) lk.length ck, .slice Av lv.length cv, .slice (some ⟨go, 0, none⟩) (sb (tab4 i)).length co]) rfl (by kernel_rfl) (by kernel_rfl) (by kernel_rfl) (by kernel_rfl) (fun _ _ _ h => h) (Or.inl ⟨by kernel_rfl, fun w _ => by go_simp; simp [sb_len]⟩) hS.out ?_
       refine AnyT.ready (rs := [20]) (by kernel_rfl) (by simp) ?_
       refine AllT.cons rfl (fun K hK => ?_) AllT.nil
       obtain ⟨c0, c1, c2, c3, c4⟩ := five hk4
       have f0 := hk4.frozen 0
       have f1 := hk4.frozen 1
       have f2 := hk4.frozen 2
       have f3 := hk4.frozen 3
       have f4 := hk4.frozen 4
       go_simp
       refine hK.out _ _ (Or.inl rfl) (fun _ => ?_)
       clear hK K
       refine AnyT.done (by kernel_rfl) ?_ _
       go_wp2_with fail
       go_meet
       have hk5 := ((((hk4.set_ 0 (.int .i64 (x : Int))).set_ 1 (.int .i64 (y : Int))).set_ 2 (.slice (some ⟨gk, 0, none⟩) lk.length ck)).set_ 3 (.slice Av lv.length cv)).set_ 4 (.slice (some ⟨go, 0, none⟩) (sb (tab4 i)).length co)
       have hs : (sb (tab4 i)).length = (tab4 i).size := sb_len _
       rw [hs] at hro hk5
       refine ⟨g4, gk, go, ck, co, lk, sb (tab4 i), _, _, rfl, hD ⟨by rw [hs]; exact hk5, hz4, hzk, hzo, hnk, hno, ((((hrk.set_ne hnk).set_ne hnk).set_ne hnk).set_ne hnk).set_ne hnk, by rw [hs]; exact ((((hro.set_ne hno).set_ne hno).set_ne hno).set_ne hno).set_ne hno, ((((hS.out.setCell (p := ⟨g4, 0, none⟩) hz4 _).setCell (p := ⟨g4, 1, none⟩) hz4 _).setCell (p := ⟨g4, 2, none⟩) hz4 _).setCell (p := ⟨g4, 3, none⟩) hz4 _).setCell (p := ⟨g4, 4, none⟩) hz4 _⟩, hD ⟨hlk, hlk9, sb_lt _, by rw [sb_len]; exact tab4_size i hi4⟩⟩
     · go_simp
       obtain ⟨gB, hgB⟩ : ∃ g, wC.heap.size = g := ⟨_, rfl⟩
       rw [hgB]
       have hbB : Below wC.heap.size wC (wC.alloc (.cells #[.string ⟨#[]⟩, .string ⟨#[97]⟩, .string ⟨#[98]⟩, .string ⟨#[97, 98]⟩] 9)) := (Below.refl _ _).alloc lR _
       have hS := hD (hS.out.trans (hbB.mono hS.out.size))
       have hk4 := hk4.below hbB
       have hg42 := Nat.lt_of_lt_of_le hg42 hbB.size
       have hkB : Blk (wC.alloc (.cells #[.string ⟨#[]⟩, .string ⟨#[97]⟩, .string ⟨#[98]⟩, .string ⟨#[97, 98]⟩] 9)) gB 9 #[.string ⟨#[]⟩, .string ⟨#[97]⟩, .string ⟨#[98]⟩, .string ⟨#[97, 98]⟩] := by rw [<- hgB]; exact Blk.new _ _ _
       obtain ⟨wB, hwB⟩ : ∃ x, (wC.alloc (.cells #[.string ⟨#[]⟩, .string ⟨#[97]⟩, .string ⟨#[98]⟩, .string ⟨#[97, 98]⟩] 9)) = x := ⟨_, rfl⟩
       rw [hwB] at hS hkB hk4 hg42 |-
       clear hwB hbB hgB
       go_simp
       refine hK.out _ _ (Or.inr hS.out) (fun _ => ?_)
       clear hK K
       refine AnyT.take (i := 15) (v := .pointer (some ⟨gB, i, none⟩)) rfl (by kernel_rfl) (by kernel_rfl) (by kernel_rfl) (by kernel_rfl) (fun _ _ _ h => h) (Or.inl ⟨by kernel_rfl, fun w _ => by go_simp⟩) hS.out ?_
       refine AnyT.ready (rs := [9, 16]) (by kernel_rfl) (by simp) ?_
       refine AllT.cons rfl (fun K hK => ?_) (AllT.cons rfl (fun K hK => ?_) AllT.nil)
       · go_simp
         have hSz := hS.out.size
         refine (keysF_any _ _).mono ?_
         have hg4o := hg42
         rintro e w9 ⟨lk, gk, ck, rfl, hrk, hlk, hlk9, hgk1, hgk2, hb9⟩
         have hS := hD (hS.out.trans (hb9.mono hS.out.size))
         have hk4 := hk4.below hb9
         have hg42 := Nat.lt_of_lt_of_le hg42 hb9.size
         have hkB := hkB.below hb9
         have hzk : wz.heap.size <= gk := by omega
         have hnk : g4 ≠ gk := by omega
         go_simp
         refine hK.out _ _ (Or.inr hS.out) (fun _ => ?_)
         clear hK K
         refine AnyT.ready (rs := [16]) (by kernel_rfl) (by simp) ?_
         refine AllT.cons rfl (fun K hK => ?_) AllT.nil
         have hcB : w9.cell? ⟨gB, i, none⟩ = some (.string (tab4 i)) := by rw [hkB.cell]; have hl : i < (#[Value.string ⟨#[]⟩, .string ⟨#[97]⟩, .string ⟨#[98]⟩, .string ⟨#[97, 98]⟩] : Array Value).size := hi4; rw [Array.getElem?_eq_getElem hl]; congr 1; exact tab4_at i hi4
         go_simp
         refine hK.out _ _ (Or.inr hS.out) (fun _ => ?_)
         clear hK K
         refine AnyT.ready (rs := [17]) (by kernel_rfl) (by simp) ?_
         refine AllT.cons rfl (fun K hK => ?_) AllT.nil
         go_simp
         obtain ⟨go, hgo⟩ : ∃ g, w9.heap.size = g := ⟨_, rfl⟩
         rw [hgo]
         have hzo : wz.heap.size <= go := by have := hS.out.size; omega
         have hno : g4 ≠ go := by omega
         have hb7 : Below w9.heap.size w9 ((w9.alloc (.cells (bytesRow (tab4 i) (grownCap w9 (tab4 i).size 0 5)) 5 ((bytesRow (tab4 i) (grownCap w9 (tab4 i).size 0 5)).size, (bytesRow (tab4 i) (grownCap w9 (tab4 i).size 0 5)).size + 1))).drew) := ((Below.refl _ _).alloc lR _).drew
         have hS := hD (hS.out.trans (hb7.mono hS.out.size))
         have hk4 := hk4.below hb7
         have hg42 := Nat.lt_of_lt_of_le hg42 hb7.size
         have hkB := hkB.below hb7
         have hrk := (hrk.below hb7).fit
         have hgk2 := Nat.lt_of_lt_of_le hgk2 hb7.size
         have hro : Rd ((w9.alloc (.cells (bytesRow (tab4 i) (grownCap w9 (tab4 i).size 0 5)) 5 ((bytesRow (tab4 i) (grownCap w9 (tab4 i).size 0 5)).size, (bytesRow (tab4 i) (grownCap w9 (tab4 i).size 0 5)).size + 1))).drew) ((w9.alloc (.cells (bytesRow (tab4 i) (grownCap w9 (tab4 i).size 0 5)) 5 ((bytesRow (tab4 i) (grownCap w9 (tab4 i).size 0 5)).size, (bytesRow (tab4 i) (grownCap w9 (tab4 i).size 0 5)).size + 1))).drew).heap.size (some ⟨go, 0, none⟩) (sb (tab4 i)).length (bv (sb (tab4 i))) := Rd.of_stringAt _ _ _ _ _ hgo
         have hgo2 : go < ((w9.alloc (.cells (bytesRow (tab4 i) (grownCap w9 (tab4 i).size 0 5)) 5 ((bytesRow (tab4 i) (grownCap w9 (tab4 i).size 0 5)).size, (bytesRow (tab4 i) (grownCap w9 (tab4 i).size 0 5)).size + 1))).drew).heap.size := by rw [<- hgo]; simp
         obtain ⟨co, hco⟩ : ∃ x, grownCap w9 (tab4 i).size 0 5 = x := ⟨_, rfl⟩
         rw [hco] at hS hro hgo2 hk4 hg42 hkB hrk hgk2 |-
         obtain ⟨wD, hwD⟩ : ∃ x, (w9.alloc (.cells (bytesRow (tab4 i) co) 5 ((bytesRow (tab4 i) co).size, (bytesRow (tab4 i) co).size + 1))).drew = x := ⟨_, rfl⟩
         rw [hwD] at hS hro hgo2 hk4 hg42 hkB hrk hgk2 |-
         clear hwD hco hb7 hgo
         go_simp
         refine hK.out _ _ (Or.inr hS.out) (fun _ => ?_)
         clear hK K
         refine AnyT.take (i := 18) (v := .agg #[.int .i64 (x : Int), .int .i64 (y : Int), .slice (some ⟨gk, 0, none⟩) lk.length ck, .slice Av lv.length cv, .slice (some ⟨go, 0, none⟩) (sb (tab4 i)).length co]) rfl (by kernel_rfl) (by kernel_rfl) (by kernel_rfl) (by kernel_rfl) (fun _ _ _ h => h) (Or.inl ⟨by kernel_rfl, fun w _ => by go_simp; simp [sb_len]⟩) hS.out ?_
         refine AnyT.ready (rs := [20]) (by kernel_rfl) (by simp) ?_
         refine AllT.cons rfl (fun K hK => ?_) AllT.nil
         obtain ⟨c0, c1, c2, c3, c4⟩ := five hk4
         have f0 := hk4.frozen 0
         have f1 := hk4.frozen 1
         have f2 := hk4.frozen 2
         have f3 := hk4.frozen 3
         have f4 := hk4.frozen 4
         go_simp
         refine hK.out _ _ (Or.inl rfl) (fun _ => ?_)
         clear hK K
         refine AnyT.done (by kernel_rfl) ?_ _
         go_wp2_with fail
         go_meet
         have hk5 := ((((hk4.set_ 0 (.int .i64 (x : Int))).set_ 1 (.int .i64 (y : Int))).set_ 2 (.slice (some ⟨gk, 0, none⟩) lk.length ck)).set_ 3 (.slice Av lv.length cv)).set_ 4 (.slice (some ⟨go, 0, none⟩) (sb (tab4 i)).length co)
         have hs : (sb (tab4 i)).length = (tab4 i).size := sb_len _
         rw [hs] at hro hk5
         refine ⟨g4, gk, go, ck, co, lk, sb (tab4 i), _, _, rfl, hD ⟨by rw [hs]; exact hk5, hz4, hzk, hzo, hnk, hno, ((((hrk.set_ne hnk).set_ne hnk).set_ne hnk).set_ne hnk).set_ne hnk, by rw [hs]; exact ((((hro.set_ne hno).set_ne hno).set_ne hno).set_ne hno).set_ne hno, ((((hS.out.setCell (p := ⟨g4, 0, none⟩) hz4 _).setCell (p := ⟨g4, 1, none⟩) hz4 _).setCell (p := ⟨g4, 2, none⟩) hz4 _).setCell (p := ⟨g4, 3, none⟩) hz4 _).setCell (p := ⟨g4, 4, none⟩) hz4 _⟩, hD ⟨hlk, hlk9, sb_lt _, by rw [sb_len]; exact tab4_size i hi4⟩⟩
       · have hcB : wB.cell? ⟨gB, i, none⟩ = some (.string (tab4 i)) := by rw [hkB.cell]; have hl : i < (#[Value.string ⟨#[]⟩, .string ⟨#[97]⟩, .string ⟨#[98]⟩, .string ⟨#[97, 98]⟩] : Array Value).size := hi4; rw [Array.getElem?_eq_getElem hl]; congr 1; exact tab4_at i hi4
         go_simp
         refine hK.out _ _ (Or.inr hS.out) (fun _ => ?_)
         clear hK K
         refine AnyT.ready (rs := [9, 17]) (by kernel_rfl) (by simp) ?_
         refine AllT.cons rfl (fun K hK => ?_) (AllT.cons rfl (fun K hK => ?_) AllT.nil)
         · go_simp
           have hSz := hS.out.size
           refine (keysF_any _ _).mono ?_
           have hg4o := hg42
           rintro e w9 ⟨lk, gk, ck, rfl, hrk, hlk, hlk9, hgk1, hgk2, hb9⟩
           have hS := hD (hS.out.trans (hb9.mono hS.out.size))
           have hk4 := hk4.below hb9
           have hg42 := Nat.lt_of_lt_of_le hg42 hb9.size
           have hkB := hkB.below hb9
           have hzk : wz.heap.size <= gk := by omega
           have hnk : g4 ≠ gk := by omega
           go_simp
           refine hK.out _ _ (Or.inr hS.out) (fun _ => ?_)
           clear hK K
           refine AnyT.ready (rs := [17]) (by kernel_rfl) (by simp) ?_
           refine AllT.cons rfl (fun K hK => ?_) AllT.nil
           go_simp
           obtain ⟨go, hgo⟩ : ∃ g, w9.heap.size = g := ⟨_, rfl⟩
           rw [hgo]
           have hzo : wz.heap.size <= go := by have := hS.out.size; omega
           have hno : g4 ≠ go := by omega
           have hb7 : Below w9.heap.size w9 ((w9.alloc (.cells (bytesRow (tab4 i) (grownCap w9 (tab4 i).size 0 5)) 5 ((bytesRow (tab4 i) (grownCap w9 (tab4 i).size 0 5)).size, (bytesRow (tab4 i) (grownCap w9 (tab4 i).size 0 5)).size + 1))).drew) := ((Below.refl _ _).alloc lR _).drew
           have hS := hD (hS.out.trans (hb7.mono hS.out.size))
           have hk4 := hk4.below hb7
           have hg42 := Nat.lt_of_lt_of_le hg42 hb7.size
           have hkB := hkB.below hb7
           have hrk := (hrk.below hb7).fit
           have hgk2 := Nat.lt_of_lt_of_le hgk2 hb7.size
           have hro : Rd ((w9.alloc (.cells (bytesRow (tab4 i) (grownCap w9 (tab4 i).size 0 5)) 5 ((bytesRow (tab4 i) (grownCap w9 (tab4 i).size 0 5)).size, (bytesRow (tab4 i) (grownCap w9 (tab4 i).size 0 5)).size + 1))).drew) ((w9.alloc (.cells (bytesRow (tab4 i) (grownCap w9 (tab4 i).size 0 5)) 5 ((bytesRow (tab4 i) (grownCap w9 (tab4 i).size 0 5)).size, (bytesRow (tab4 i) (grownCap w9 (tab4 i).size 0 5)).size + 1))).drew).heap.size (some ⟨go, 0, none⟩) (sb (tab4 i)).length (bv (sb (tab4 i))) := Rd.of_stringAt _ _ _ _ _ hgo
           have hgo2 : go < ((w9.alloc (.cells (bytesRow (tab4 i) (grownCap w9 (tab4 i).size 0 5)) 5 ((bytesRow (tab4 i) (grownCap w9 (tab4 i).size 0 5)).size, (bytesRow (tab4 i) (grownCap w9 (tab4 i).size 0 5)).size + 1))).drew).heap.size := by rw [<- hgo]; simp
           obtain ⟨co, hco⟩ : ∃ x, grownCap w9 (tab4 i).size 0 5 = x := ⟨_, rfl⟩
           rw [hco] at hS hro hgo2 hk4 hg42 hkB hrk hgk2 |-
           obtain ⟨wD, hwD⟩ : ∃ x, (w9.alloc (.cells (bytesRow (tab4 i) co) 5 ((bytesRow (tab4 i) co).size, (bytesRow (tab4 i) co).size + 1))).drew = x := ⟨_, rfl⟩
           rw [hwD] at hS hro hgo2 hk4 hg42 hkB hrk hgk2 |-
           clear hwD hco hb7 hgo
           go_simp
           refine hK.out _ _ (Or.inr hS.out) (fun _ => ?_)
           clear hK K
           refine AnyT.take (i := 18) (v := .agg #[.int .i64 (x : Int), .int .i64 (y : Int), .slice (some ⟨gk, 0, none⟩) lk.length ck, .slice Av lv.length cv, .slice (some ⟨go, 0, none⟩) (sb (tab4 i)).length co]) rfl (by kernel_rfl) (by kernel_rfl) (by kernel_rfl) (by kernel_rfl) (fun _ _ _ h => h) (Or.inl ⟨by kernel_rfl, fun w _ => by go_simp; simp [sb_len]⟩) hS.out ?_
           refine AnyT.ready (rs := [20]) (by kernel_rfl) (by simp) ?_
           refine AllT.cons rfl (fun K hK => ?_) AllT.nil
           obtain ⟨c0, c1, c2, c3, c4⟩ := five hk4
           have f0 := hk4.frozen 0
           have f1 := hk4.frozen 1
           have f2 := hk4.frozen 2
           have f3 := hk4.frozen 3
           have f4 := hk4.frozen 4
           go_simp
           refine hK.out _ _ (Or.inl rfl) (fun _ => ?_)
           clear hK K
           refine AnyT.done (by kernel_rfl) ?_ _
           go_wp2_with fail
           go_meet
           have hk5 := ((((hk4.set_ 0 (.int .i64 (x : Int))).set_ 1 (.int .i64 (y : Int))).set_ 2 (.slice (some ⟨gk, 0, none⟩) lk.length ck)).set_ 3 (.slice Av lv.length cv)).set_ 4 (.slice (some ⟨go, 0, none⟩) (sb (tab4 i)).length co)
           have hs : (sb (tab4 i)).length = (tab4 i).size := sb_len _
           rw [hs] at hro hk5
           refine ⟨g4, gk, go, ck, co, lk, sb (tab4 i), _, _, rfl, hD ⟨by rw [hs]; exact hk5, hz4, hzk, hzo, hnk, hno, ((((hrk.set_ne hnk).set_ne hnk).set_ne hnk).set_ne hnk).set_ne hnk, by rw [hs]; exact ((((hro.set_ne hno).set_ne hno).set_ne hno).set_ne hno).set_ne hno, ((((hS.out.setCell (p := ⟨g4, 0, none⟩) hz4 _).setCell (p := ⟨g4, 1, none⟩) hz4 _).setCell (p := ⟨g4, 2, none⟩) hz4 _).setCell (p := ⟨g4, 3, none⟩) hz4 _).setCell (p := ⟨g4, 4, none⟩) hz4 _⟩, hD ⟨hlk, hlk9, sb_lt _, by rw [sb_len]; exact tab4_size i hi4⟩⟩
         · go_simp
           obtain ⟨go, hgo⟩ : ∃ g, wB.heap.size = g := ⟨_, rfl⟩
           rw [hgo]
           have hzo : wz.heap.size <= go := by have := hS.out.size; omega
           have hno : g4 ≠ go := by omega
           have hb7 : Below wB.heap.size wB ((wB.alloc (.cells (bytesRow (tab4 i) (grownCap wB (tab4 i).size 0 5)) 5 ((bytesRow (tab4 i) (grownCap wB (tab4 i).size 0 5)).size, (bytesRow (tab4 i) (grownCap wB (tab4 i).size 0 5)).size + 1))).drew) := ((Below.refl _ _).alloc lR _).drew
           have hS := hD (hS.out.trans (hb7.mono hS.out.size))
           have hk4 := hk4.below hb7
           have hg42 := Nat.lt_of_lt_of_le hg42 hb7.size
           have hkB := hkB.below hb7
           have hro : Rd ((wB.alloc (.cells (bytesRow (tab4 i) (grownCap wB (tab4 i).size 0 5)) 5 ((bytesRow (tab4 i) (grownCap wB (tab4 i).size 0 5)).size, (bytesRow (tab4 i) (grownCap wB (tab4 i).size 0 5)).size + 1))).drew) ((wB.alloc (.cells (bytesRow (tab4 i) (grownCap wB (tab4 i).size 0 5)) 5 ((bytesRow (tab4 i) (grownCap wB (tab4 i).size 0 5)).size, (bytesRow (tab4 i) (grownCap wB (tab4 i).size 0 5)).size + 1))).drew).heap.size (some ⟨go, 0, none⟩) (sb (tab4 i)).length (bv (sb (tab4 i))) := Rd.of_stringAt _ _ _ _ _ hgo
           have hgo2 : go < ((wB.alloc (.cells (bytesRow (tab4 i) (grownCap wB (tab4 i).size 0 5)) 5 ((bytesRow (tab4 i) (grownCap wB (tab4 i).size 0 5)).size, (bytesRow (tab4 i) (grownCap wB (tab4 i).size 0 5)).size + 1))).drew).heap.size := by rw [<- hgo]; simp
           obtain ⟨co, hco⟩ : ∃ x, grownCap wB (tab4 i).size 0 5 = x := ⟨_, rfl⟩
           rw [hco] at hS hro hgo2 hk4 hg42 hkB |-
           obtain ⟨wD, hwD⟩ : ∃ x, (wB.alloc (.cells (bytesRow (tab4 i) co) 5 ((bytesRow (tab4 i) co).size, (bytesRow (tab4 i) co).size + 1))).drew = x := ⟨_, rfl⟩
           rw [hwD] at hS hro hgo2 hk4 hg42 hkB |-
           clear hwD hco hb7 hgo
           go_simp
           refine hK.out _ _ (Or.inr hS.out) (fun _ => ?_)
           clear hK K
           refine AnyT.ready (rs := [9]) (by kernel_rfl) (by simp) ?_
           refine AllT.cons rfl (fun K hK => ?_) AllT.nil
           go_simp
           have hSz := hS.out.size
           refine (keysF_any _ _).mono ?_
           have hg4o := hg42
           rintro e w9 ⟨lk, gk, ck, rfl, hrk, hlk, hlk9, hgk1, hgk2, hb9⟩
           have hS := hD (hS.out.trans (hb9.mono hS.out.size))
           have hk4 := hk4.below hb9
           have hg42 := Nat.lt_of_lt_of_le hg42 hb9.size
           have hro := (hro.below hb9).fit
           have hgo2 := Nat.lt_of_lt_of_le hgo2 hb9.size
           have hzk : wz.heap.size <= gk := by omega
           have hnk : g4 ≠ gk := by omega
           go_simp
           refine hK.out _ _ (Or.inr hS.out) (fun _ => ?_)
           clear hK K
           refine AnyT.take (i := 18) (v := .agg #[.int .i64 (x : Int), .int .i64 (y : Int), .slice (some ⟨gk, 0, none⟩) lk.length ck, .slice Av lv.length cv, .slice (some ⟨go, 0, none⟩) (sb (tab4 i)).length co]) rfl (by kernel_rfl) (by kernel_rfl) (by kernel_rfl) (by kernel_rfl) (fun _ _ _ h => h) (Or.inl ⟨by kernel_rfl, fun w _ => by go_simp; simp [sb_len]⟩) hS.out ?_
           refine AnyT.ready (rs := [20]) (by kernel_rfl) (by simp) ?_
           refine AllT.cons rfl (fun K hK => ?_) AllT.nil
           obtain ⟨c0, c1, c2, c3, c4⟩ := five hk4
           have f0 := hk4.frozen 0
           have f1 := hk4.frozen 1
           have f2 := hk4.frozen 2
           have f3 := hk4.frozen 3
           have f4 := hk4.frozen 4
           go_simp
           refine hK.out _ _ (Or.inl rfl) (fun _ => ?_)
           clear hK K
           refine AnyT.done (by kernel_rfl) ?_ _
           go_wp2_with fail
           go_meet
           have hk5 := ((((hk4.set_ 0 (.int .i64 (x : Int))).set_ 1 (.int .i64 (y : Int))).set_ 2 (.slice (some ⟨gk, 0, none⟩) lk.length ck)).set_ 3 (.slice Av lv.length cv)).set_ 4 (.slice (some ⟨go, 0, none⟩) (sb (tab4 i)).length co)
           have hs : (sb (tab4 i)).length = (tab4 i).size := sb_len _
           rw [hs] at hro hk5
           refine ⟨g4, gk, go, ck, co, lk, sb (tab4 i), _, _, rfl, hD ⟨by rw [hs]; exact hk5, hz4, hzk, hzo, hnk, hno, ((((hrk.set_ne hnk).set_ne hnk).set_ne hnk).set_ne hnk).set_ne hnk, by rw [hs]; exact ((((hro.set_ne hno).set_ne hno).set_ne hno).set_ne hno).set_ne hno, ((((hS.out.setCell (p := ⟨g4, 0, none⟩) hz4 _).setCell (p := ⟨g4, 1, none⟩) hz4 _).setCell (p := ⟨g4, 2, none⟩) hz4 _).setCell (p := ⟨g4, 3, none⟩) hz4 _).setCell (p := ⟨g4, 4, none⟩) hz4 _⟩, hD ⟨hlk, hlk9, sb_lt _, by rw [sb_len]; exact tab4_size i hi4⟩⟩
  case rest =>
   obtain ⟨g, gk, go, ck, co, lk, lo, kd, wh, rfl, HC, HL⟩ := hcut
   clear h4 hii hm hy hi hx hxw kc
   rename World => w5
   obtain ⟨p, hp, hp4⟩ : ∃ p : Nat, bits .and .i64 (n / 131072) 3 = (p : Int) /\ p < 4 := by
    rw [and_3]; have h1 := Int.emod_nonneg (n / 131072) (show (4 : Int) ≠ 0 by omega); exact ⟨(n / 131072 % 4).toNat, by omega, by omega⟩
   have hpi : (p : Int) < 4 := by omega
   have hpt := tabk_at p
   obtain ⟨z0, z1, z2, z3, z4⟩ := five HC.out.blk
   go_upto_region 3 with fail
   go_cut [38] from 31 to 38 (fun s38 wx => ∃ b : Bool, s38 = .bool b /\ wx = w5)
   case first =>
    by_cases h0 : kd = 0
    · have k0 : (kd == 0) = true := by simpa using h0
      clear h0
      go_wp2_with fail
      go_meet
      exact ⟨_, rfl, rfl⟩
    · have k0 : (kd == 0) = false := by simpa using h0
      clear h0
      go_wp2_with fail
      go_meet
      exact ⟨_, rfl, rfl⟩
   case rest =>
   obtain ⟨b, rfl, hw5⟩ := hcut
   subst hw5
   rename World => w5
   go_upto_if 38 with fail
   go_cut [] from 39 to 45 (fun wx => ∃ kd', Hid (CmdS wz wx g gk go ck co Av cv lk lv lo kd' wh))
   case first =>
    cases b with
    | false =>
      go_wp2_with fail
      go_meet
      exact ⟨_, HC⟩
    | true =>
      have HA := hD (HC.out.below ((Below.refl _ _).alloc lR (.cells #[.int .i64 1, .int .i64 2, .int .i64 4, .int .i64 9] 3)))
      obtain ⟨t0, t1, t2, t3, t4⟩ := five HA.out.blk
      have f0 := HA.out.blk.frozen 0
      go_wp2_with fail
      go_meet
      exact ⟨_, hD (HA.out.set0 _)⟩
   case rest =>
    obtain ⟨kd', HC2⟩ := hcut
    clear z0 z1 z2 z3 z4 hp hpi hpt HC
    rename World => w6
    obtain ⟨q, hq⟩ : ∃ q, bits .and .i64 (n / 524288) 31 = q := ⟨_, rfl⟩
    obtain ⟨r, hr⟩ : ∃ q, bits .and .i64 (n / 16777216) 31 = q := ⟨_, rfl⟩
    obtain ⟨u, hu⟩ : ∃ q, bits .and .i64 (n / 131072) 2047 = q := ⟨_, rfl⟩
    obtain ⟨v, hv⟩ : ∃ q, IntKind.i64.wrap (u - 20) = q := ⟨_, rfl⟩
    go_upto_region 5 with fail
    go_cut [49] from 46 to 49 (fun s49 wx => ∃ b : Bool, s49 = .bool b /\ wx = w6)
    case first =>
     go_wp2_with fail
     go_meet
     exact ⟨_, rfl, rfl⟩
    case rest =>
    obtain ⟨b, rfl, hw6⟩ := hcut
    subst hw6
    rename World => w6
    go_upto_if 49 with fail
    go_cut [] from 50 to 58 (fun wx => ∃ kd' wh', Hid (CmdS wz wx g gk go ck co Av cv lk lv lo kd' wh'))
    case first =>
     cases b with
     | false =>
       go_wp2_with fail
       go_meet
       exact ⟨_, _, HC2⟩
     | true =>
       obtain ⟨z0, z1, z2, z3, z4⟩ := five HC2.out.blk
       have f0 := HC2.out.blk.frozen 0
       obtain ⟨t0, t1, t2, t3, t4⟩ := five (HC2.out.set0 r).blk
       have f1 := (HC2.out.set0 r).blk.frozen 1
       go_wp2_with fail
       go_meet
       exact ⟨_, _, hD ((HC2.out.set0 _).set1 _)⟩
    case rest =>
     obtain ⟨k3, wh3, HC3⟩ := hcut
     clear hq hr hu hv HC2
     rename World => w7
     have hb0 := HX.out.1.below HC3.out.bel
     have hlt := HX.out.1.lt
     have hzg := HC3.out.zg
     obtain ⟨z0, z1, z2, z3, z4⟩ := five HC3.out.blk
     obtain ⟨t0, t1, t2, t3, t4⟩ := five hb0
     have f0 := hb0.frozen 0
     have f1 := hb0.frozen 1
     have f2 := hb0.frozen 2
     have f3 := hb0.frozen 3
     have f4 := hb0.frozen 4
     have HB0 := hD hb0
     clear hb0
     go_wp2_with fail
     have k5 := ((((HB0.out.set_ 0 (.int .i64 k3)).set_ 1 (.int .i64 wh3)).set_ 2 (.slice (some ⟨gk, 0, none⟩) lk.length ck)).set_ 3 (.slice Av lv.length cv)).set_ 4 (.slice (some ⟨go, 0, none⟩) lo.length co)
     refine bodyPost_ret (results_cell_row rfl _ _ _ _ _ _ _ rfl k5 Tryz.underlying41 rfl (by kernel_rfl)) rfl ?_
     have n1 : w.heap.size ≠ gk := by have := HC3.out.zk; omega
     have n2 : w.heap.size ≠ go := by have := HC3.out.zo; omega
     have n3 := HV.out.2
     have rv := (HV.out.1.below HC3.out.bel)
     have hbw : Below w.heap.size w w7 := HX.out.2.trans (HC3.out.bel.mono HX.out.2.size)
     have hl := Nat.le_refl w.heap.size
     refine ⟨⟨some ⟨gk, 0, none⟩, ck, Av, cv, some ⟨go, 0, none⟩, co⟩, ⟨k3, wh3, lk, lv, lo⟩, rfl, ⟨⟨by have := HL.out.2.1; show lk.length <= 100; omega, HL.out.1⟩, ⟨by have := HVB.out.2; show lv.length <= 100; omega, HVB.out.1⟩, ⟨by have := HL.out.2.2.2; show lo.length <= 100; omega, HL.out.2.2.1⟩⟩, ⟨?_, ?_, ?_⟩, ⟨⟨gk, rfl⟩, ⟨gv, HAV.out.symm⟩, ⟨go, rfl⟩⟩, ?_⟩
     · exact ((((HC3.out.rk.set_ne n1).set_ne n1).set_ne n1).set_ne n1).set_ne n1
     · rw [HAV.out] at rv
       have rv := rv.fit
       rw [<- HAV.out] at rv |-
       exact ((((rv.set_ne n3).set_ne n3).set_ne n3).set_ne n3).set_ne n3
     · exact ((((HC3.out.ro.set_ne n2).set_ne n2).set_ne n2).set_ne n2).set_ne n2
     · exact ((((hbw.setCell (p := ⟨w.heap.size, 0, none⟩) hl _).setCell (p := ⟨w.heap.size, 1, none⟩) hl _).setCell (p := ⟨w.heap.size, 2, none⟩) hl _).setCell (p := ⟨w.heap.size, 3, none⟩) hl _).setCell (p := ⟨w.heap.size, 4, none⟩) hl _
end Go.Proofs.YtmekamgohonffaaGreat
