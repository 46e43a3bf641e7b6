/- ObjCmd -/
import Derived.Test.YtjindkeojhihdaaVT27
import Derived.Test.YtjindkeojhihdaaVT38
import Derived.Test.YtjindkeojhihdaaVT42
import Derived.Deep.CutBlock
import Derived.Deep.RegionHeld3
namespace Go.Proofs.Ytjindkeojhihdaa
open Go.RowKit
set_option linter.unusedVariables false
def tab8 (j : Nat) : ByteArray := ([⟨#[]⟩, ⟨#[97]⟩, ⟨#[98]⟩, ⟨#[97, 98]⟩, ⟨#[118, 97, 108, 117, 101]⟩, ⟨#[48, 49, 50, 51, 52, 53, 54, 55, 56, 57, 97, 98, 99, 100, 101, 102]⟩, ⟨#[48, 49, 50, 51, 52, 53, 54, 55, 56, 57, 97, 98, 99, 100, 101, 102, 103]⟩, ⟨#[0, 255]⟩] : List ByteArray).getD j ⟨#[]⟩
def tab4 (j : Nat) : ByteArray := ([⟨#[]⟩, ⟨#[97]⟩, ⟨#[98]⟩, ⟨#[97, 98]⟩] : List ByteArray).getD j ⟨#[]⟩
theorem tab8_at : ∀ j (h : j < ([.string ⟨#[]⟩, .string ⟨#[97]⟩, .string ⟨#[98]⟩, .string ⟨#[97, 98]⟩, .string ⟨#[118, 97, 108, 117, 101]⟩, .string ⟨#[48, 49, 50, 51, 52, 53, 54, 55, 56, 57, 97, 98, 99, 100, 101, 102]⟩, .string ⟨#[48, 49, 50, 51, 52, 53, 54, 55, 56, 57, 97, 98, 99, 100, 101, 102, 103]⟩, .string ⟨#[0, 255]⟩] : List Value).length), ([.string ⟨#[]⟩, .string ⟨#[97]⟩, .string ⟨#[98]⟩, .string ⟨#[97, 98]⟩, .string ⟨#[118, 97, 108, 117, 101]⟩, .string ⟨#[48, 49, 50, 51, 52, 53, 54, 55, 56, 57, 97, 98, 99, 100, 101, 102]⟩, .string ⟨#[48, 49, 50, 51, 52, 53, 54, 55, 56, 57, 97, 98, 99, 100, 101, 102, 103]⟩, .string ⟨#[0, 255]⟩] : List Value)[j]'h = .string (tab8 j) := by
  intro j h
  match j, h with
  | 0, _ | 1, _ | 2, _ | 3, _ | 4, _ | 5, _ | 6, _ | 7, _ => rfl
theorem tab4_at : ∀ j (h : j < ([.string ⟨#[]⟩, .string ⟨#[97]⟩, .string ⟨#[98]⟩, .string ⟨#[97, 98]⟩] : List Value).length), ([.string ⟨#[]⟩, .string ⟨#[97]⟩, .string ⟨#[98]⟩, .string ⟨#[97, 98]⟩] : List Value)[j]'h = .string (tab4 j) := by
  intro j h
  match j, h with
  | 0, _ | 1, _ | 2, _ | 3, _ => rfl
theorem tab8_size : ∀ j, j < 8 → (tab8 j).size ≤ 17 := by
  intro j hj
  match j, hj with
  | 0, _ | 1, _ | 2, _ | 3, _ | 4, _ | 5, _ | 6, _ | 7, _ => decide
theorem tab4_size : ∀ j, j < 4 → (tab4 j).size ≤ 2 := by
  intro j hj
  match j, hj with
  | 0, _ | 1, _ | 2, _ | 3, _ => decide
def tabk (p : Nat) : Int := ([1, 2, 4, 9] : List Int).getD p 0
theorem tabk_at : ∀ p (h : p < ([.int .i64 1, .int .i64 2, .int .i64 4, .int .i64 9] : List Value).length), ([.int .i64 1, .int .i64 2, .int .i64 4, .int .i64 9] : List Value)[p]'h = .int .i64 (tabk p) := by
  intro p h
  match p, h with
  | 0, _ | 1, _ | 2, _ | 3, _ => rfl
theorem Rd.set_ne {w : World} {B gk o n b i : Nat} {u : Value} {vs : List Value} (h : Rd w B (some ⟨gk, o, none⟩) n vs) (hne : b ≠ gk) : Rd (w.setCell ⟨b, i, none⟩ u) (w.setCell ⟨b, i, none⟩ u).heap.size (some ⟨gk, o, none⟩) n vs := by
  refine Rd.fit (B := B) ⟨h.1, fun hn => ?_⟩
  obtain ⟨b', o', e, hb, hc⟩ := h.2 hn
  injection e with e
  injection e with e1 e2
  subst e1 e2
  refine ⟨gk, o, rfl, hb, fun j hj => ?_⟩
  rw [← hc j hj]
  exact World.cell?_of_block (Below.heap_setCell w ⟨b, i, none⟩ u gk (fun e => hne e.symm))
/-- the command under way: its variable, its rows -/
structure CmdS (wz wx : World) (g gk go ck co : Nat) (Av : Option Addr) (cv : Nat) (lk lv lo : List Nat) (kd wh : Int) : Prop where
  blk : Blk wx g 25 #[.int .i64 kd, .int .i64 wh, .slice (some ⟨gk, 0, none⟩) lk.length ck, .slice Av lv.length cv, .slice (some ⟨go, 0, none⟩) lo.length co]
  zg : wz.heap.size ≤ g
  zk : wz.heap.size ≤ gk
  zo : wz.heap.size ≤ go
  nk : g ≠ gk
  no : g ≠ go
  rk : Rd wx wx.heap.size (some ⟨gk, 0, none⟩) lk.length (bv lk)
  ro : Rd wx wx.heap.size (some ⟨go, 0, none⟩) lo.length (bv lo)
  bel : Below wz.heap.size wz wx
theorem CmdS.below {wz wx wy : World} {g gk go ck co : Nat} {Av : Option Addr} {cv : Nat} {lk lv lo : List Nat} {kd wh : Int} (h : CmdS wz wx g gk go ck co Av cv lk lv lo kd wh) (hb : Below wx.heap.size wx wy) : CmdS wz wy g gk go ck co Av cv lk lv lo kd wh :=
  ⟨h.blk.below hb, h.zg, h.zk, h.zo, h.nk, h.no, (h.rk.below hb).fit, (h.ro.below hb).fit, h.bel.trans (hb.mono h.bel.size)⟩
theorem CmdS.set0 {wz wx : World} {g gk go ck co : Nat} {Av : Option Addr} {cv : Nat} {lk lv lo : List Nat} {kd wh : Int} (h : CmdS wz wx g gk go ck co Av cv lk lv lo kd wh) (z : Int) : CmdS wz (wx.setCell ⟨g, 0, none⟩ (.int .i64 z)) g gk go ck co Av cv lk lv lo z wh :=
  ⟨h.blk.set_ 0 _, h.zg, h.zk, h.zo, h.nk, h.no, h.rk.set_ne h.nk, h.ro.set_ne h.no, h.bel.setCell (p := ⟨g, 0, none⟩) h.zg _⟩
theorem CmdS.set1 {wz wx : World} {g gk go ck co : Nat} {Av : Option Addr} {cv : Nat} {lk lv lo : List Nat} {kd wh : Int} (h : CmdS wz wx g gk go ck co Av cv lk lv lo kd wh) (z : Int) : CmdS wz (wx.setCell ⟨g, 1, none⟩ (.int .i64 z)) g gk go ck co Av cv lk lv lo kd z :=
  ⟨h.blk.set_ 1 _, h.zg, h.zk, h.zo, h.nk, h.no, h.rk.set_ne h.nk, h.ro.set_ne h.no, h.bel.setCell (p := ⟨g, 1, none⟩) h.zg _⟩
end Go.Proofs.Ytjindkeojhihdaa

