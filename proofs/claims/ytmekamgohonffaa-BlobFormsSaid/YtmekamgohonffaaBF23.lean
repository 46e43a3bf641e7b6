/- ObjKit Seal -/
import Derived.Test.YtmekamgohonffaaBF02
import Derived.Test.YtmekamgohonffaaBF03
import Derived.Test.YtmekamgohonffaaBF05
import Derived.Test.YtmekamgohonffaaBF07
import Derived.Test.YtmekamgohonffaaBF13
import Derived.Test.YtmekamgohonffaaBF18
import Derived.Test.YtmekamgohonffaaBF19
import Derived.Test.YtmekamgohonffaaBF21
import Derived.Test.YtmekamgohonffaaBF22
import Derived.BigQuiet
import Derived.Deep.DeepCutAuto
import Derived.Deep.DrawnRows
import Derived.Deep.QuietTactic
import Derived.Deep.RegionHeld3
import Derived.Deep.RegionWith
import Derived.Deep.CutBlock
import Derived.OwnWalk
import Derived.WalkSpells
namespace Go.Proofs.Ytmekamgohonffaa
open Go.RowKit
set_option linter.unusedVariables false
/-- a register, a queue, a lock, a map -/
structure Ob where
  reg : List Nat
  q : List (List Nat)
  lk : List Int
  mp : List Pr
/-- a command -/
structure Cm where
  kind : Int
  who : Int
  key : List Nat
  val : List Nat
  old : List Nat
/-- where objects lie -/
structure OA where
  A0 : Option Addr
  c0 : Nat
  A1 : Option Addr
  c1 : Nat
  A2 : Option Addr
  c2 : Nat
  A3 : Option Addr
  c3 : Nat
/-- where a command lies -/
structure CA where
  Ak : Option Addr
  ck : Nat
  Av : Option Addr
  cv : Nat
  Ao : Option Addr
  co : Nat
def objC (a : OA) (s : Ob) : Array Value := #[.slice a.A0 s.reg.length a.c0, .slice a.A1 s.q.length a.c1, .slice a.A2 s.lk.length a.c2, .slice a.A3 s.mp.length a.c3]
def objV (a : OA) (s : Ob) : Value := .agg (objC a s)
/-- objects that read -/
structure RdO (w : World) (B : Nat) (a : OA) (s : Ob) : Prop where
  r0 : Rd w B a.A0 s.reg.length (bv s.reg)
  r1 : RdQ w B a.A1 s.q.length s.q
  r2 : Rd w B a.A2 s.lk.length (iv s.lk)
  r3 : RdP w B a.A3 s.mp.length s.mp
  l1 : s.q.length ≤ a.c1
  l2 : s.lk.length ≤ a.c2
  l3 : s.mp.length ≤ a.c3
/-- a command that reads -/
structure RdC (w : World) (B : Nat) (a : CA) (c : Cm) : Prop where
  rk : Rd w B a.Ak c.key.length (bv c.key)
  rv : Rd w B a.Av c.val.length (bv c.val)
  ro : Rd w B a.Ao c.old.length (bv c.old)
/-- objects of the call's own -/
structure OwnO (W w : World) (a : OA) (s : Ob) : Prop where
  o0 : OwnB W w a.A0 s.reg.length a.c0 s.reg
  o1 : OwnQ W w a.A1 s.q.length a.c1 s.q
  o2 : OwnI W w a.A2 s.lk.length a.c2 s.lk
  o3 : OwnP W w a.A3 s.mp.length a.c3 s.mp
section
variable {W w w' : World} {B : Nat} {a : OA} {ca : CA} {s : Ob} {c : Cm}
theorem RdO.below (h : RdO w B a s) (hb : Below B w w') : RdO w' B a s := ⟨h.r0.below hb, h.r1.below hb, h.r2.below hb, h.r3.below hb, h.l1, h.l2, h.l3⟩
theorem RdO.fit (h : RdO w B a s) : RdO w w.heap.size a s := ⟨h.r0.fit, h.r1.fit, h.r2.fit, h.r3.fit, h.l1, h.l2, h.l3⟩
theorem RdC.below (h : RdC w B ca c) (hb : Below B w w') : RdC w' B ca c := ⟨h.rk.below hb, h.rv.below hb, h.ro.below hb⟩
theorem RdC.fit (h : RdC w B ca c) : RdC w w.heap.size ca c := ⟨h.rk.fit, h.rv.fit, h.ro.fit⟩
theorem OwnQ.cap {W w : World} {A : Option Addr} {n c : Nat} {qs : List (List Nat)} (h : OwnQ W w A n c qs) : n ≤ c := by obtain ⟨vs, h1, _⟩ := h; exact (own_cap h1).1
theorem OwnO.rd (h : OwnO W w a s) : RdO w w.heap.size a s := ⟨Rd.own_ h.o0, h.o1.rd, Rd.own_ h.o2, h.o3.rd, h.o1.cap, (own_cap h.o2).1, h.o3.cap⟩
theorem OwnO.below (h : OwnO W w a s) (hb : Below w.heap.size w w') : OwnO W w' a s := ⟨own_below h.o0 hb, h.o1.below hb, ownsRow_below h.o2 hb, h.o3.below hb⟩
theorem OwnO.of {W w w' : World} (hs : W.heap.size ≤ w.heap.size) (h : OwnO w w' a s) : OwnO W w' a s := ⟨more_ hs h.o0, h.o1.of hs, more_ hs h.o2, h.o3.of hs⟩
theorem OwnO.set_t {b i : Nat} {t : TypeId} {u : Value} {cs : Array Value} (h : OwnO W w a s) (hb : Blk w b t cs) (h1 : 5 ≠ t) (h2 : 22 ≠ t) (h3 : 3 ≠ t) (h4 : 68 ≠ t) : OwnO W (w.setCell ⟨b, i, none⟩ u) a s :=
  ⟨own_set_t h.o0 hb h1, h.o1.set_t hb h1 h2, own_set_t h.o2 hb h3, h.o3.set_t hb h1 h4⟩
end
/-- what objects keep -/
structure Ob.Inv (s : Ob) : Prop where
  reg : s.reg.length ≤ 16
  regb : ∀ x ∈ s.reg, x < 256
  ql : s.q.length ≤ 8
  qv : ∀ l ∈ s.q, l.length ≤ 16
  qb : BytesL s.q
  lkl : s.lk.length ≤ 5
  lkn : s.lk.Nodup
  mp : Mp.Inv s.mp
/-- what a command keeps -/
structure Cm.Fits (c : Cm) : Prop where
  key : c.key.length ≤ 100 ∧ ∀ x ∈ c.key, x < 256
  val : c.val.length ≤ 100 ∧ ∀ x ∈ c.val, x < 256
  old : c.old.length ≤ 100 ∧ ∀ x ∈ c.old, x < 256
theorem Ob.Inv.nil : Ob.Inv ⟨[], [], [], []⟩ := ⟨by simp, by simp, by simp, by simp, by intro l h; simp at h, by simp, by simp, Mp.Inv.nil⟩
/-- what a walk reads of a block of four cells -/
theorem four {w : World} {b : Nat} {t : TypeId} {x y z u : Value} (h : Blk w b t #[x, y, z, u]) :
    w.cell? ⟨b, 0, none⟩ = some x ∧ w.cell? ⟨b, 1, none⟩ = some y ∧ w.cell? ⟨b, 2, none⟩ = some z ∧ w.cell? ⟨b, 3, none⟩ = some u ∧ w.frozen? ⟨b, 0, none⟩ = false ∧ w.frozen? ⟨b, 1, none⟩ = false ∧ w.frozen? ⟨b, 2, none⟩ = false ∧ w.frozen? ⟨b, 3, none⟩ = false :=
  ⟨h.cell 0, h.cell 1, h.cell 2, h.cell 3, h.frozen 0, h.frozen 1, h.frozen 2, h.frozen 3⟩
/-- .. of five -/
theorem five {w : World} {b : Nat} {t : TypeId} {x y z u v : Value} (h : Blk w b t #[x, y, z, u, v]) :
    w.cell? ⟨b, 0, none⟩ = some x ∧ w.cell? ⟨b, 1, none⟩ = some y ∧ w.cell? ⟨b, 2, none⟩ = some z ∧ w.cell? ⟨b, 3, none⟩ = some u ∧ w.cell? ⟨b, 4, none⟩ = some v :=
  ⟨h.cell 0, h.cell 1, h.cell 2, h.cell 3, h.cell 4⟩
end Go.Proofs.Ytmekamgohonffaa

namespace Go.Proofs.Ytmekamgohonffaa
open Go.RowKit
set_option linter.unusedVariables false
set_option maxHeartbeats 2000000 in
set_option maxRecDepth 100000 in
theorem seallay_raw {w : World} {A : Option Addr} {n c B : Nat} {l : List Nat} (hl : ∀ x ∈ l, x < 256) (hn : l.length ≤ 2000000) (h : Rd w B A n (bv l)) : Calls Try.prog 12 #[.slice A n c] w (GotIn w w (Fr.lay l)) := by
  have hln := h.length
  have C := Lib.hid (frsum_any (W := w) (c := c) hl (by unfold maxLen; omega) h (Below.refl _ _))
  have HH := Lib.hid h.fit
  have HN : Hid (n ≤ 2000000) := Lib.hid (by omega)
  obtain ⟨s, hs⟩ : ∃ s, Crc.sum l = s := ⟨_, rfl⟩
  have HLL : Hid (4 + n = (Fr.lay l).length) := Lib.hid (by rw [Fr.lay_len, hln])
  have HLE : Hid (Fr.lay l = Fr.four s ++ l) := Lib.hid (by unfold Fr.lay; rw [hs])
  rw [hs] at C
  obtain ⟨L, hL⟩ : ∃ x, Fr.lay l = x := ⟨_, rfl⟩
  rw [hL] at HLL HLE ⊢
  clear hl hn h hs hln hL
  go_enter Try.func12, Try.ntmps12
  go_wp2_with (first
    | (go_at_call 34; refine C.out.mono ?_; rintro en w2 ⟨A2, c2, he, ho2, hB2, hb2⟩
       have he2 : en = .returned (.slice A2 4 c2) := he
       have ho2' : OwnB w w2 A2 4 c2 (Fr.four s) := ho2
       clear he ho2
       subst he2
       have HS := Lib.hid ho2'
       have HB2 := Lib.hid hB2
       have HH2 := Lib.hid (HH.out.below hb2)
       clear ho2' hB2 hb2)
    | (at_builtin
       refine wpList_append_bytes (W := w) byteT (.tmp 4) (.tmp 5) rfl (by rfl) rfl HS.out rfl HH2.out (by have := HN.out; omega) HB2.out ?_
       intro A3 c3 w3 ho3 hr3 hB3
       have HO3 := Lib.hid ho3
       have HB3 := Lib.hid hB3
       clear ho3 hr3 hB3)
    | fail)
  go_ret
  refine ⟨A3, c3, by rw [← HLL.out]; rfl, ?_, HB3.out, HB3.out⟩
  rw [← HLL.out, HLE.out]
  exact HO3.out
theorem seallay {W w : World} {A : Option Addr} {n c B : Nat} {l L : List Nat} (he : Fr.lay l = L) (hl : ∀ x ∈ l, x < 256) (hn : l.length ≤ 2000000) (h : Rd w B A n (bv l)) (hB : Below W.heap.size W w) : Calls Try.prog 12 #[.slice A n c] w (GotIn W w L) := by
  subst he
  exact (seallay_raw hl hn h).mono fun e w' ⟨A, c, h1, h2, h3, h4⟩ => ⟨A, c, h1, own_of hB.size h2, hB.trans (h3.mono hB.size), h4⟩
set_option maxHeartbeats 2000000 in
set_option maxRecDepth 100000 in
theorem seallift_raw {w : World} {A : Option Addr} {n c B : Nat} {l : List Nat} (hb : ∀ x ∈ l, x < 256) (hl : l.length ≤ 2000000) (hc : n ≤ c) (h : Rd w B A n (bv l)) : Calls Try.prog 13 #[.slice A n c] w (GotU w w (Fr.unf l)) := by
  have hn := h.length
  have HRZ := Lib.hid h.fit
  have HL := Lib.hid hl
  have HBY := Lib.hid hb
  obtain ⟨i9, hi1, hi2, hi3, hi4⟩ := info_parts byteT.info
  clear hi2 hi4
  have HI1 := Lib.hid hi1
  have HI3 := Lib.hid hi3
  clear hl hb hi1 hi3 h
  by_cases h4 : n < 4
  · have hr : Fr.unf l = none := by unfold Fr.unf; rw [if_pos (by omega)]
    have HR := Lib.hid hr
    clear hn hr
    go_enter Try.func13, Try.ntmps13
    go_wp2
    go_ret2
    rw [HR.out]
    exact ⟨none, 0, rfl, own_nil _ _, Below.refl _ _, Below.refl _ _⟩
  · have HR4 : Hid (Rd w w.heap.size (cutAt A c 4) (n - 4) (bv (l.drop 4))) := Lib.hid (by rw [bv_drop]; exact (HRZ.out.drop (by omega) hc).fit)
    have HRT : Hid (Rd w w.heap.size A 4 (bv (l.take 4))) := Lib.hid (by rw [bv_take]; exact (HRZ.out.take (by omega)).fit)
    have HD : Hid (∀ x ∈ l.drop 4, x < 256) := Lib.hid (fun x hx => HBY.out x (List.mem_of_mem_drop hx))
    have HT : Hid (∀ x ∈ l.take 4, x < 256) := Lib.hid (fun x hx => HBY.out x (List.mem_of_mem_take hx))
    have HDL : Hid (n - 4 ≤ 2000000) := Lib.hid (by have := HL.out; omega)
    have HOP : Hid (Fr.unf l = if l.take 4 = Fr.four (Crc.sum (l.drop 4)) then some (l.drop 4) else none) := Lib.hid (by unfold Fr.unf; rw [if_neg (by omega)])
    have hs1 : ∀ w : World, (Instr.slice 22 (.slice A n c) none (some (.int .i64 4)) none).run Try.prog w = .ok (.slice A 4 c) w := fun w => run_slice_to (P := Try.prog) (t := 22) byteT.under HI1.out A n c 4 (by omega) w
    have hs2 : ∀ w : World, (Instr.slice 22 (.slice A n c) (some (.int .i64 4)) none none).run Try.prog w = .ok (.slice (cutAt A c 4) (n - 4) (c - 4)) w := fun w => run_slice_from (P := Try.prog) (t := 22) byteT.under HI1.out HI3.out A n c 4 (by omega) w
    clear hn hc HL HBY
    obtain ⟨T, hT⟩ : ∃ x, l.take 4 = x := ⟨_, rfl⟩
    obtain ⟨D, hD⟩ : ∃ x, l.drop 4 = x := ⟨_, rfl⟩
    obtain ⟨AD, hAD⟩ : ∃ x, cutAt A c 4 = x := ⟨_, rfl⟩
    obtain ⟨X, hX⟩ : ∃ x, Fr.unf l = x := ⟨_, rfl⟩
    rw [hX] at HOP ⊢
    rw [hT, hD] at HOP
    rw [hT] at HRT HT
    rw [hD] at HR4 HD
    rw [hAD] at HR4 hs2
    clear hT hD hX hAD
    go_enter Try.func13, Try.ntmps13
    go_upto_region 3 with fail
    go_quiet (fail)
    have hbd : Below w.heap.size w (w.drewN nq) := (Below.refl w.heap.size w).trans ⟨rfl, rfl, rfl, Nat.le_refl _, fun _ _ => rfl⟩
    have HR4 := Lib.hid (HR4.out.below hbd)
    have HRT := Lib.hid (HRT.out.below hbd)
    have HBD := Lib.hid hbd
    generalize w.drewN nq = wd at hbd HR4 HRT HBD ⊢
    clear hbd hs1 hs2
    have CS : Hid (Calls Try.prog 34 #[.slice AD (n - 4) (c - 4)] wd (GotIn w wd (Fr.four (Crc.sum D)))) := Lib.hid (frsum_any HD.out (by have := HDL.out; unfold maxLen; omega) HR4.out HBD.out)
    by_cases he : T = Fr.four (Crc.sum D)
    · have hd : decide (T = Fr.four (Crc.sum D)) = true := by simpa using he
      have hXd : X = some D := by rw [HOP.out, if_pos he]
      have HX := Lib.hid hXd
      clear he hXd HOP
      go_wp2_with (first
        | (go_at_call 34; refine CS.out.mono ?_; rintro en w2 ⟨A2, c2, he2, ho2, hB2, hb2⟩
           have he3 : en = .returned (.slice A2 4 c2) := he2
           have ho3 : OwnB w w2 A2 4 c2 (Fr.four (Crc.sum D)) := ho2
           clear he2 ho2
           subst he3
           have HS := Lib.hid (Rd.own_ ho3)
           have HB2 := Lib.hid hB2
           have HR42 := Lib.hid (HR4.out.below (hb2.mono HBD.out.size))
           have HRT2 := Lib.hid (HRT.out.below (hb2.mono HBD.out.size))
           clear ho3 hB2 hb2)
        | (go_at_call 35; refine (equal_any _ _ _ _ _ _ _ _ _ T (Fr.four (Crc.sum D)) HT.out (Fr.four_lt _) HRT2.out HS.out).mono ?_; rintro en wq ⟨rfl, rfl⟩; rw [hd])
        | (go_at_call 33; refine (clone_any (W := w) (by have := HDL.out; unfold Lim; omega) HR42.out HB2.out).mono ?_; rintro en w3 ⟨A3, c3, rfl, ho3, hB3, hb3⟩
           have HO3 := Lib.hid ho3
           have HB3 := Lib.hid hB3
           clear ho3 hB3 hb3)
        | fail)
      go_ret2
      rw [HX.out]
      exact ⟨A3, c3, rfl, HO3.out, HB3.out, HB3.out⟩
    · have hd : decide (T = Fr.four (Crc.sum D)) = false := by simpa using he
      have hXd : X = none := by rw [HOP.out, if_neg he]
      have HX := Lib.hid hXd
      clear he hXd HOP
      go_wp2_with (first
        | (go_at_call 34; refine CS.out.mono ?_; rintro en w2 ⟨A2, c2, he2, ho2, hB2, hb2⟩
           have he3 : en = .returned (.slice A2 4 c2) := he2
           have ho3 : OwnB w w2 A2 4 c2 (Fr.four (Crc.sum D)) := ho2
           clear he2 ho2
           subst he3
           have HS := Lib.hid (Rd.own_ ho3)
           have HB2 := Lib.hid hB2
           have HRT2 := Lib.hid (HRT.out.below (hb2.mono HBD.out.size))
           clear ho3 hB2 hb2)
        | (go_at_call 35; refine (equal_any _ _ _ _ _ _ _ _ _ T (Fr.four (Crc.sum D)) HT.out (Fr.four_lt _) HRT2.out HS.out).mono ?_; rintro en wq ⟨rfl, rfl⟩; rw [hd])
        | fail)
      go_ret2
      rw [HX.out]
      exact ⟨none, 0, rfl, own_nil _ _, HB2.out, HB2.out⟩
theorem seallift {W w : World} {A : Option Addr} {n c B : Nat} {l : List Nat} {r : Option (List Nat)} (he : Fr.unf l = r) (hb : ∀ x ∈ l, x < 256) (hl : l.length ≤ 2000000) (hc : n ≤ c) (h : Rd w B A n (bv l)) (hB : Below W.heap.size W w) : Calls Try.prog 13 #[.slice A n c] w (GotU W w r) := by
  subst he
  exact (seallift_raw hb hl hc h).mono fun e w' ⟨A, c, h1, h2, h3, h4⟩ => ⟨A, c, h1, own_of hB.size h2, hB.trans (h3.mono hB.size), h4⟩
end Go.Proofs.Ytmekamgohonffaa

