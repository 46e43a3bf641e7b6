/- What the code of a table owes (two contracts); tables that are well. -/
import Derived.Test.YthblicjcnnjjkaaSessRef3
import Derived.Test.YthblicjcnnjjkaaSessRef4
namespace Go.Proofs.Ythblicjcnnjjkaa
open Go.RowKit
set_option linter.unusedVariables false
/-- a table that is well -/
structure Tb.Ok (ls : List Ls) : Prop where
  rises : Tb.Rises ls
  len : ls.length ≤ 1000
  each : ∀ l ∈ ls, Tb.named l.s l.q ∧ l.v.length ≤ 16 ∧ ∀ x ∈ l.v, x < 256
theorem Tb.Ok.nil : Tb.Ok [] := ⟨List.Pairwise.nil, by simp, by intro l h; cases h⟩
theorem Tb.Ok.put {ls : List Ls} {l : Ls} (h : Tb.Ok ls) (hl : ls.length < 1000) (hn : Tb.named l.s l.q) (hv : l.v.length ≤ 16) (hb : ∀ x ∈ l.v, x < 256) : Tb.Ok (Tb.put ls l) :=
  ⟨Tb.put_rises h.rises, by have := Tb.length_put_le (ls := ls) (l := l); omega, fun m hm => by
    rcases Tb.mem_put hm with rfl | hm
    · exact ⟨hn, hv, hb⟩
    · exact h.each m hm⟩
theorem Tb.Ok.lim {ls : List Ls} (h : Tb.Ok ls) : LimL ls := fun l hl => by have := (h.each l hl).2.1; unfold Lim; omega
theorem Tb.Ok.bytes {ls : List Ls} (h : Tb.Ok ls) : BytesLs ls := fun l hl => (h.each l hl).2.2
theorem Tb.look_vb {ls : List Ls} (h : Tb.Ok ls) (s q : Int) : ∀ x ∈ (Tb.look ls s q).v, x < 256 := by
  unfold Tb.look
  split
  · split
    · rename_i l hl
      split
      · intro x hx; cases hx
      · split
        · exact (h.each l (List.mem_of_find?_eq_some hl)).2.2
        · intro x hx; cases hx
    · split <;> (intro x hx; cases hx)
  · intro x hx; cases hx
/-- Look, as the code owes it -/
def LookC9 : Prop := ∀ {W w : World} {ls : List Ls} {A : Option Addr} {n c B : Nat} (s q : Int), Tb.Ok ls → n ≤ c → RdL w B A n ls → Below W.heap.size W w →
    Calls Try.prog 8 #[.slice A n c, .int .i64 s, .int .i64 q] w (GotRK W w (Tb.look ls s q).e (Tb.look ls s q).v (Tb.look ls s q).n (Tb.look ls s q).k)
/-- Put, as the code owes it -/
def PutC9 : Prop := ∀ {W w : World} {ls : List Ls} {A A' : Option Addr} {n c c' B B' : Nat} (l : Ls), Tb.Ok ls → Tb.named l.s l.q → l.v.length ≤ 16 → (∀ x ∈ l.v, x < 256) → n ≤ c → RdL w B A n ls → Rd w B' A' l.v.length (bv l.v) → Below W.heap.size W w →
    Calls Try.prog 9 #[.slice A n c, .int .i64 l.s, .int .i64 l.q, .agg #[.int .i64 l.e, .slice A' l.v.length c', .int .i64 l.n]] w (GotL W w (Tb.put ls l))
def AwakeC9 : Prop := ∀ (w : World), Calls Try.prog 10 #[] w fun e w' => e = .returned (.bool true) ∧ Below w.heap.size w w'
/-- what is told where the answer is known -/
theorem LookC9.is (h : LookC9) {W w : World} {ls : List Ls} {A : Option Addr} {n c B : Nat} (s q : Int) {e : Int} {v : List Nat} {N k : Int} (ha : Tb.look ls s q = ⟨e, v, N, k⟩) (ho : Tb.Ok ls) (hc : n ≤ c) (hr : RdL w B A n ls) (hB : Below W.heap.size W w) :
    Calls Try.prog 8 #[.slice A n c, .int .i64 s, .int .i64 q] w (GotRK W w e v N k) := by
  have := h s q ho hc hr hB
  rwa [ha] at this
theorem PutC9.is (h : PutC9) {W w : World} {ls ls' : List Ls} {A A' : Option Addr} {n c c' B B' : Nat} (s q e : Int) (v : List Nat) (N : Int) {m : Nat} (hm : v.length = m) (hp : Tb.put ls ⟨s, q, e, v, N⟩ = ls') (ho : Tb.Ok ls) (hn : Tb.named s q) (hv : m ≤ 16) (hb : ∀ x ∈ v, x < 256) (hc : n ≤ c) (hr : RdL w B A n ls) (hr' : Rd w B' A' m (bv v)) (hB : Below W.heap.size W w) :
    Calls Try.prog 9 #[.slice A n c, .int .i64 s, .int .i64 q, .agg #[.int .i64 e, .slice A' m c', .int .i64 N]] w (GotL W w ls') := by
  subst hm hp
  exact h ⟨s, q, e, v, N⟩ ho hn hv hb hc hr hr' hB
set_option maxRecDepth 100000 in
set_option maxHeartbeats 2000000 in
theorem sessAwake (hL : LookC9) (hP : PutC9) : AwakeC9 := by
  intro w
  have ok0 := Tb.Ok.nil
  have ok1 : Tb.Ok [⟨5, 2, 0, [], 7⟩] := Tb.Ok.put (l := ⟨5, 2, 0, [], 7⟩) ok0 (by decide) (by decide) (by decide) (by simp)
  go_enter Try.func10, Try.ntmps10
  go_wp2_with fail
  refine (hP.is (W := w) (ls' := [⟨5, 2, 0, [], 7⟩]) 5 2 0 [] 7 rfl rfl ok0 (by decide) (by decide) (by simp) (Nat.le_refl _) (RdL.nil w w.heap.size none) (Rd.none_ w w.heap.size none) (Below.refl _ _)).mono ?_
  rintro e w1 ⟨A1, c1, rfl, ho1, hB1, hb1⟩
  have HO := Lib.hid ho1
  have hc : 1 ≤ c1 := ho1.cap
  have HX1 := Lib.hid (Below.refl w1.heap.size w1)
  have HB1 := Lib.hid hB1
  clear ho1 hb1 hB1
  go_wp2_with fail
  refine (hL.is (W := w) 5 2 (e := 0) (v := []) (N := 7) (k := 1) rfl ok1 hc (HO.out.below HX1.out).rd HB1.out).mono ?_
  rintro e w2 ⟨A2, c2, rfl, _, hB, hb⟩
  unfold resV
  simp only [List.length_nil]
  have hb' : Below w1.heap.size w1 (w2.alloc (.cells #[.int .i64 0, .slice A2 0 c2, .int .i64 7] 26)) := hb.alloc hb.size _
  have HX2 := Lib.hid (HX1.out.trans (hb'.mono HX1.out.size))
  have HB2 := Lib.hid (hB.alloc hB.size (.cells #[.int .i64 0, .slice A2 0 c2, .int .i64 7] 26))
  have HK2 := Lib.hid (Blk.new w2 26 #[.int .i64 0, .slice A2 0 c2, .int .i64 7])
  clear hb hb' hB HX1 HB1
  go_wp2_with fail
  refine (hL.is (W := w) 5 1 (e := 8) (v := []) (N := 0) (k := 2) rfl ok1 hc (HO.out.below HX2.out).rd HB2.out).mono ?_
  rintro e w3 ⟨A3, c3, rfl, _, hB, hb⟩
  unfold resV
  simp only [List.length_nil]
  have hb' : Below (w2.alloc (.cells #[.int .i64 0, .slice A2 0 c2, .int .i64 7] 26)).heap.size (w2.alloc (.cells #[.int .i64 0, .slice A2 0 c2, .int .i64 7] 26)) (w3.alloc (.cells #[.int .i64 8, .slice A3 0 c3, .int .i64 0] 26)) := hb.alloc hb.size _
  have HX3 := Lib.hid (HX2.out.trans (hb'.mono HX2.out.size))
  have HB3 := Lib.hid (hB.alloc hB.size (.cells #[.int .i64 8, .slice A3 0 c3, .int .i64 0] 26))
  have HK3 := Lib.hid (Blk.new w3 26 #[.int .i64 8, .slice A3 0 c3, .int .i64 0])
  have HK2 := Lib.hid (HK2.out.below hb')
  clear hb hb' hB HX2 HB2
  go_wp2_with fail
  refine (hL.is (W := w) 5 3 (e := 0) (v := []) (N := 0) (k := 0) rfl ok1 hc (HO.out.below HX3.out).rd HB3.out).mono ?_
  rintro e w4 ⟨A4, c4, rfl, _, hB, hb⟩
  unfold resV
  simp only [List.length_nil]
  have hb' : Below (w3.alloc (.cells #[.int .i64 8, .slice A3 0 c3, .int .i64 0] 26)).heap.size (w3.alloc (.cells #[.int .i64 8, .slice A3 0 c3, .int .i64 0] 26)) (w4.alloc (.cells #[.int .i64 0, .slice A4 0 c4, .int .i64 0] 26)) := hb.alloc hb.size _
  have HX4 := Lib.hid (HX3.out.trans (hb'.mono HX3.out.size))
  have HB4 := Lib.hid (hB.alloc hB.size (.cells #[.int .i64 0, .slice A4 0 c4, .int .i64 0] 26))
  have HK4 := Lib.hid (Blk.new w4 26 #[.int .i64 0, .slice A4 0 c4, .int .i64 0])
  have HK2 := Lib.hid (HK2.out.below hb')
  have HK3 := Lib.hid (HK3.out.below hb')
  clear hb hb' hB HX3 HB3
  go_wp2_with fail
  refine (hL.is (W := w) 0 1 (e := 10) (v := []) (N := 0) (k := 2) rfl ok1 hc (HO.out.below HX4.out).rd HB4.out).mono ?_
  rintro e w5 ⟨A5, c5, rfl, _, hB, hb⟩
  unfold resV
  simp only [List.length_nil]
  have hb' : Below (w4.alloc (.cells #[.int .i64 0, .slice A4 0 c4, .int .i64 0] 26)).heap.size (w4.alloc (.cells #[.int .i64 0, .slice A4 0 c4, .int .i64 0] 26)) (w5.alloc (.cells #[.int .i64 10, .slice A5 0 c5, .int .i64 0] 26)) := hb.alloc hb.size _
  have HX5 := Lib.hid (HX4.out.trans (hb'.mono HX4.out.size))
  have HB5 := Lib.hid (hB.alloc hB.size (.cells #[.int .i64 10, .slice A5 0 c5, .int .i64 0] 26))
  have HK5 := Lib.hid (Blk.new w5 26 #[.int .i64 10, .slice A5 0 c5, .int .i64 0])
  have HK2 := Lib.hid (HK2.out.below hb')
  have HK3 := Lib.hid (HK3.out.below hb')
  have HK4 := Lib.hid (HK4.out.below hb')
  clear hb hb' hB HX4 HB4
  obtain ⟨x0, x1, x2, _, _, _⟩ := three HK2.out
  obtain ⟨y0, y1, y2, _, _, _⟩ := three HK3.out
  obtain ⟨z0, z1, z2, _, _, _⟩ := three HK5.out
  go_wp2_with fail
  go_ret
  exact ⟨rfl, HB5.out⟩
end Go.Proofs.Ythblicjcnnjjkaa
