/- AppKit MachGet MesgW3 MesgR MesgF MesgSt MesgRow BitsKit -/
import Derived.Test.YtijcbbommaeejaaK01
import Derived.Test.YtijcbbommaeejaaK02
import Derived.Laws.CopyOwn
import Derived.IntWalk
import Derived.Laws.BitsAllLaws
namespace Go.Proofs.Ytijcbbommaeejaa
open Go.RowKit
set_option linter.unusedVariables false
section
variable {P : Program} {t e : TypeId} {z : Value} {bytes size : Nat} {w : World}
theorem wp_append_at (base : Nat) (hb0 : base ≤ w.heap.size) (hT : CellT P t e z bytes) {o : Oper} {a : Act} {next : Act → World → Prop} {Q : Exit → Act → World → Prop} (s x : Operand)
    (ho : o.op = .call { callee := .builtin .append, args := #[s, x], argTypes := #[t, t] })
    {A : Option Addr} {n c : Nat} {vs : List Value} (hs : a.eval s = .slice A n c) (hown : w.ownsRow base e 1 (.slice A n c) n vs)
    {B : Nat} {A' : Option Addr} {m c' : Nat} {ws : List Value} (hx : a.eval x = .slice A' m c') (hr : Rd w B A' m ws) (h1 : ∀ u ∈ ws, u.oneCell' = true) (hnm : n + m ≤ 1099511627776) (hby : bytes ≤ 64)
    (h : ∀ A2 c2 w2, w2.ownsRow base e 1 (.slice A2 (n + m) c2) (n + m) (vs ++ ws) → w.grownBy w2 (Value.slice A n c).ownBlock → next (a.put o.dst (.slice A2 (n + m) c2)) w2) : o.wp P a w next Q := by
  obtain ⟨i, hi, hz, hsz, hbi⟩ := info_parts hT.info
  obtain ⟨v', w', hrun, h2, h3, h4⟩ := run_append_rd (P := P) w base t o.type e i z bytes hT.under hi hz hsz hbi hT.one _ n vs hown B A' m c' ws hr h1
    (by unfold maxLen; omega) (by have := Nat.mul_le_mul hnm hby; omega) hb0
  obtain ⟨A2, c2, rfl, hr2⟩ := Rd.of_own h2
  have hgo := h A2 c2 w' h2 h3
  unfold Oper.wp execOp
  simp only [ho, resolve, invoke, builtin, Sem.run_bind, Sem.run_pure, Result.andThen_ok, List.map_toArray, List.map_cons, List.map_nil, hs, hx, hrun]
  exact hgo
theorem wpList_append_at (base : Nat) (hb0 : base ≤ w.heap.size) (hT : CellT P t e z bytes) {ops : Array Oper} {rest : List Oper} {o : Oper} {a : Act} {Q : Exit → Act → World → Prop} (s x : Operand)
    (ho : o.op = .call { callee := .builtin .append, args := #[s, x], argTypes := #[t, t] }) (hw : Region.wanted o (yielded ops a.tmps) = true)
    {A : Option Addr} {n c : Nat} {vs : List Value} (hs : a.eval s = .slice A n c) (hown : w.ownsRow base e 1 (.slice A n c) n vs)
    {B : Nat} {A' : Option Addr} {m c' : Nat} {ws : List Value} (hx : a.eval x = .slice A' m c') (hr : Rd w B A' m ws) (h1 : ∀ u ∈ ws, u.oneCell' = true) (hnm : n + m ≤ 1099511627776) (hby : bytes ≤ 64)
    (h : ∀ A2 c2 w2, w2.ownsRow base e 1 (.slice A2 (n + m) c2) (n + m) (vs ++ ws) → w.grownBy w2 (Value.slice A n c).ownBlock → wpList P ops Q rest (a.put o.dst (.slice A2 (n + m) c2)) w2) :
    wpList P ops Q (o :: rest) a w := by
  unfold wpList
  rw [if_pos hw]
  exact .inl (wp_append_at base hb0 hT s x ho hs hown hx hr h1 hnm hby h)
end
end Go.Proofs.Ytijcbbommaeejaa

namespace Go.Proofs.Ytijcbbommaeejaa
open Go.RowKit
set_option linter.unusedVariables false
/-- the state of a walk that reads: reader, what is turned -/
structure RgSt (w wx : World) (b : Nat) (s : Pk.St) : Prop where
  r : RdrAt wx b s
  only : Only b w wx
section
variable {w wx wy : World} {b g i : Nat} {s s' : Pk.St} {t e : TypeId} {cs : Array Value} {u : Value}
theorem RgSt.size (h : RgSt w wx b s) : w.heap.size ≤ wx.heap.size := h.only.size
theorem RgSt.call (h : RgSt w wx b s) (hr : RdrAt wy b s') (ho : Only b wx wy) : RgSt w wy b s' := ⟨hr, only_trans h.only ho⟩
theorem RgSt.below (h : RgSt w wx b s) (hb : Below wx.heap.size wx wy) : RgSt w wy b s := ⟨h.r.below hb, only_below h.only hb h.size⟩
theorem RgSt.set (h : RgSt w wx b s) (hk : Blk wx g t cs) (h1 : 5 ≠ t) (h2 : 76 ≠ t) (hg : w.heap.size ≤ g) : RgSt w (wx.setCell ⟨g, i, none⟩ u) b s := by
  obtain ⟨A, n, c, hb, q1, q2, q3, q4, q5⟩ := h.r
  exact ⟨⟨A, n, c, hb.set_other (hb.apart hk h2), q1, q2, q3, q4.grown (only_set (only_refl g wx) i u) hk h1, q5⟩, only_below h.only ((Below.refl w.heap.size wx).setCell (p := ⟨g, i, none⟩) hg u) (Nat.le_refl _)⟩
theorem RgSt.row {A : Option Addr} {n c size : Nat} {xs : List Value} (h : RgSt w wx b s) (ho : wx.ownsRow w.heap.size e size (.slice A n c) n xs) (h1 : 5 ≠ e) (h2 : 76 ≠ e) (hg : wx.grownBy wy (Value.slice A n c).ownBlock) : RgSt w wy b s := by
  obtain ⟨A', n', c', hb, q1, q2, q3, q4, q5⟩ := h.r
  exact ⟨⟨A', n', c', hb.apart_own ho h2 hg, q1, q2, q3, q4.kept ho h1 hg, q5⟩, only_below h.only ((Below.refl w.heap.size wx).grown hg h.size (fun k hk => (ho.lt k hk).1)) (Nat.le_refl _)⟩
end
set_option maxHeartbeats 4000000 in
set_option maxRecDepth 100000 in
theorem getEntry_any (w : World) (b : Nat) (s : Pk.St) (h : RdrAt w b s) :
    Calls Try.prog 62 #[.pointer (some ⟨b, 0, none⟩)] w fun en w' => ∃ ca, en = .returned (entV ca (En.read s)) ∧ OwnC w w' ca (En.read s).c ∧ RdrAt w' b (En.get s).2 ∧ Only b w w' := by
  have hbl := h.lt
  have HBL := Lib.hid hbl
  have h0 : RgSt w w b s := ⟨h, only_refl b w⟩
  obtain ⟨s0, es⟩ : ∃ x, s = x := ⟨_, rfl⟩
  obtain ⟨v0, d0⟩ : ∃ x, Pk.numV s0 1073741824 = x := ⟨_, rfl⟩
  obtain ⟨s1, e0⟩ : ∃ x, Pk.numS s0 1073741824 = x := ⟨_, rfl⟩
  obtain ⟨v1, d1⟩ : ∃ x, Pk.numV s1 1073741824 = x := ⟨_, rfl⟩
  obtain ⟨s2, e1⟩ : ∃ x, Pk.numS s1 1073741824 = x := ⟨_, rfl⟩
  obtain ⟨v2, d2⟩ : ∃ x, Pk.numV s2 1073741824 = x := ⟨_, rfl⟩
  obtain ⟨s3, e2⟩ : ∃ x, Pk.numS s2 1073741824 = x := ⟨_, rfl⟩
  obtain ⟨v3, d3⟩ : ∃ x, Pk.numV s3 1073741824 = x := ⟨_, rfl⟩
  obtain ⟨s4, e3⟩ : ∃ x, Pk.numS s3 1073741824 = x := ⟨_, rfl⟩
  obtain ⟨v4, d4⟩ : ∃ x, Pk.bytV s4 32 = x := ⟨_, rfl⟩
  obtain ⟨s5, e4⟩ : ∃ x, Pk.bytS s4 32 = x := ⟨_, rfl⟩
  obtain ⟨v5, d5⟩ : ∃ x, Pk.bytV s5 32 = x := ⟨_, rfl⟩
  obtain ⟨s6, e5⟩ : ∃ x, Pk.bytS s5 32 = x := ⟨_, rfl⟩
  obtain ⟨v6, d6⟩ : ∃ x, Pk.bytV s6 32 = x := ⟨_, rfl⟩
  obtain ⟨s7, e6⟩ : ∃ x, Pk.bytS s6 32 = x := ⟨_, rfl⟩
  have HRES : Hid (En.read s0 = (if s7 = none then En.zero else ⟨v0, v1, ⟨v2, v3, v4, v5, v6⟩⟩) ∧ (En.get s0).2 = s7) := Lib.hid (by unfold En.read En.get; simp only [e0, e1, e2, e3, e4, e5, e6, d0, d1, d2, d3, d4, d5, d6]; exact ⟨trivial, trivial⟩)
  subst es
  have C0 := Lib.hid (fun w h => rnum_is w b _ 1073741824 h _ _ d0 e0)
  have C1 := Lib.hid (fun w h => rnum_is w b _ 1073741824 h _ _ d1 e1)
  have C2 := Lib.hid (fun w h => rnum_is w b _ 1073741824 h _ _ d2 e2)
  have C3 := Lib.hid (fun w h => rnum_is w b _ 1073741824 h _ _ d3 e3)
  have C4 := Lib.hid (fun w h => rbytes_is w b _ 32 h _ _ d4 e4)
  have C5 := Lib.hid (fun w h => rbytes_is w b _ 32 h _ _ d5 e5)
  have C6 := Lib.hid (fun w h => rbytes_is w b _ 32 h _ _ d6 e6)
  clear d0 e0 d1 e1 d2 e2 d3 e3 d4 e4 d5 e5 d6 e6
  have bb : Below w.heap.size w ((w.alloc (.cells #[.int .i64 0, .int .i64 0, .int .i64 0, .int .i64 0, .slice none 0 0, .slice none 0 0, .slice none 0 0] 27)).alloc (.cells #[.int .i64 0, .int .i64 0, .int .i64 0, .int .i64 0, .slice none 0 0, .slice none 0 0, .slice none 0 0] 27)) := ((Below.refl _ _).alloc (Nat.le_refl _) _).alloc (by simp) _
  have HR0 := Lib.hid (h0.below bb)
  have HK2 := Lib.hid ((Blk.new w 27 #[.int .i64 0, .int .i64 0, .int .i64 0, .int .i64 0, .slice none 0 0, .slice none 0 0, .slice none 0 0]).alloc (.cells #[.int .i64 0, .int .i64 0, .int .i64 0, .int .i64 0, .slice none 0 0, .slice none 0 0, .slice none 0 0] 27))
  have HK3 := Lib.hid (Blk.new (w.alloc (.cells #[.int .i64 0, .int .i64 0, .int .i64 0, .int .i64 0, .slice none 0 0, .slice none 0 0, .slice none 0 0] 27)) 27 #[.int .i64 0, .int .i64 0, .int .i64 0, .int .i64 0, .slice none 0 0, .slice none 0 0, .slice none 0 0])
  rw [World.size_alloc] at HK3
  have hne : w.heap.size ≠ b := by omega
  have hne3 : w.heap.size + 1 ≠ b := by omega
  clear h h0 bb
  go_enter Try.func62, Try.ntmps62
  go_upto_region 2 with fail
  generalize (w.alloc (.cells #[.int .i64 0, .int .i64 0, .int .i64 0, .int .i64 0, .slice none 0 0, .slice none 0 0, .slice none 0 0] 27)).alloc (.cells #[.int .i64 0, .int .i64 0, .int .i64 0, .int .i64 0, .slice none 0 0, .slice none 0 0, .slice none 0 0] 27) = wx0 at HR0 HK2 HK3 ⊢
  go_upto_region 3 with (first
    | (go_at_call 66; refine (C0.out _ HR0.out.r).mono ?_; rintro en w1 ⟨rfl, hr, ho⟩
       have HRC := Lib.hid (HR0.out.call hr ho)
       have HK2 := Lib.hid (HK2.out.grown ho (by simpa using hne))
       have HK3 := Lib.hid (HK3.out.grown ho (by simpa using hne3))
       have x0 := HK3.out.cell 0
       have f0 := HK3.out.frozen 0
       have x1 := HK3.out.cell 1
       have f1 := HK3.out.frozen 1
       have x2 := HK3.out.cell 2
       have f2 := HK3.out.frozen 2
       have x3 := HK3.out.cell 3
       have f3 := HK3.out.frozen 3
       have x4 := HK3.out.cell 4
       have f4 := HK3.out.frozen 4
       have x5 := HK3.out.cell 5
       have f5 := HK3.out.frozen 5
       have x6 := HK3.out.cell 6
       have f6 := HK3.out.frozen 6
       clear hr ho C0)
    | fail)
  have HR1 : Hid (RgSt w (w1.setCell ⟨w.heap.size + 1, 0, none⟩ (.int .i64 (v0 : Int))) b s1) := Lib.hid (HRC.out.set HK3.out (by decide) (by decide) (by omega))
  have HK2 := Lib.hid (HK2.out.set_other (i := 0) (u := .int .i64 (v0 : Int)) (b := w.heap.size + 1) (by omega))
  have HK3 : Hid (Blk (w1.setCell ⟨w.heap.size + 1, 0, none⟩ (.int .i64 (v0 : Int))) (w.heap.size + 1) 27 #[.int .i64 (v0 : Int), .int .i64 0, .int .i64 0, .int .i64 0, .slice none 0 0, .slice none 0 0, .slice none 0 0]) := Lib.hid (HK3.out.set_ 0 (.int .i64 (v0 : Int)))
  clear HRC x0 f0 x1 f1 x2 f2 x3 f3 x4 f4 x5 f5 x6 f6
  generalize w1.setCell ⟨w.heap.size + 1, 0, none⟩ (.int .i64 (v0 : Int)) = wx1 at HR1 HK2 HK3  ⊢
  go_upto_region 4 with (first
    | (go_at_call 66; refine (C1.out _ HR1.out.r).mono ?_; rintro en w2 ⟨rfl, hr, ho⟩
       have HRC := Lib.hid (HR1.out.call hr ho)
       have HK2 := Lib.hid (HK2.out.grown ho (by simpa using hne))
       have HK3 := Lib.hid (HK3.out.grown ho (by simpa using hne3))
       have x0 := HK3.out.cell 0
       have f0 := HK3.out.frozen 0
       have x1 := HK3.out.cell 1
       have f1 := HK3.out.frozen 1
       have x2 := HK3.out.cell 2
       have f2 := HK3.out.frozen 2
       have x3 := HK3.out.cell 3
       have f3 := HK3.out.frozen 3
       have x4 := HK3.out.cell 4
       have f4 := HK3.out.frozen 4
       have x5 := HK3.out.cell 5
       have f5 := HK3.out.frozen 5
       have x6 := HK3.out.cell 6
       have f6 := HK3.out.frozen 6
       clear hr ho C1)
    | fail)
  have HR2 : Hid (RgSt w (w2.setCell ⟨w.heap.size + 1, 1, none⟩ (.int .i64 (v1 : Int))) b s2) := Lib.hid (HRC.out.set HK3.out (by decide) (by decide) (by omega))
  have HK2 := Lib.hid (HK2.out.set_other (i := 1) (u := .int .i64 (v1 : Int)) (b := w.heap.size + 1) (by omega))
  have HK3 : Hid (Blk (w2.setCell ⟨w.heap.size + 1, 1, none⟩ (.int .i64 (v1 : Int))) (w.heap.size + 1) 27 #[.int .i64 (v0 : Int), .int .i64 (v1 : Int), .int .i64 0, .int .i64 0, .slice none 0 0, .slice none 0 0, .slice none 0 0]) := Lib.hid (HK3.out.set_ 1 (.int .i64 (v1 : Int)))
  clear HRC x0 f0 x1 f1 x2 f2 x3 f3 x4 f4 x5 f5 x6 f6
  generalize w2.setCell ⟨w.heap.size + 1, 1, none⟩ (.int .i64 (v1 : Int)) = wx2 at HR2 HK2 HK3  ⊢
  go_upto_region 5 with (first
    | (go_at_call 66; refine (C2.out _ HR2.out.r).mono ?_; rintro en w3 ⟨rfl, hr, ho⟩
       have HRC := Lib.hid (HR2.out.call hr ho)
       have HK2 := Lib.hid (HK2.out.grown ho (by simpa using hne))
       have HK3 := Lib.hid (HK3.out.grown ho (by simpa using hne3))
       have x0 := HK3.out.cell 0
       have f0 := HK3.out.frozen 0
       have x1 := HK3.out.cell 1
       have f1 := HK3.out.frozen 1
       have x2 := HK3.out.cell 2
       have f2 := HK3.out.frozen 2
       have x3 := HK3.out.cell 3
       have f3 := HK3.out.frozen 3
       have x4 := HK3.out.cell 4
       have f4 := HK3.out.frozen 4
       have x5 := HK3.out.cell 5
       have f5 := HK3.out.frozen 5
       have x6 := HK3.out.cell 6
       have f6 := HK3.out.frozen 6
       clear hr ho C2)
    | fail)
  have HR3 : Hid (RgSt w (w3.setCell ⟨w.heap.size + 1, 2, none⟩ (.int .i64 (v2 : Int))) b s3) := Lib.hid (HRC.out.set HK3.out (by decide) (by decide) (by omega))
  have HK2 := Lib.hid (HK2.out.set_other (i := 2) (u := .int .i64 (v2 : Int)) (b := w.heap.size + 1) (by omega))
  have HK3 : Hid (Blk (w3.setCell ⟨w.heap.size + 1, 2, none⟩ (.int .i64 (v2 : Int))) (w.heap.size + 1) 27 #[.int .i64 (v0 : Int), .int .i64 (v1 : Int), .int .i64 (v2 : Int), .int .i64 0, .slice none 0 0, .slice none 0 0, .slice none 0 0]) := Lib.hid (HK3.out.set_ 2 (.int .i64 (v2 : Int)))
  clear HRC x0 f0 x1 f1 x2 f2 x3 f3 x4 f4 x5 f5 x6 f6
  generalize w3.setCell ⟨w.heap.size + 1, 2, none⟩ (.int .i64 (v2 : Int)) = wx3 at HR3 HK2 HK3  ⊢
  go_upto_region 6 with (first
    | (go_at_call 66; refine (C3.out _ HR3.out.r).mono ?_; rintro en w4 ⟨rfl, hr, ho⟩
       have HRC := Lib.hid (HR3.out.call hr ho)
       have HK2 := Lib.hid (HK2.out.grown ho (by simpa using hne))
       have HK3 := Lib.hid (HK3.out.grown ho (by simpa using hne3))
       have x0 := HK3.out.cell 0
       have f0 := HK3.out.frozen 0
       have x1 := HK3.out.cell 1
       have f1 := HK3.out.frozen 1
       have x2 := HK3.out.cell 2
       have f2 := HK3.out.frozen 2
       have x3 := HK3.out.cell 3
       have f3 := HK3.out.frozen 3
       have x4 := HK3.out.cell 4
       have f4 := HK3.out.frozen 4
       have x5 := HK3.out.cell 5
       have f5 := HK3.out.frozen 5
       have x6 := HK3.out.cell 6
       have f6 := HK3.out.frozen 6
       clear hr ho C3)
    | fail)
  have HR4 : Hid (RgSt w (w4.setCell ⟨w.heap.size + 1, 3, none⟩ (.int .i64 (v3 : Int))) b s4) := Lib.hid (HRC.out.set HK3.out (by decide) (by decide) (by omega))
  have HK2 := Lib.hid (HK2.out.set_other (i := 3) (u := .int .i64 (v3 : Int)) (b := w.heap.size + 1) (by omega))
  have HK3 : Hid (Blk (w4.setCell ⟨w.heap.size + 1, 3, none⟩ (.int .i64 (v3 : Int))) (w.heap.size + 1) 27 #[.int .i64 (v0 : Int), .int .i64 (v1 : Int), .int .i64 (v2 : Int), .int .i64 (v3 : Int), .slice none 0 0, .slice none 0 0, .slice none 0 0]) := Lib.hid (HK3.out.set_ 3 (.int .i64 (v3 : Int)))
  clear HRC x0 f0 x1 f1 x2 f2 x3 f3 x4 f4 x5 f5 x6 f6
  generalize w4.setCell ⟨w.heap.size + 1, 3, none⟩ (.int .i64 (v3 : Int)) = wx4 at HR4 HK2 HK3  ⊢
  go_upto_region 7 with (first
    | (go_at_call 67; refine (C4.out _ HR4.out.r).mono ?_; rintro en w5 ⟨A4, n4, c4, rfl, hv, hr, ho⟩; obtain rfl := own_len hv
       have HRC := Lib.hid (HR4.out.call hr ho)
       have HK2 := Lib.hid (HK2.out.grown ho (by simpa using hne))
       have HK3 := Lib.hid (HK3.out.grown ho (by simpa using hne3))
       have HV4 := Lib.hid (own_of HR4.out.size hv)
       have x0 := HK3.out.cell 0
       have f0 := HK3.out.frozen 0
       have x1 := HK3.out.cell 1
       have f1 := HK3.out.frozen 1
       have x2 := HK3.out.cell 2
       have f2 := HK3.out.frozen 2
       have x3 := HK3.out.cell 3
       have f3 := HK3.out.frozen 3
       have x4 := HK3.out.cell 4
       have f4 := HK3.out.frozen 4
       have x5 := HK3.out.cell 5
       have f5 := HK3.out.frozen 5
       have x6 := HK3.out.cell 6
       have f6 := HK3.out.frozen 6
       clear hr ho C4 hv)
    | fail)
  have HR5 : Hid (RgSt w (w5.setCell ⟨w.heap.size + 1, 4, none⟩ (.slice A4 v4.length c4)) b s5) := Lib.hid (HRC.out.set HK3.out (by decide) (by decide) (by omega))
  have HK2 := Lib.hid (HK2.out.set_other (i := 4) (u := .slice A4 v4.length c4) (b := w.heap.size + 1) (by omega))
  have HV4 : Hid (OwnB w (w5.setCell ⟨w.heap.size + 1, 4, none⟩ (.slice A4 v4.length c4)) A4 v4.length c4 v4) := Lib.hid (own_set_t HV4.out HK3.out (by decide))
  have HK3 : Hid (Blk (w5.setCell ⟨w.heap.size + 1, 4, none⟩ (.slice A4 v4.length c4)) (w.heap.size + 1) 27 #[.int .i64 (v0 : Int), .int .i64 (v1 : Int), .int .i64 (v2 : Int), .int .i64 (v3 : Int), .slice A4 v4.length c4, .slice none 0 0, .slice none 0 0]) := Lib.hid (HK3.out.set_ 4 (.slice A4 v4.length c4))
  clear HRC x0 f0 x1 f1 x2 f2 x3 f3 x4 f4 x5 f5 x6 f6
  generalize w5.setCell ⟨w.heap.size + 1, 4, none⟩ (.slice A4 v4.length c4) = wx5 at HR5 HK2 HK3 HV4 ⊢
  go_upto_region 8 with (first
    | (go_at_call 67; refine (C5.out _ HR5.out.r).mono ?_; rintro en w6 ⟨A5, n5, c5, rfl, hv, hr, ho⟩; obtain rfl := own_len hv
       have HRC := Lib.hid (HR5.out.call hr ho)
       have HK2 := Lib.hid (HK2.out.grown ho (by simpa using hne))
       have HK3 := Lib.hid (HK3.out.grown ho (by simpa using hne3))
       have HV4 := Lib.hid (own_read HV4.out ho HBL.out)
       have HV5 := Lib.hid (own_of HR5.out.size hv)
       have x0 := HK3.out.cell 0
       have f0 := HK3.out.frozen 0
       have x1 := HK3.out.cell 1
       have f1 := HK3.out.frozen 1
       have x2 := HK3.out.cell 2
       have f2 := HK3.out.frozen 2
       have x3 := HK3.out.cell 3
       have f3 := HK3.out.frozen 3
       have x4 := HK3.out.cell 4
       have f4 := HK3.out.frozen 4
       have x5 := HK3.out.cell 5
       have f5 := HK3.out.frozen 5
       have x6 := HK3.out.cell 6
       have f6 := HK3.out.frozen 6
       clear hr ho C5 hv)
    | fail)
  have HR6 : Hid (RgSt w (w6.setCell ⟨w.heap.size + 1, 5, none⟩ (.slice A5 v5.length c5)) b s6) := Lib.hid (HRC.out.set HK3.out (by decide) (by decide) (by omega))
  have HK2 := Lib.hid (HK2.out.set_other (i := 5) (u := .slice A5 v5.length c5) (b := w.heap.size + 1) (by omega))
  have HV4 : Hid (OwnB w (w6.setCell ⟨w.heap.size + 1, 5, none⟩ (.slice A5 v5.length c5)) A4 v4.length c4 v4) := Lib.hid (own_set_t HV4.out HK3.out (by decide))
  have HV5 : Hid (OwnB w (w6.setCell ⟨w.heap.size + 1, 5, none⟩ (.slice A5 v5.length c5)) A5 v5.length c5 v5) := Lib.hid (own_set_t HV5.out HK3.out (by decide))
  have HK3 : Hid (Blk (w6.setCell ⟨w.heap.size + 1, 5, none⟩ (.slice A5 v5.length c5)) (w.heap.size + 1) 27 #[.int .i64 (v0 : Int), .int .i64 (v1 : Int), .int .i64 (v2 : Int), .int .i64 (v3 : Int), .slice A4 v4.length c4, .slice A5 v5.length c5, .slice none 0 0]) := Lib.hid (HK3.out.set_ 5 (.slice A5 v5.length c5))
  clear HRC x0 f0 x1 f1 x2 f2 x3 f3 x4 f4 x5 f5 x6 f6
  generalize w6.setCell ⟨w.heap.size + 1, 5, none⟩ (.slice A5 v5.length c5) = wx6 at HR6 HK2 HK3 HV4 HV5 ⊢
  go_upto_region 9 with (first
    | (go_at_call 67; refine (C6.out _ HR6.out.r).mono ?_; rintro en w7 ⟨A6, n6, c6, rfl, hv, hr, ho⟩; obtain rfl := own_len hv
       have HRC := Lib.hid (HR6.out.call hr ho)
       have HK2 := Lib.hid (HK2.out.grown ho (by simpa using hne))
       have HK3 := Lib.hid (HK3.out.grown ho (by simpa using hne3))
       have HV4 := Lib.hid (own_read HV4.out ho HBL.out)
       have HV5 := Lib.hid (own_read HV5.out ho HBL.out)
       have HV6 := Lib.hid (own_of HR6.out.size hv)
       have x0 := HK3.out.cell 0
       have f0 := HK3.out.frozen 0
       have x1 := HK3.out.cell 1
       have f1 := HK3.out.frozen 1
       have x2 := HK3.out.cell 2
       have f2 := HK3.out.frozen 2
       have x3 := HK3.out.cell 3
       have f3 := HK3.out.frozen 3
       have x4 := HK3.out.cell 4
       have f4 := HK3.out.frozen 4
       have x5 := HK3.out.cell 5
       have f5 := HK3.out.frozen 5
       have x6 := HK3.out.cell 6
       have f6 := HK3.out.frozen 6
       clear hr ho C6 hv)
    | fail)
  have HR7 : Hid (RgSt w (w7.setCell ⟨w.heap.size + 1, 6, none⟩ (.slice A6 v6.length c6)) b s7) := Lib.hid (HRC.out.set HK3.out (by decide) (by decide) (by omega))
  have HK2 := Lib.hid (HK2.out.set_other (i := 6) (u := .slice A6 v6.length c6) (b := w.heap.size + 1) (by omega))
  have HV4 : Hid (OwnB w (w7.setCell ⟨w.heap.size + 1, 6, none⟩ (.slice A6 v6.length c6)) A4 v4.length c4 v4) := Lib.hid (own_set_t HV4.out HK3.out (by decide))
  have HV5 : Hid (OwnB w (w7.setCell ⟨w.heap.size + 1, 6, none⟩ (.slice A6 v6.length c6)) A5 v5.length c5 v5) := Lib.hid (own_set_t HV5.out HK3.out (by decide))
  have HV6 : Hid (OwnB w (w7.setCell ⟨w.heap.size + 1, 6, none⟩ (.slice A6 v6.length c6)) A6 v6.length c6 v6) := Lib.hid (own_set_t HV6.out HK3.out (by decide))
  have HK3 : Hid (Blk (w7.setCell ⟨w.heap.size + 1, 6, none⟩ (.slice A6 v6.length c6)) (w.heap.size + 1) 27 #[.int .i64 (v0 : Int), .int .i64 (v1 : Int), .int .i64 (v2 : Int), .int .i64 (v3 : Int), .slice A4 v4.length c4, .slice A5 v5.length c5, .slice A6 v6.length c6]) := Lib.hid (HK3.out.set_ 6 (.slice A6 v6.length c6))
  clear HRC x0 f0 x1 f1 x2 f2 x3 f3 x4 f4 x5 f5 x6 f6
  generalize w7.setCell ⟨w.heap.size + 1, 6, none⟩ (.slice A6 v6.length c6) = wx7 at HR7 HK2 HK3 HV4 HV5 HV6 ⊢
  have HRN := HR7
  have x0 := HK2.out.cell 0
  have f0 := HK2.out.frozen 0
  have y0 := HK3.out.cell 0
  have x1 := HK2.out.cell 1
  have f1 := HK2.out.frozen 1
  have y1 := HK3.out.cell 1
  have x2 := HK2.out.cell 2
  have f2 := HK2.out.frozen 2
  have y2 := HK3.out.cell 2
  have x3 := HK2.out.cell 3
  have f3 := HK2.out.frozen 3
  have y3 := HK3.out.cell 3
  have x4 := HK2.out.cell 4
  have f4 := HK2.out.frozen 4
  have y4 := HK3.out.cell 4
  have x5 := HK2.out.cell 5
  have f5 := HK2.out.frozen 5
  have y5 := HK3.out.cell 5
  have x6 := HK2.out.cell 6
  have f6 := HK2.out.frozen 6
  have y6 := HK3.out.cell 6
  have HOK := Lib.hid (ok_any _ _ _ HRN.out.r)
  cases s7 with
  | none =>
    simp only [Option.isSome_none] at HOK
    go_wp2_with (first
      | (go_at_call 35; refine HOK.out.mono ?_; rintro en wq ⟨rfl, rfl⟩)
      | fail)
    have q0 := HK2.out
    have q1 := q0.set_ 0 (.int .i64 0)
    have q2 := q1.set_ 1 (.int .i64 0)
    have q3 := q2.set_ 2 (.int .i64 0)
    have q4 := q3.set_ 3 (.int .i64 0)
    have q5 := q4.set_ 4 (.slice none 0 0)
    have q6 := q5.set_ 5 (.slice none 0 0)
    have q7 := q6.set_ 6 (.slice none 0 0)
    refine bodyPost_ret (results_cell_row rfl _ _ _ _ _ _ _ rfl q7 Try.underlying27 rfl (by kernel_rfl)) rfl ?_
    have hrg := (((((((HRN.out).set (i := 0) (u := .int .i64 0) q0 (by decide) (by decide) (Nat.le_refl _)).set (i := 1) (u := .int .i64 0) q1 (by decide) (by decide) (Nat.le_refl _)).set (i := 2) (u := .int .i64 0) q2 (by decide) (by decide) (Nat.le_refl _)).set (i := 3) (u := .int .i64 0) q3 (by decide) (by decide) (Nat.le_refl _)).set (i := 4) (u := .slice none 0 0) q4 (by decide) (by decide) (Nat.le_refl _)).set (i := 5) (u := .slice none 0 0) q5 (by decide) (by decide) (Nat.le_refl _)).set (i := 6) (u := .slice none 0 0) q6 (by decide) (by decide) (Nat.le_refl _)
    obtain ⟨hR, hS⟩ := HRES.out
    rw [hR, hS, if_pos (by trivial)]
    exact ⟨⟨none, 0, none, 0, none, 0⟩, rfl, ⟨own_nil _ _, own_nil _ _, own_nil _ _⟩, hrg.r, hrg.only⟩
  | some l7 =>
    simp only [Option.isSome_some] at HOK
    go_wp2_with (first
      | (go_at_call 35; refine HOK.out.mono ?_; rintro en wq ⟨rfl, rfl⟩)
      | fail)
    have q0 := HK2.out
    have q1 := q0.set_ 0 (.int .i64 (v0 : Int))
    have q2 := q1.set_ 1 (.int .i64 (v1 : Int))
    have q3 := q2.set_ 2 (.int .i64 (v2 : Int))
    have q4 := q3.set_ 3 (.int .i64 (v3 : Int))
    have q5 := q4.set_ 4 (.slice A4 v4.length c4)
    have q6 := q5.set_ 5 (.slice A5 v5.length c5)
    have q7 := q6.set_ 6 (.slice A6 v6.length c6)
    refine bodyPost_ret (results_cell_row rfl _ _ _ _ _ _ _ rfl q7 Try.underlying27 rfl (by kernel_rfl)) rfl ?_
    have hrg := (((((((HRN.out).set (i := 0) (u := .int .i64 (v0 : Int)) q0 (by decide) (by decide) (Nat.le_refl _)).set (i := 1) (u := .int .i64 (v1 : Int)) q1 (by decide) (by decide) (Nat.le_refl _)).set (i := 2) (u := .int .i64 (v2 : Int)) q2 (by decide) (by decide) (Nat.le_refl _)).set (i := 3) (u := .int .i64 (v3 : Int)) q3 (by decide) (by decide) (Nat.le_refl _)).set (i := 4) (u := .slice A4 v4.length c4) q4 (by decide) (by decide) (Nat.le_refl _)).set (i := 5) (u := .slice A5 v5.length c5) q5 (by decide) (by decide) (Nat.le_refl _)).set (i := 6) (u := .slice A6 v6.length c6) q6 (by decide) (by decide) (Nat.le_refl _)
    obtain ⟨hR, hS⟩ := HRES.out
    rw [hR, hS, if_neg (by simp)]
    exact ⟨⟨A4, c4, A5, c5, A6, c6⟩, rfl, ⟨own_set_t (own_set_t (own_set_t (own_set_t (own_set_t (own_set_t (own_set_t (HV4.out) q0 (by decide)) q1 (by decide)) q2 (by decide)) q3 (by decide)) q4 (by decide)) q5 (by decide)) q6 (by decide), own_set_t (own_set_t (own_set_t (own_set_t (own_set_t (own_set_t (own_set_t (HV5.out) q0 (by decide)) q1 (by decide)) q2 (by decide)) q3 (by decide)) q4 (by decide)) q5 (by decide)) q6 (by decide), own_set_t (own_set_t (own_set_t (own_set_t (own_set_t (own_set_t (own_set_t (HV6.out) q0 (by decide)) q1 (by decide)) q2 (by decide)) q3 (by decide)) q4 (by decide)) q5 (by decide)) q6 (by decide)⟩, hrg.r, hrg.only⟩
end Go.Proofs.Ytijcbbommaeejaa

namespace Go.Proofs.Ytijcbbommaeejaa
open Go.RowKit
set_option linter.unusedVariables false
theorem En.enc_lt {e : En} (h : e.c.Wide) : ∀ x ∈ e.enc, x < 256 := by
  intro x hx
  unfold En.enc at hx
  simp only [List.mem_append] at hx
  have hb : ∀ {l : List Nat}, (l.length ≤ 2000000 ∧ ∀ y ∈ l, y < 256) → ∀ x ∈ Pk.encB l, x < 256 := fun h => Pk.encB_lt h.2 (by have := h.1; unfold Pk.top; omega)
  rcases hx with h3 | h3 | h3 | h3 | h3 | h3 | h3
  · exact Pk.enc_lt (Pk.held_le _) x h3
  · exact Pk.enc_lt (Pk.held_le _) x h3
  · exact Pk.enc_lt (Pk.held_le _) x h3
  · exact Pk.enc_lt (Pk.held_le _) x h3
  · exact hb h.key x h3
  · exact hb h.val x h3
  · exact hb h.old x h3
theorem En.enc_len (e : En) : e.enc.length ≤ 63 + e.c.key.length + e.c.val.length + e.c.old.length := by
  have k1 := (Pk.enc_length (Pk.held e.s)).2
  have k2 := (Pk.enc_length (Pk.held e.q)).2
  have k3 := (Pk.enc_length (Pk.held e.c.kind)).2
  have k4 := (Pk.enc_length (Pk.held e.c.who)).2
  have k5 := encB_length e.c.key
  have k6 := encB_length e.c.val
  have k7 := encB_length e.c.old
  unfold En.enc
  simp only [List.length_append]
  omega
theorem En.ok_len {e : En} (h : e.ok = true) : e.enc.length ≤ 200 := by
  have := En.enc_len e
  unfold En.ok at h
  simp only [Bool.and_eq_true, decide_eq_true_eq] at h
  omega
/-- it may be told, just if it can be read again -/
theorem En.back {e : En} (h : e.c.Wide) : decide (En.read (some e.enc) = e) = e.ok := by
  cases hk : e.ok with
  | true =>
    have := En.read_enc hk []
    rw [List.append_nil] at this
    rw [this]; simp
  | false =>
    rw [decide_eq_false_iff_not]
    intro he
    have hs : (En.read (some e.enc)).ok = true := by
      unfold En.read
      split
      · rfl
      · rename_i hn
        cases hg : (En.get (some e.enc)).2 with
        | none => exact absurd hg hn
        | some l' => exact (En.get_canon (fun l hl => by injection hl with hl; subst hl; exact En.enc_lt h) hg).2
    rw [he, hk] at hs
    cases hs
theorem En.read_wide {s : Pk.St} (h : BytesSt s) : (En.read s).c.Wide := Cm.Fits.wide (En.read_fits h).1
theorem WrP.pre {W w w1 w2 : World} {b d : Nat} {L : List Nat} {f ok : Bool} {X : List Nat} (hb : Below w.heap.size w w1) (h : WrP W w1 b L f ok X d w2) : WrP W w b L f ok X d w2 := by
  obtain ⟨L', f', h1, h2, h3, h4, h5⟩ := h
  exact ⟨L', f', h1, only_trans (only_below (only_refl b w) hb (Nat.le_refl _)) h2, h3, h4, h5⟩
theorem WrP.set {W w wx : World} {b d g i : Nat} {L : List Nat} {f ok : Bool} {X : List Nat} {t : TypeId} {cs : Array Value} {u : Value} (h : WrP W w b L f ok X d wx) (hk : Blk wx g t cs) (h1 : 5 ≠ t) (hne : b ≠ g) (hg : w.heap.size ≤ g) (hW : W.heap.size ≤ g) : WrP W w b L f ok X d (wx.setCell ⟨g, i, none⟩ u) := by
  obtain ⟨L', f', k1, k2, k3, k4, k5⟩ := h
  exact ⟨L', f', k1.set hk h1 hne hW, only_below k2 ((Below.refl w.heap.size wx).setCell (p := ⟨g, i, none⟩) hg u) (Nat.le_refl _), k3, k4, k5⟩
set_option maxHeartbeats 4000000 in
set_option maxRecDepth 100000 in
theorem wentry_any {W w : World} {b : Nat} {L : List Nat} {f : Bool} {ca : CA} {e : En} (h : WrAt W w b L f) (hl : L.length ≤ 10000) (hc : e.c.Wide) (hr : RdC W W.heap.size ca e.c) :
    Calls Try.prog 58 #[.pointer (some ⟨b, 0, none⟩), entV ca e] w fun en w' => (∃ ca' e', en = .returned (entV ca' e')) ∧ WrP W w b L f e.ok e.enc 200 w' := by
  obtain ⟨wz, hwz⟩ : ∃ wz, (w.alloc (.cells #[.int .i64 e.s, .int .i64 e.q, .int .i64 e.c.kind, .int .i64 e.c.who, .slice ca.Ak e.c.key.length ca.ck, .slice ca.Av e.c.val.length ca.cv, .slice ca.Ao e.c.old.length ca.co] 27)).alloc (.cells #[.int .i64 0, .int .i64 0, .int .i64 0, .int .i64 0, .slice none 0 0, .slice none 0 0, .slice none 0 0] 27) = wz := ⟨_, rfl⟩
  have hbz : Below w.heap.size w wz := by rw [← hwz]; exact ((Below.refl _ _).alloc (Nat.le_refl _) _).alloc (by rw [World.size_alloc]; omega) _
  obtain ⟨g, hg⟩ : ∃ g, w.heap.size = g := ⟨_, rfl⟩
  have hk3 : Blk wz g 27 #[.int .i64 e.s, .int .i64 e.q, .int .i64 e.c.kind, .int .i64 e.c.who, .slice ca.Ak e.c.key.length ca.ck, .slice ca.Av e.c.val.length ca.cv, .slice ca.Ao e.c.old.length ca.co] := by rw [← hwz, ← hg]; exact (Blk.new _ _ _).alloc _
  have hk4 : Blk wz (g + 1) 27 #[.int .i64 0, .int .i64 0, .int .i64 0, .int .i64 0, .slice none 0 0, .slice none 0 0, .slice none 0 0] := by rw [← hwz, ← hg]; have := Blk.new (w.alloc (.cells #[.int .i64 e.s, .int .i64 e.q, .int .i64 e.c.kind, .int .i64 e.c.who, .slice ca.Ak e.c.key.length ca.ck, .slice ca.Av e.c.val.length ca.cv, .slice ca.Ao e.c.old.length ca.co] 27)) 27 #[.int .i64 0, .int .i64 0, .int .i64 0, .int .i64 0, .slice none 0 0, .slice none 0 0, .slice none 0 0]; rwa [World.size_alloc] at this
  have hbg : b < g := by rw [← hg]; exact h.lt
  have hWg : W.heap.size ≤ g := by obtain ⟨_, _, _, _, _, q⟩ := h; omega
  have hzg : g + 2 ≤ wz.heap.size := by have := hk4.lt; omega
  have HWR : Hid (WrAt W wz b L f) := Lib.hid (h.below hbz)
  have hBW : Below W.heap.size W wz := by obtain ⟨_, _, _, _, q, _⟩ := HWR.out; exact q
  have HF : Hid (∀ wx, Below wz.heap.size wz wx → Blk wx g 27 #[.int .i64 e.s, .int .i64 e.q, .int .i64 e.c.kind, .int .i64 e.c.who, .slice ca.Ak e.c.key.length ca.ck, .slice ca.Av e.c.val.length ca.cv, .slice ca.Ao e.c.old.length ca.co]) := Lib.hid (fun wx hb => hk3.below hb)
  have HK4 := Lib.hid hk4
  have HBZ := Lib.hid hbz
  have HWZ := Lib.hid hwz
  have HG := Lib.hid hg
  have hel := En.enc_len e
  have hk := hc.key.1
  have hv := hc.val.1
  have ho := hc.old.1
  have hcr : ∀ wx, Below wz.heap.size wz wx → RdC wx W.heap.size ca e.c := fun wx hb => hr.below (hBW.trans (hb.mono hBW.size))
  obtain ⟨l, hle⟩ : ∃ l, e.enc = l := ⟨_, rfl⟩
  have hlb : ∀ x ∈ l, x < 256 := by rw [← hle]; exact En.enc_lt hc
  have hll : l.length ≤ 7000000 := by rw [← hle]; omega
  have C1 : Hid (∀ wx, Below wz.heap.size wz wx → Calls Try.prog 63 #[.slice none 0 0, .agg #[.int .i64 e.s, .int .i64 e.q, .int .i64 e.c.kind, .int .i64 e.c.who, .slice ca.Ak e.c.key.length ca.ck, .slice ca.Av e.c.val.length ca.cv, .slice ca.Ao e.c.old.length ca.co]] wx (GotIn wz wx l)) := Lib.hid (fun wx hb => by
    have q := putEntryW (W := wz) (l := []) (A := none) (n := 0) (c := 0) (B := 0) (by simp) hc (Rd.none_ _ _ _) (hcr wx hb) hb
    rw [List.nil_append, hle] at q
    exact q)
  have C2 : Hid (∀ wx A n c B, Rd wx B A n (bv l) → Below wz.heap.size wz wx → Calls Try.prog 16 #[.slice A n c] wx fun e w' => ∃ b, e = .returned (.pointer (some ⟨b, 0, none⟩)) ∧ RdrAt w' b (some l) ∧ wz.heap.size ≤ b ∧ wx.heap.size ≤ b ∧ Below wz.heap.size wz w' ∧ Below wx.heap.size wx w') := Lib.hid (fun wx A n c B hrd hb => by
    have hn := hrd.length
    exact read_in (W := wz) (by unfold Lim; omega) hlb hrd hb)
  obtain ⟨e2, he2⟩ : ∃ e2, En.read (some l) = e2 := ⟨_, rfl⟩
  have h2w : e2.c.Wide := by rw [← he2]; exact En.read_wide (fun l' hl' => by injection hl' with hl'; subst hl'; exact hlb)
  have hdec : decide (e2 = e) = e.ok := by rw [← he2, ← hle]; exact En.back hc
  have C3 : Hid (∀ wx b3, RdrAt wx b3 (some l) → Calls Try.prog 62 #[.pointer (some ⟨b3, 0, none⟩)] wx fun en w' => ∃ ca, en = .returned (entV ca e2) ∧ OwnC wx w' ca e2.c ∧ Only b3 wx w') := Lib.hid (fun wx b3 hq => (getEntry_any wx b3 _ hq).mono fun en w' ⟨ca3, q1, q2, q3, q4⟩ => by rw [he2] at q1 q2; exact ⟨ca3, q1, q2, q4⟩)
  have C4 : Hid (∀ wx ca2 B, RdC wx B ca2 e2.c → Below wz.heap.size wz wx → Calls Try.prog 27 #[.agg #[.int .i64 e2.s, .int .i64 e2.q, .int .i64 e2.c.kind, .int .i64 e2.c.who, .slice ca2.Ak e2.c.key.length ca2.ck, .slice ca2.Av e2.c.val.length ca2.cv, .slice ca2.Ao e2.c.old.length ca2.co], .agg #[.int .i64 e.s, .int .i64 e.q, .int .i64 e.c.kind, .int .i64 e.c.who, .slice ca.Ak e.c.key.length ca.ck, .slice ca.Av e.c.val.length ca.cv, .slice ca.Ao e.c.old.length ca.co]] wx fun en w' => en = .returned (.bool e.ok) ∧ Below wx.heap.size wx w') := Lib.hid (fun wx ca2 B hq hb => by rw [← hdec]; exact sameEW wx h2w hc hq (hcr wx hb))
  obtain ⟨ok, hok⟩ : ∃ x, e.ok = x := ⟨_, rfl⟩
  rw [hok] at C4 ⊢
  obtain ⟨L2, hL2⟩ : ∃ x, L ++ l = x := ⟨_, rfl⟩
  have HEL := Lib.hid hL2
  have C5 : ok = true → Hid (∀ wx A n c B, Rd wx B A n (bv L) → Below wz.heap.size wz wx → Calls Try.prog 63 #[.slice A n c, .agg #[.int .i64 e.s, .int .i64 e.q, .int .i64 e.c.kind, .int .i64 e.c.who, .slice ca.Ak e.c.key.length ca.ck, .slice ca.Av e.c.val.length ca.cv, .slice ca.Ao e.c.old.length ca.co]] wx (GotIn W wx L2)) := fun _ => Lib.hid (fun wx A n c B hq hb => by
    have q := putEntryW (W := W) (l := L) (c := c) hl hc hq (hcr wx hb) (hBW.trans (hb.mono hBW.size))
    rw [hle, hL2] at q
    exact q)
  have HL2 : ok = true → l.length ≤ 200 := fun hk => by rw [← hle]; exact En.ok_len (hok.trans hk)
  have HL2 := Lib.hid HL2
  rw [hle]
  clear h hr hbz hk3 hk4 hwz hg hBW hel hk hv ho hcr hle hlb hll he2 h2w hdec hok hl hc hL2
  unfold entV entC
  unfold entV entC at C3
  go_enter Try.func58, Try.ntmps58
  go_upto_region 1 with fail
  rw [HG.out, HWZ.out]
  have hS0 : Below wz.heap.size wz wz.drew := (Below.refl _ _).drew
  refine wp_region_held_drew (S := fun w' => Below wz.heap.size wz w') (by kernel_rfl) hS0 (fun _ => ?_)
  have hS := Lib.hid hS0
  clear hS0
  generalize wz.drew = q0 at hS ⊢
  refine wpAnyH_take (i := 0) (v := .agg #[.int .i64 e.s, .int .i64 e.q, .int .i64 e.c.kind, .int .i64 e.c.who, .slice ca.Ak e.c.key.length ca.ck, .slice ca.Av e.c.val.length ca.cv, .slice ca.Ao e.c.old.length ca.co]) rfl (by kernel_rfl) (by kernel_rfl) (by kernel_rfl) (fun _ _ _ h => h) (Or.inl ⟨by kernel_rfl, fun w h => by obtain ⟨q0, q1, q2, q3, q4, q5, q6⟩ := seven (HF.out w h); go_simp⟩) hS.out ?_
  refine wpAnyH_take (i := 4) (v := .agg #[.int .i64 e.s, .int .i64 e.q, .int .i64 e.c.kind, .int .i64 e.c.who, .slice ca.Ak e.c.key.length ca.ck, .slice ca.Av e.c.val.length ca.cv, .slice ca.Ao e.c.old.length ca.co]) rfl (by kernel_rfl) (by kernel_rfl) (by kernel_rfl) (fun _ _ _ h => h) (Or.inl ⟨by kernel_rfl, fun w h => by obtain ⟨q0, q1, q2, q3, q4, q5, q6⟩ := seven (HF.out w h); go_simp⟩) hS.out ?_
  refine wpAnyH_ready (rs := [1]) (by kernel_rfl) (by simp) ?_
  refine AllReadyH.cons rfl (fun K hK => ?_) AllReadyH.nil
  go_simp
  refine (C1.out _ hS.out).mono ?_
  rintro en w1 ⟨A1, c1, rfl, ho1, hB1, hb1⟩
  have hS := Lib.hid hB1
  have HO1 := Lib.hid ho1
  clear hB1 hb1 ho1
  go_simp
  refine hK.out _ _ hS.out (fun _ => ?_)
  clear hK K
  refine wpAnyH_ready (rs := [2]) (by kernel_rfl) (by simp) ?_
  refine AllReadyH.cons rfl (fun K hK => ?_) AllReadyH.nil
  go_simp
  refine (C2.out _ _ _ c1 _ (Rd.own_ HO1.out) hS.out).mono ?_
  rintro en w2 ⟨b3, rfl, hr2, hb3, hb3', hB2, hb2⟩
  have hS := Lib.hid hB2
  have HR2 := Lib.hid hr2
  clear hB2 hb2 hr2 HO1
  go_simp
  refine hK.out _ _ hS.out (fun _ => ?_)
  clear hK K
  refine wpAnyH_ready (rs := [3]) (by kernel_rfl) (by simp) ?_
  refine AllReadyH.cons rfl (fun K hK => ?_) AllReadyH.nil
  go_simp
  refine (C3.out _ _ HR2.out).mono ?_
  rintro en w3 ⟨ca2, rfl, hq3, ho3⟩
  have hS := Lib.hid (below_only hS.out ho3 hb3)
  have HQ3 := Lib.hid hq3.rd
  clear hq3 ho3 HR2
  go_simp
  refine hK.out _ _ hS.out (fun _ => ?_)
  clear hK K
  refine wpAnyH_ready (rs := [5]) (by kernel_rfl) (by simp) ?_
  refine AllReadyH.cons rfl (fun K hK => ?_) AllReadyH.nil
  go_simp
  refine (C4.out _ _ _ HQ3.out hS.out).mono ?_
  rintro en w4 ⟨rfl, hb4⟩
  have hS := Lib.hid (hS.out.trans (hb4.mono hS.out.size))
  clear hb4 HQ3
  go_simp
  refine hK.out _ _ hS.out (fun _ => ?_)
  clear hK K
  refine wpAnyH_take (i := 6) (v := .bool (!ok)) rfl (by kernel_rfl) (by kernel_rfl) (by kernel_rfl) (fun _ _ _ h => h) (Or.inl ⟨by kernel_rfl, fun w _ => by go_simp⟩) hS.out ?_
  refine wpAnyH_done (by kernel_rfl) ?_ _
  cases ok with
  | false =>
    have hW4 := HWR.out.below hS.out
    have HP := Lib.hid (WrP.no (d := 200) (X := l) hW4 (ok := false) rfl)
    have HK := Lib.hid (HK4.out.below hS.out)
    obtain ⟨A, c, k1, k2, k3, k4⟩ := hW4
    have x1 : w4.cell? ⟨b, 1, none⟩ = some (.bool f) := k1.cell 1
    have f1 := k1.frozen 1
    have HK5 := Lib.hid (HK.out.set_other (i := 1) (u := .bool true) (b := b) (by omega))
    obtain ⟨y0, y1, y2, y3, y4, y5, y6⟩ := seven HK5.out
    have z0 := HK5.out.frozen 0
    have z1 := HK5.out.frozen 1
    have z2 := HK5.out.frozen 2
    have z3 := HK5.out.frozen 3
    have z4 := HK5.out.frozen 4
    have z5 := HK5.out.frozen 5
    have z6 := HK5.out.frozen 6
    clear k1 k2 k3 k4
    go_wp2_with fail
    have q0 := HK5.out
    have q1 := q0.set_ 0 (.int .i64 0)
    have q2 := q1.set_ 1 (.int .i64 0)
    have q3 := q2.set_ 2 (.int .i64 0)
    have q4 := q3.set_ 3 (.int .i64 0)
    have q5 := q4.set_ 4 (.slice none 0 0)
    have q6 := q5.set_ 5 (.slice none 0 0)
    have q7 := q6.set_ 6 (.slice none 0 0)
    refine bodyPost_ret (results_cell_row rfl _ _ _ _ _ _ _ rfl q7 Try.underlying27 rfl (by kernel_rfl)) rfl ?_
    refine ⟨⟨⟨none, 0, none, 0, none, 0⟩, ⟨0, 0, ⟨0, 0, [], [], []⟩⟩, rfl⟩, ?_⟩
    have hS4 := hS.out
    have hP0 := WrP.pre (HBZ.out.trans (hS4.mono HBZ.out.size)) HP.out
    exact (((((((hP0).set q0 (by decide) (by omega) (by have := HG.out; omega) (by omega)).set q1 (by decide) (by omega) (by have := HG.out; omega) (by omega)).set q2 (by decide) (by omega) (by have := HG.out; omega) (by omega)).set q3 (by decide) (by omega) (by have := HG.out; omega) (by omega)).set q4 (by decide) (by omega) (by have := HG.out; omega) (by omega)).set q5 (by decide) (by omega) (by have := HG.out; omega) (by omega)).set q6 (by decide) (by omega) (by have := HG.out; omega) (by omega)
  | true =>
    have C6 := C5 rfl
    clear C5
    have hW4 := HWR.out.below hS.out
    obtain ⟨A, c, k1, k2, k3, k4⟩ := HWR.out
    have HKB := Lib.hid (k1.below hS.out)
    have HLR := Lib.hid (Rd.own_ (own_below k2 hS.out))
    have HW4 := Lib.hid hW4
    have HK := Lib.hid (HK4.out.below hS.out)
    clear k1 k2 k3 k4 hW4
    go_upto_region 4 with fail
    have hS4g : Blk w4.drew g 27 #[.int .i64 e.s, .int .i64 e.q, .int .i64 e.c.kind, .int .i64 e.c.who, .slice ca.Ak e.c.key.length ca.ck, .slice ca.Av e.c.val.length ca.cv, .slice ca.Ao e.c.old.length ca.co] := (HF.out w4 hS.out).below (Below.refl _ _).drew
    have hT := Lib.hid ((Below.refl w4.heap.size w4).drew)
    refine wp_region_held_drew (S := fun w' => Blk w' g 27 #[.int .i64 e.s, .int .i64 e.q, .int .i64 e.c.kind, .int .i64 e.c.who, .slice ca.Ak e.c.key.length ca.ck, .slice ca.Av e.c.val.length ca.cv, .slice ca.Ao e.c.old.length ca.co]) (by kernel_rfl) hS4g (fun _ => ?_)
    have HSG := Lib.hid hS4g
    clear hS4g
    generalize w4.drew = u0 at hT HSG ⊢
    have x0 : u0.cell? ⟨b, 0, none⟩ = some (.slice A L.length c) := (HKB.out.below hT.out).cell 0
    refine wpAnyH_take (i := 0) (v := .pointer (some ⟨b, 0, none⟩)) rfl (by kernel_rfl) (by kernel_rfl) (by kernel_rfl) (fun _ _ _ h => h) (Or.inl ⟨by kernel_rfl, fun w _ => by go_simp⟩) HSG.out ?_
    refine wpAnyH_take (i := 1) (v := .pointer (some ⟨b, 0, none⟩)) rfl (by kernel_rfl) (by kernel_rfl) (by kernel_rfl) (fun _ _ _ h => h) (Or.inl ⟨by kernel_rfl, fun w _ => by go_simp⟩) HSG.out ?_
    refine wpAnyH_take (i := 2) (v := .pointer (some ⟨b, 0, none⟩)) rfl (by kernel_rfl) (by kernel_rfl) (by kernel_rfl) (fun _ _ _ h => h) (Or.inl ⟨by kernel_rfl, fun w _ => by go_simp⟩) HSG.out ?_
    refine wpAnyH_take (i := 3) (v := .pointer (some ⟨b, 0, none⟩)) rfl (by kernel_rfl) (by kernel_rfl) (by kernel_rfl) (fun _ _ _ h => h) (Or.inl ⟨by kernel_rfl, fun w _ => by go_simp⟩) HSG.out ?_
    refine wpAnyH_take (i := 5) (v := .agg #[.int .i64 e.s, .int .i64 e.q, .int .i64 e.c.kind, .int .i64 e.c.who, .slice ca.Ak e.c.key.length ca.ck, .slice ca.Av e.c.val.length ca.cv, .slice ca.Ao e.c.old.length ca.co]) rfl (by kernel_rfl) (by kernel_rfl) (by kernel_rfl) (fun _ _ _ h => h) (Or.inl ⟨by kernel_rfl, fun w h => by obtain ⟨q0, q1, q2, q3, q4, q5, q6⟩ := seven h; go_simp⟩) HSG.out ?_
    refine wpAnyH_ready (rs := [4]) (by kernel_rfl) (by simp) ?_
    refine AllReadyH.cons rfl (fun K hK => ?_) AllReadyH.nil
    go_simp
    refine hK.out _ _ HSG.out (fun _ => ?_)
    clear hK K
    refine wpAnyH_ready (rs := [6]) (by kernel_rfl) (by simp) ?_
    refine AllReadyH.cons rfl (fun K hK => ?_) AllReadyH.nil
    go_simp
    refine (C6.out _ _ _ c _ (HLR.out.below hT.out) (hS.out.trans (hT.out.mono hS.out.size))).mono ?_
    rintro en w6 ⟨A6, c6, rfl, ho6, hB6, hb6⟩
    have hT := Lib.hid (hT.out.trans (hb6.mono hT.out.size))
    have HO6 := Lib.hid ho6
    have HSG := Lib.hid (HSG.out.below hb6)
    clear hb6 hB6 ho6 x0
    go_simp
    refine hK.out _ _ HSG.out (fun _ => ?_)
    clear hK K
    refine wpAnyH_take (i := 7) (v := .pointer (some ⟨b, 0, none⟩)) rfl (by kernel_rfl) (by kernel_rfl) (by kernel_rfl) (fun _ _ _ h => h) (Or.inl ⟨by kernel_rfl, fun w _ => by go_simp⟩) HSG.out ?_
    refine wpAnyH_take (i := 8) (v := .pointer (some ⟨b, 0, none⟩)) rfl (by kernel_rfl) (by kernel_rfl) (by kernel_rfl) (fun _ _ _ h => h) (Or.inl ⟨by kernel_rfl, fun w _ => by go_simp⟩) HSG.out ?_
    have x0 : w6.cell? ⟨b, 0, none⟩ = some (.slice A L.length c) := (HKB.out.below hT.out).cell 0
    have f0 := (HKB.out.below hT.out).frozen 0
    have HP := Lib.hid (WrP.yes (d := 200) (X := l) HW4.out rfl HEL.out (HL2.out rfl) HO6.out hT.out)
    have HK5 := Lib.hid ((HK.out.below hT.out).set_other (i := 0) (u := .slice A6 L2.length c6) (b := b) (by omega))
    have HF5 := Lib.hid ((HF.out w6 (hS.out.trans (hT.out.mono hS.out.size))).set_other (i := 0) (u := .slice A6 L2.length c6) (b := b) (by omega))
    refine wpAnyH_ready (rs := [9]) (by kernel_rfl) (by simp) ?_
    refine AllReadyH.cons rfl (fun K hK => ?_) AllReadyH.nil
    go_simp
    refine hK.out _ _ HF5.out (fun _ => ?_)
    clear hK K
    refine wpAnyH_done (by kernel_rfl) ?_ _
    generalize w6.setCell ⟨b, 0, none⟩ (.slice A6 L2.length c6) = w7 at HP HK5 HF5 ⊢
    clear x0 f0
    obtain ⟨v0, v1, v2, v3, v4, v5, v6⟩ := seven HF5.out
    obtain ⟨y0, y1, y2, y3, y4, y5, y6⟩ := seven HK5.out
    have z0 := HK5.out.frozen 0
    have z1 := HK5.out.frozen 1
    have z2 := HK5.out.frozen 2
    have z3 := HK5.out.frozen 3
    have z4 := HK5.out.frozen 4
    have z5 := HK5.out.frozen 5
    have z6 := HK5.out.frozen 6
    go_wp2_with fail
    have q0 := HK5.out
    have q1 := q0.set_ 0 (.int .i64 e.s)
    have q2 := q1.set_ 1 (.int .i64 e.q)
    have q3 := q2.set_ 2 (.int .i64 e.c.kind)
    have q4 := q3.set_ 3 (.int .i64 e.c.who)
    have q5 := q4.set_ 4 (.slice ca.Ak e.c.key.length ca.ck)
    have q6 := q5.set_ 5 (.slice ca.Av e.c.val.length ca.cv)
    have q7 := q6.set_ 6 (.slice ca.Ao e.c.old.length ca.co)
    refine bodyPost_ret (results_cell_row rfl _ _ _ _ _ _ _ rfl q7 Try.underlying27 rfl (by kernel_rfl)) rfl ?_
    refine ⟨⟨ca, e, rfl⟩, ?_⟩
    have hS4 := hS.out
    have hP0 := WrP.pre (HBZ.out.trans (hS4.mono HBZ.out.size)) HP.out
    exact (((((((hP0).set q0 (by decide) (by omega) (by have := HG.out; omega) (by omega)).set q1 (by decide) (by omega) (by have := HG.out; omega) (by omega)).set q2 (by decide) (by omega) (by have := HG.out; omega) (by omega)).set q3 (by decide) (by omega) (by have := HG.out; omega) (by omega)).set q4 (by decide) (by omega) (by have := HG.out; omega) (by omega)).set q5 (by decide) (by omega) (by have := HG.out; omega) (by omega)).set q6 (by decide) (by omega) (by have := HG.out; omega) (by omega)
end Go.Proofs.Ytijcbbommaeejaa

namespace Go.Proofs.Ytijcbbommaeejaa
open Go.RowKit
set_option linter.unusedVariables false
theorem iv_snocR (l : List Int) (z : Int) : iv (l ++ [z]) = iv l ++ [.int .i64 z] := by simp [iv]
set_option maxRecDepth 100000 in
theorem rnum11_any (w : World) (b : Nat) (s : Pk.St) (z most : Int) (h : RdrAt w b s) {v : Nat} {s' : Pk.St} (hv : Pk.numV s most = v) (hs : Pk.numS s most = s') :
    Calls Try.prog 76 #[.agg #[.pointer (some ⟨b, 0, none⟩)], .int .i64 z, .int .i64 most] w (NumP w b v s') := by
  have bb : Below w.heap.size w (w.alloc (.cells #[.pointer (some ⟨b, 0, none⟩)] 51)) := (Below.refl _ _).alloc (Nat.le_refl _) _
  have HC := Lib.hid (rnum_is _ b s most (h.below bb) v s' hv hs)
  have HB := Lib.hid bb
  clear h hv hs bb
  go_enter Try.func76, Try.ntmps76
  go_wp2_with (first
    | (go_at_call 66; refine HC.out.mono ?_; rintro e w1 ⟨rfl, hr1, hb1⟩)
    | fail)
  go_ret
  exact ⟨rfl, hr1, only_trans (only_below (only_refl b w) HB.out (Nat.le_refl _)) hb1⟩
set_option maxRecDepth 100000 in
theorem rdata11_any (w : World) (b : Nat) (s : Pk.St) (A0 : Option Addr) (n0 c0 : Nat) (most : Int) (h : RdrAt w b s) {v : List Nat} {s' : Pk.St} (hv : Pk.bytV s most = v) (hs : Pk.bytS s most = s') :
    Calls Try.prog 74 #[.agg #[.pointer (some ⟨b, 0, none⟩)], .slice A0 n0 c0, .int .i64 most] w fun e w' => ∃ A c, e = .returned (.slice A v.length c) ∧ OwnB w w' A v.length c v ∧ RdrAt w' b s' ∧ Only b w w' := by
  have bb : Below w.heap.size w (w.alloc (.cells #[.pointer (some ⟨b, 0, none⟩)] 51)) := (Below.refl _ _).alloc (Nat.le_refl _) _
  have HC := Lib.hid (rbytes_is _ b s most (h.below bb) v s' hv hs)
  have HB := Lib.hid bb
  clear h hv hs bb
  go_enter Try.func74, Try.ntmps74
  go_wp2_with (first
    | (go_at_call 67; refine HC.out.mono ?_; rintro e w1 ⟨A1, n1, c1, rfl, ho1, hr1, hb1⟩; obtain rfl := own_len ho1)
    | fail)
  go_ret
  exact ⟨A1, c1, rfl, own_of HB.out.size ho1, hr1, only_trans (only_below (only_refl b w) HB.out (Nat.le_refl _)) hb1⟩
set_option maxRecDepth 100000 in
theorem rentry11_any (w : World) (b : Nat) (s : Pk.St) (ca : CA) (e0 : En) (h : RdrAt w b s) {e : En} {s' : Pk.St} (hv : En.read s = e) (hs : (En.get s).2 = s') :
    Calls Try.prog 75 #[.agg #[.pointer (some ⟨b, 0, none⟩)], entV ca e0] w fun en w' => ∃ ca, en = .returned (entV ca e) ∧ OwnC w w' ca e.c ∧ RdrAt w' b s' ∧ Only b w w' := by
  obtain ⟨wz, hwz⟩ : ∃ wz, ((w.alloc (.cells #[.pointer (some ⟨b, 0, none⟩)] 51)).alloc (.cells (entC ca e0) 27)).alloc (.cells #[.int .i64 0, .int .i64 0, .int .i64 0, .int .i64 0, .slice none 0 0, .slice none 0 0, .slice none 0 0] 27) = wz := ⟨_, rfl⟩
  have bb : Below w.heap.size w wz := by rw [← hwz]; exact (((Below.refl _ _).alloc (Nat.le_refl _) _).alloc (by rw [World.size_alloc]; omega) _).alloc (by rw [World.size_alloc, World.size_alloc]; omega) _
  obtain ⟨g, hg⟩ : ∃ g, w.heap.size = g := ⟨_, rfl⟩
  have k0 : Blk wz g 51 #[.pointer (some ⟨b, 0, none⟩)] := by rw [← hwz, ← hg]; exact ((Blk.new _ _ _).alloc _).alloc _
  have k2 : Blk wz (g + 1 + 1) 27 #[.int .i64 0, .int .i64 0, .int .i64 0, .int .i64 0, .slice none 0 0, .slice none 0 0, .slice none 0 0] := by
    rw [← hwz, ← hg]
    have := Blk.new ((w.alloc (.cells #[.pointer (some ⟨b, 0, none⟩)] 51)).alloc (.cells (entC ca e0) 27)) 27 #[.int .i64 0, .int .i64 0, .int .i64 0, .int .i64 0, .slice none 0 0, .slice none 0 0, .slice none 0 0]
    rwa [World.size_alloc, World.size_alloc] at this
  have hbl := h.lt
  have HC : Hid (Calls Try.prog 62 #[.pointer (some ⟨b, 0, none⟩)] wz fun en w' => ∃ ca, en = .returned (entV ca e) ∧ OwnC wz w' ca e.c ∧ RdrAt w' b s' ∧ Only b wz w') := Lib.hid (by
    have q := getEntry_any wz b s (h.below bb)
    rw [hv, hs] at q
    exact q)
  have HB := Lib.hid bb
  have HK := Lib.hid k2
  have HWZ := Lib.hid hwz
  have HG := Lib.hid hg
  have x0 : wz.cell? ⟨g, 0, none⟩ = some (.pointer (some ⟨b, 0, none⟩)) := k0.cell 0
  have hne : g + 1 + 1 ≠ b := by omega
  clear h hv hs bb k0 k2 hwz hg
  unfold entV entC
  unfold entV entC at HC
  unfold entC at HWZ
  go_enter Try.func75, Try.ntmps75
  go_upto_region 1 with fail
  rw [HG.out, HWZ.out]
  go_wp2_with (first
    | (go_at_call 62; refine HC.out.mono ?_; rintro en w1 ⟨ca1, rfl, hq, hr1, hb1⟩
       have HK1 := Lib.hid (HK.out.grown hb1 (by simpa using hne))
       have HQ := Lib.hid hq
       have HO := Lib.hid hb1
       have HR := Lib.hid hr1
       obtain ⟨y0, y1, y2, y3, y4, y5, y6⟩ := seven HK1.out
       have z0 := HK1.out.frozen 0
       have z1 := HK1.out.frozen 1
       have z2 := HK1.out.frozen 2
       have z3 := HK1.out.frozen 3
       have z4 := HK1.out.frozen 4
       have z5 := HK1.out.frozen 5
       have z6 := HK1.out.frozen 6
       clear hq hr1 hb1 x0)
    | fail)
  have q0 := HK1.out
  have q1 := q0.set_ 0 (.int .i64 e.s)
  have q2 := q1.set_ 1 (.int .i64 e.q)
  have q3 := q2.set_ 2 (.int .i64 e.c.kind)
  have q4 := q3.set_ 3 (.int .i64 e.c.who)
  have q5 := q4.set_ 4 (.slice ca1.Ak e.c.key.length ca1.ck)
  have q6 := q5.set_ 5 (.slice ca1.Av e.c.val.length ca1.cv)
  have q7 := q6.set_ 6 (.slice ca1.Ao e.c.old.length ca1.co)
  refine bodyPost_ret (results_cell_row rfl _ _ _ _ _ _ _ rfl q7 Try.underlying27 rfl (by kernel_rfl)) rfl ?_
  have hg := HG.out
  have hr0 : RgSt w w1 b s' := ⟨HR.out, only_trans (only_below (only_refl b w) HB.out (Nat.le_refl _)) HO.out⟩
  have hrg := (((((((hr0).set (i := 0) (u := .int .i64 e.s) q0 (by decide) (by decide) (by omega)).set (i := 1) (u := .int .i64 e.q) q1 (by decide) (by decide) (by omega)).set (i := 2) (u := .int .i64 e.c.kind) q2 (by decide) (by decide) (by omega)).set (i := 3) (u := .int .i64 e.c.who) q3 (by decide) (by decide) (by omega)).set (i := 4) (u := .slice ca1.Ak e.c.key.length ca1.ck) q4 (by decide) (by decide) (by omega)).set (i := 5) (u := .slice ca1.Av e.c.val.length ca1.cv) q5 (by decide) (by decide) (by omega)).set (i := 6) (u := .slice ca1.Ao e.c.old.length ca1.co) q6 (by decide) (by decide) (by omega)
  have own : ∀ {A : Option Addr} {n c : Nat} {l : List Nat}, OwnB wz w1 A n c l → OwnB w (((((((w1.setCell ⟨g + 1 + 1, 0, none⟩ (.int .i64 e.s)).setCell ⟨g + 1 + 1, 1, none⟩ (.int .i64 e.q)).setCell ⟨g + 1 + 1, 2, none⟩ (.int .i64 e.c.kind)).setCell ⟨g + 1 + 1, 3, none⟩ (.int .i64 e.c.who)).setCell ⟨g + 1 + 1, 4, none⟩ (.slice ca1.Ak e.c.key.length ca1.ck)).setCell ⟨g + 1 + 1, 5, none⟩ (.slice ca1.Av e.c.val.length ca1.cv)).setCell ⟨g + 1 + 1, 6, none⟩ (.slice ca1.Ao e.c.old.length ca1.co)) A n c l :=
    fun h => own_of HB.out.size (own_set_t (own_set_t (own_set_t (own_set_t (own_set_t (own_set_t (own_set_t h q0 (by decide)) q1 (by decide)) q2 (by decide)) q3 (by decide)) q4 (by decide)) q5 (by decide)) q6 (by decide))
  exact ⟨ca1, rfl, ⟨own HQ.out.k, own HQ.out.v, own HQ.out.o⟩, hrg.r, hrg.only⟩
set_option maxHeartbeats 2000000 in
set_option maxRecDepth 100000 in
theorem rnums11_any (w : World) (b : Nat) (s : Pk.St) (A0 : Option Addr) (n0 c0 : Nat) {most : Int} (hm0 : 0 ≤ most) (hm : most ≤ 100) (h : RdrAt w b s) {R : List Int} {s' : Pk.St} (hR : (stF most s).1 = R) (hs' : (stF most s).2 = s') :
    Calls Try.prog 77 #[.agg #[.pointer (some ⟨b, 0, none⟩)], .slice A0 n0 c0, .int .i64 most] w fun en w' => ∃ A c, en = .returned (.slice A R.length c) ∧ OwnI w w' A R.length c R ∧ RdrAt w' b s' ∧ Only b w w' := by
  unfold stF at hR hs'
  have hbl := h.lt
  have HBL := Lib.hid hbl
  obtain ⟨wz, hwz⟩ : ∃ wz, w.alloc (.cells #[.pointer (some ⟨b, 0, none⟩)] 51) = wz := ⟨_, rfl⟩
  have bb : Below w.heap.size w wz := by rw [← hwz]; exact (Below.refl _ _).alloc (Nat.le_refl _) _
  obtain ⟨g, hg⟩ : ∃ g, w.heap.size = g := ⟨_, rfl⟩
  have k0 : Blk wz g 51 #[.pointer (some ⟨b, 0, none⟩)] := by rw [← hwz, ← hg]; exact Blk.new _ _ _
  have HWZ := Lib.hid hwz
  have HG := Lib.hid hg
  have hgb : g ≠ b := by omega
  obtain ⟨n, hn⟩ : ∃ x, Pk.numV s most = x := ⟨_, rfl⟩
  obtain ⟨s1, hs1⟩ : ∃ x, Pk.numS s most = x := ⟨_, rfl⟩
  have hn100 : n ≤ 100 := by have := numV_le s hm0; omega
  have HC := Lib.hid (rnum_is wz b s most (h.below bb) n s1 hn hs1)
  rw [hn, hs1] at hR hs'
  have HQ0 : Hid (getF n s1 = (R, s')) := Lib.hid (by rw [← hR, ← hs'])
  have H0 : Hid (RgSt w wz b s) := Lib.hid ((⟨h, only_refl b w⟩ : RgSt w w b s).below bb)
  have HK0 := Lib.hid k0
  have x0 : wz.cell? ⟨g, 0, none⟩ = some (.pointer (some ⟨b, 0, none⟩)) := k0.cell 0
  clear hR hs' hn hs1 h bb k0 hwz hg
  go_enter Try.func77, Try.ntmps77
  go_upto_region 1 with fail
  rw [HG.out, HWZ.out]
  go_wp2_with (first
    | (go_at_call 66; refine HC.out.mono ?_; rintro en w1 ⟨rfl, hr1, hb1⟩; have HS1 := Lib.hid (H0.out.call hr1 hb1); have HK1 := Lib.hid (HK0.out.grown hb1 (by simpa using hgb)); clear hr1 hb1 HC x0)
    | fail)
  go_loopw [7, 12] (fun s7 s12 wr => ∃ (k : Nat) (A1 : Option Addr) (c1 : Nat) (acc : List Int) (sk : Pk.St), k ≤ n ∧ s12 = .int .i64 (k : Int) ∧ s7 = .slice A1 k c1 ∧ Hid (RgSt w wr b sk) ∧ Hid (Blk wr g 51 #[.pointer (some ⟨b, 0, none⟩)]) ∧ Hid (OwnI w wr A1 k c1 acc) ∧ Hid (getF n s1 = (acc ++ (getF (n - k) sk).1, (getF (n - k) sk).2))) (fun _ s12 _ => n - (intOf s12).toNat)
  case atStart => exact ⟨0, none, 0, [], s1, Nat.zero_le _, rfl, rfl, HS1, HK1, Lib.hid (ownI_nil _ _), Lib.hid (by simp)⟩
  case round =>
    clear HS1 H0 HK1 HK0
    obtain ⟨k, A1, c1, acc, sk, hk, rfl, rfl, HS, HK, HO, HQ⟩ := hrel
    by_cases hlt : k < n
    · obtain ⟨m, hm1⟩ : ∃ m, n - k = m + 1 := ⟨n - k - 1, by omega⟩
      have hstep : getF (m + 1) sk = ((Pk.numV sk 1099511627776 : Int) :: (getF m (Pk.numS sk 1099511627776)).1, (getF m (Pk.numS sk 1099511627776)).2) := rfl
      have hq := HQ.out
      rw [hm1, hstep] at hq
      obtain ⟨x, ex⟩ : ∃ x, Pk.numV sk 1099511627776 = x := ⟨_, rfl⟩
      obtain ⟨t, et⟩ : ∃ x, Pk.numS sk 1099511627776 = x := ⟨_, rfl⟩
      rw [ex, et] at hq
      have HC := Lib.hid (rnum_is wr b sk 1099511627776 HS.out.r x t ex et)
      have hmk : n - (k + 1) = m := by omega
      have HQN : Hid (getF n s1 = ((acc ++ [(x : Int)]) ++ (getF (n - (k + 1)) t).1, (getF (n - (k + 1)) t).2)) := Lib.hid (by rw [hmk, hq]; simp)
      clear hq hstep ex et hm1 hmk HQ
      have x0 : wr.cell? ⟨g, 0, none⟩ = some (.pointer (some ⟨b, 0, none⟩)) := HK.out.cell 0
      go_wp2_with (first
        | (go_at_call 66; refine HC.out.mono ?_; rintro en w1 ⟨rfl, hr2, hb2⟩
           have b1 : Below w1.heap.size w1 (w1.alloc (.cells #[.int .i64 (x : Int)] 3)) := (Below.refl _ _).alloc (Nat.le_refl _) _
           have HS2 := Lib.hid ((HS.out.call hr2 hb2).below b1)
           have HK2 := Lib.hid ((HK.out.grown hb2 (by simpa using hgb)).below b1)
           have hv1 := ownsRow_below (own_old HO.out hb2 (Old.some HBL.out)) b1
           have hsz : w.heap.size ≤ (w1.alloc (.cells #[.int .i64 (x : Int)] 3)).heap.size := HS2.out.size)
        | (at_builtin
           refine wpList_append_at w.heap.size hsz cellI (.tmp 14) (.tmp 18) rfl (by rfl) rfl hv1 rfl (Rd.oneV _ _ _) (by intro u hu; simp at hu; subst hu; rfl) (by omega) (by omega) ?_
           intro A3 c3 w3 hown3 hg3)
        | fail)
      go_roundw
      case rel =>
        refine ⟨k + 1, A3, c3, acc ++ [(x : Int)], t, by omega, by go_num, rfl, Lib.hid (HS2.out.row hv1 (by decide) (by decide) hg3), Lib.hid (HK2.out.apart_own hv1 (by decide) hg3), Lib.hid ?_, HQN⟩
        unfold OwnI
        rw [iv_snocR]
        exact hown3
      case measure => simp only [intOf]; omega
    · have hq := HQ.out
      have hnk : n - k = 0 := by omega
      rw [hnk, show getF 0 sk = ([], sk) from rfl, List.append_nil, HQ0.out] at hq
      injection hq with h1 h2
      subst h1 h2
      have hlen : R.length = k := ownI_len HO.out
      subst hlen
      go_wp2_with fail
      go_ret
      exact ⟨A1, c1, rfl, HO.out, HS.out.r, HS.out.only⟩
end Go.Proofs.Ytijcbbommaeejaa

namespace Go.Proofs.Ytijcbbommaeejaa
open Go.RowKit
set_option linter.unusedVariables false
theorem m_wnum (b n : Nat) (w : World) : (method (n + 1) 44 (.pointer (some ⟨b, 0, none⟩)) "hocket/mesg.num").run Try.prog w = .ok (59, .pointer (some ⟨b, 0, none⟩)) w := by kernel_rfl
theorem m_wnums (b n : Nat) (w : World) : (method (n + 1) 44 (.pointer (some ⟨b, 0, none⟩)) "hocket/mesg.nums").run Try.prog w = .ok (60, .pointer (some ⟨b, 0, none⟩)) w := by kernel_rfl
theorem m_wdata (b n : Nat) (w : World) : (method (n + 1) 44 (.pointer (some ⟨b, 0, none⟩)) "hocket/mesg.data").run Try.prog w = .ok (57, .pointer (some ⟨b, 0, none⟩)) w := by kernel_rfl
theorem m_wentry (b n : Nat) (w : World) : (method (n + 1) 44 (.pointer (some ⟨b, 0, none⟩)) "hocket/mesg.entry").run Try.prog w = .ok (58, .pointer (some ⟨b, 0, none⟩)) w := by kernel_rfl
theorem m_rnum (b n : Nat) (w : World) : (method (n + 1) 51 (.agg #[.pointer (some ⟨b, 0, none⟩)]) "hocket/mesg.num").run Try.prog w = .ok (76, .agg #[.pointer (some ⟨b, 0, none⟩)]) w := by kernel_rfl
theorem m_rnums (b n : Nat) (w : World) : (method (n + 1) 51 (.agg #[.pointer (some ⟨b, 0, none⟩)]) "hocket/mesg.nums").run Try.prog w = .ok (77, .agg #[.pointer (some ⟨b, 0, none⟩)]) w := by kernel_rfl
theorem m_rdata (b n : Nat) (w : World) : (method (n + 1) 51 (.agg #[.pointer (some ⟨b, 0, none⟩)]) "hocket/mesg.data").run Try.prog w = .ok (74, .agg #[.pointer (some ⟨b, 0, none⟩)]) w := by kernel_rfl
theorem m_rentry (b n : Nat) (w : World) : (method (n + 1) 51 (.agg #[.pointer (some ⟨b, 0, none⟩)]) "hocket/mesg.entry").run Try.prog w = .ok (75, .agg #[.pointer (some ⟨b, 0, none⟩)]) w := by kernel_rfl
set_option maxRecDepth 100000 in
theorem wflag_any {W w : World} {b : Nat} {L : List Nat} {f : Bool} (h : WrAt W w b L f) (hl : L.length ≤ 1000000) (x : Bool) :
    Calls Try.prog 33 #[.iface 44 (.pointer (some ⟨b, 0, none⟩)), .bool x] w fun e w' => e = .returned (.bool x) ∧ WrP W w b L f true (eI (if x = true then 1 else 0)) 9 w' := by
  have hm := m_wnum b
  cases x with
  | false =>
    have HC := Lib.hid (wnum_any h hl 0 1)
    clear h
    go_enter Try.func33, Try.ntmps33
    go_wp2_with (first
      | (go_at_call 59; refine HC.out.mono ?_; rintro en w1 ⟨rfl, hP⟩)
      | fail)
    go_ret
    exact ⟨rfl, hP⟩
  | true =>
    have HC := Lib.hid (wnum_any h hl 1 1)
    clear h
    go_enter Try.func33, Try.ntmps33
    go_wp2_with (first
      | (go_at_call 59; refine HC.out.mono ?_; rintro en w1 ⟨rfl, hP⟩)
      | fail)
    go_ret
    exact ⟨rfl, hP⟩
set_option maxRecDepth 100000 in
theorem rflag_any (w : World) (b : Nat) (s : Pk.St) (x : Bool) (h : RdrAt w b s) {v : Nat} {s' : Pk.St} (hv : Pk.numV s 1 = v) (hs : Pk.numS s 1 = s') :
    Calls Try.prog 33 #[.iface 51 (.agg #[.pointer (some ⟨b, 0, none⟩)]), .bool x] w fun e w' => e = .returned (.bool (decide (v = 1))) ∧ RdrAt w' b s' ∧ Only b w w' := by
  have hm := m_rnum b
  have hd : ((v : Int) == 1) = decide (v = 1) := by rw [Bool.eq_iff_iff]; simp; omega
  cases x with
  | false =>
    have HC := Lib.hid (rnum11_any w b s 0 1 h hv hs)
    clear h hv hs
    go_enter Try.func33, Try.ntmps33
    go_wp2_with (first
      | (go_at_call 76; refine HC.out.mono ?_; rintro en w1 ⟨rfl, hr1, ho1⟩)
      | fail)
    go_ret
    exact ⟨rfl, hr1, ho1⟩
  | true =>
    have HC := Lib.hid (rnum11_any w b s 1 1 h hv hs)
    clear h hv hs
    go_enter Try.func33, Try.ntmps33
    go_wp2_with (first
      | (go_at_call 76; refine HC.out.mono ?_; rintro en w1 ⟨rfl, hr1, ho1⟩)
      | fail)
    go_ret
    exact ⟨rfl, hr1, ho1⟩
end Go.Proofs.Ytijcbbommaeejaa

namespace Go.Proofs.Ytijcbbommaeejaa
open Go.RowKit
set_option linter.unusedVariables false
/-- a writer along the way: the variables g, g + 1; all within bounds so far (ok), laid X -/
structure WaSt (W wx : World) (b g : Nat) (cs : Array Value) (ok : Bool) (X : List Nat) (d : Nat) : Prop where
  ex : ∃ L f, WrAt W wx b L f ∧ f = !ok ∧ (ok = true → L = X) ∧ L.length ≤ d
  blk : Blk wx g 29 cs
  res : Blk wx (g + 1) 29 msgZ
  hb : b < g
  hg : W.heap.size ≤ g
section
variable {W wx wy : World} {b g d i : Nat} {cs : Array Value} {ok : Bool} {X : List Nat} {u : Value}
theorem WaSt.bel (h : WaSt W wx b g cs ok X d) : Below W.heap.size W wx := by
  obtain ⟨L, f, ⟨_, _, _, _, q, _⟩, _⟩ := h.ex
  exact q
theorem WaSt.step {L : List Nat} {f : Bool} {ok' : Bool} {Y : List Nat} {d' : Nat} (hb : b < g) (hg : W.heap.size ≤ g) (h1 : f = !ok) (h2 : ok = true → L = X) (h3 : L.length ≤ d) (hk : Blk wx g 29 cs) (hr : Blk wx (g + 1) 29 msgZ) (h : WrP W wx b L f ok' Y d' wy) : WaSt W wy b g cs (ok && ok') (X ++ Y) (d + d') := by
  obtain ⟨L', f', k1, k2, k3, k4, k5⟩ := h
  refine ⟨⟨L', f', k1, ?_, fun hok => ?_, by omega⟩, hk.grown k2 (by simp; omega), hr.grown k2 (by simp; omega), hb, hg⟩
  · rw [k3, h1]; cases ok <;> cases ok' <;> rfl
  · rw [Bool.and_eq_true] at hok
    rw [k4 (by rw [k3, h1, hok.1, hok.2]; rfl), h2 hok.1]
theorem WaSt.put (h : WaSt W wx b g cs ok X d) (i : Nat) (u : Value) : WaSt W (wx.setCell ⟨g, i, none⟩ u) b g (cs.setIfInBounds i u) ok X d := by
  obtain ⟨L, f, k1, k2, k3, k4⟩ := h.ex
  exact ⟨⟨L, f, k1.set h.blk (by decide) (by have := h.hb; omega) h.hg, k2, k3, k4⟩, h.blk.set_ i u, h.res.set_other (by omega), h.hb, h.hg⟩
theorem WaSt.num (h : WaSt W wx b g cs ok X d) (hd : d ≤ 10000) (z most : Int) : Calls Try.prog 59 #[.pointer (some ⟨b, 0, none⟩), .int .i64 z, .int .i64 most] wx fun e w' => e = .returned (.int .i64 (if wi most z then z else 0)) ∧ WaSt W w' b g cs (ok && wi most z) (X ++ eI z) (d + 9) := by
  obtain ⟨L, f, k1, k2, k3, k4⟩ := h.ex
  exact (wnum_any k1 (by omega) z most).mono fun e w' ⟨q1, q2⟩ => ⟨q1, WaSt.step h.hb h.hg k2 k3 k4 h.blk h.res q2⟩
theorem WaSt.flag (h : WaSt W wx b g cs ok X d) (hd : d ≤ 10000) (x : Bool) : Calls Try.prog 33 #[.iface 44 (.pointer (some ⟨b, 0, none⟩)), .bool x] wx fun e w' => e = .returned (.bool x) ∧ WaSt W w' b g cs (ok && true) (X ++ eI (if x = true then 1 else 0)) (d + 9) := by
  obtain ⟨L, f, k1, k2, k3, k4⟩ := h.ex
  exact (wflag_any k1 (by omega) x).mono fun e w' ⟨q1, q2⟩ => ⟨q1, WaSt.step h.hb h.hg k2 k3 k4 h.blk h.res q2⟩
theorem WaSt.data {A' : Option Addr} {c' : Nat} {x : List Nat} (h : WaSt W wx b g cs ok X d) (hd : d ≤ 10000) (hr : Rd W W.heap.size A' x.length (bv x)) (most : Int) (hm : most ≤ 100) : Calls Try.prog 57 #[.pointer (some ⟨b, 0, none⟩), .slice A' x.length c', .int .i64 most] wx fun e w' => (∃ A n c, e = .returned (.slice A n c)) ∧ WaSt W w' b g cs (ok && decide ((x.length : Int) ≤ most)) (X ++ Pk.encB x) (d + 109) := by
  have hbel := h.bel
  obtain ⟨L, f, k1, k2, k3, k4⟩ := h.ex
  exact (wdata_any k1 (by omega) (hr.below hbel) most hm).mono fun e w' ⟨q1, q2⟩ => ⟨q1, WaSt.step h.hb h.hg k2 k3 k4 h.blk h.res q2⟩
theorem WaSt.nums {A' : Option Addr} {c' : Nat} {l : List Int} (h : WaSt W wx b g cs ok X d) (hd : d ≤ 10000) (hr : Rd W W.heap.size A' l.length (iv l)) (hc : l.length ≤ c' ∧ c' ≤ maxLen) (most : Nat) (hm : most ≤ 8) : Calls Try.prog 60 #[.pointer (some ⟨b, 0, none⟩), .slice A' l.length c', .int .i64 (most : Int)] wx fun e w' => (∃ A n c, e = .returned (.slice A n c)) ∧ WaSt W w' b g cs (ok && wis most l) (X ++ (encN l.length ++ Pk.encs l)) (d + 100) := by
  obtain ⟨L, f, k1, k2, k3, k4⟩ := h.ex
  exact (wnums_any k1 (by omega) hr hc most hm).mono fun e w' ⟨q1, q2⟩ => ⟨q1, WaSt.step h.hb h.hg k2 k3 k4 h.blk h.res q2⟩
theorem WaSt.entry {ca : CA} {e : En} (h : WaSt W wx b g cs ok X d) (hd : d ≤ 10000) (hc : e.c.Wide) (hr : RdC W W.heap.size ca e.c) : Calls Try.prog 58 #[.pointer (some ⟨b, 0, none⟩), entV ca e] wx fun en w' => (∃ ca' e', en = .returned (entV ca' e')) ∧ WaSt W w' b g cs (ok && e.ok) (X ++ e.enc) (d + 200) := by
  obtain ⟨L, f, k1, k2, k3, k4⟩ := h.ex
  exact (wentry_any k1 (by omega) hc hr).mono fun e w' ⟨q1, q2⟩ => ⟨q1, WaSt.step h.hb h.hg k2 k3 k4 h.blk h.res q2⟩
end
/-- a reader along the way -/
structure RaSt (w wx : World) (b g : Nat) (cs : Array Value) (s : Pk.St) : Prop where
  r : RgSt w wx b s
  blk : Blk wx g 29 cs
  res : Blk wx (g + 1) 29 msgZ
  hb : b < w.heap.size
  hg : w.heap.size ≤ g
section
variable {w wx wy : World} {b g i : Nat} {cs : Array Value} {s : Pk.St} {u : Value}
theorem RaSt.step {s' : Pk.St} (h : RaSt w wx b g cs s) (hr : RdrAt wy b s') (ho : Only b wx wy) : RaSt w wy b g cs s' :=
  ⟨h.r.call hr ho, h.blk.grown ho (by have := h.hb; have := h.hg; simp; omega), h.res.grown ho (by have := h.hb; have := h.hg; simp; omega), h.hb, h.hg⟩
theorem RaSt.put (h : RaSt w wx b g cs s) (i : Nat) (u : Value) : RaSt w (wx.setCell ⟨g, i, none⟩ u) b g (cs.setIfInBounds i u) s :=
  ⟨h.r.set h.blk (by decide) (by decide) h.hg, h.blk.set_ i u, h.res.set_other (by omega), h.hb, h.hg⟩
theorem RaSt.num (h : RaSt w wx b g cs s) (z most : Int) {v : Nat} {s' : Pk.St} (hv : Pk.numV s most = v) (hs : Pk.numS s most = s') : Calls Try.prog 76 #[.agg #[.pointer (some ⟨b, 0, none⟩)], .int .i64 z, .int .i64 most] wx fun e w' => e = .returned (.int .i64 (v : Int)) ∧ RaSt w w' b g cs s' ∧ Only b wx w' :=
  (rnum11_any wx b s z most h.r.r hv hs).mono fun e w' ⟨q1, q2, q3⟩ => ⟨q1, h.step q2 q3, q3⟩
theorem RaSt.flag (h : RaSt w wx b g cs s) (x : Bool) {v : Nat} {s' : Pk.St} (hv : Pk.numV s 1 = v) (hs : Pk.numS s 1 = s') : Calls Try.prog 33 #[.iface 51 (.agg #[.pointer (some ⟨b, 0, none⟩)]), .bool x] wx fun e w' => e = .returned (.bool (decide (v = 1))) ∧ RaSt w w' b g cs s' ∧ Only b wx w' :=
  (rflag_any wx b s x h.r.r hv hs).mono fun e w' ⟨q1, q2, q3⟩ => ⟨q1, h.step q2 q3, q3⟩
theorem RaSt.data (h : RaSt w wx b g cs s) (A0 : Option Addr) (n0 c0 : Nat) (most : Int) {v : List Nat} {s' : Pk.St} (hv : Pk.bytV s most = v) (hs : Pk.bytS s most = s') : Calls Try.prog 74 #[.agg #[.pointer (some ⟨b, 0, none⟩)], .slice A0 n0 c0, .int .i64 most] wx fun e w' => ∃ A c, e = .returned (.slice A v.length c) ∧ OwnB w w' A v.length c v ∧ RaSt w w' b g cs s' ∧ Only b wx w' :=
  (rdata11_any wx b s A0 n0 c0 most h.r.r hv hs).mono fun e w' ⟨A, c, q1, q2, q3, q4⟩ => ⟨A, c, q1, own_of h.r.size q2, h.step q3 q4, q4⟩
theorem RaSt.nums (h : RaSt w wx b g cs s) (A0 : Option Addr) (n0 c0 : Nat) {most : Int} (hm0 : 0 ≤ most) (hm : most ≤ 100) {R : List Int} {s' : Pk.St} (hR : (stF most s).1 = R) (hs' : (stF most s).2 = s') : Calls Try.prog 77 #[.agg #[.pointer (some ⟨b, 0, none⟩)], .slice A0 n0 c0, .int .i64 most] wx fun e w' => ∃ A c, e = .returned (.slice A R.length c) ∧ OwnI w w' A R.length c R ∧ RaSt w w' b g cs s' ∧ Only b wx w' :=
  (rnums11_any wx b s A0 n0 c0 hm0 hm h.r.r hR hs').mono fun e w' ⟨A, c, q1, q2, q3, q4⟩ => ⟨A, c, q1, own_of h.r.size q2, h.step q3 q4, q4⟩
theorem RaSt.entry (h : RaSt w wx b g cs s) (ca : CA) (e0 : En) {e : En} {s' : Pk.St} (hv : En.read s = e) (hs : (En.get s).2 = s') : Calls Try.prog 75 #[.agg #[.pointer (some ⟨b, 0, none⟩)], entV ca e0] wx fun en w' => ∃ ca, en = .returned (entV ca e) ∧ OwnC w w' ca e.c ∧ RaSt w w' b g cs s' ∧ Only b wx w' :=
  (rentry11_any wx b s ca e0 h.r.r hv hs).mono fun e w' ⟨ca, q1, q2, q3, q4⟩ => ⟨ca, q1, q2.of h.r.size, h.step q3 q4, q4⟩
theorem OwnG.old {a : GA} {m : Mg} {row : Option Nat} (h : OwnG w wx a m) (hg : wx.grownBy wy row) (ho : Old w row) : OwnG w wy a m := ⟨own_old h.d hg ho, own_old h.h hg ho, own_old h.n hg ho, h.c.old hg ho⟩
end
end Go.Proofs.Ytijcbbommaeejaa

namespace Go.Proofs.Ytijcbbommaeejaa
open Go.RowKit
set_option linter.unusedVariables false
section
variable {W w wx : World} {b g k : Nat} {t e : TypeId} {old cs c : Array Value}
theorem only_row (w : World) (g : Nat) (cs : Array Value) : Only g w (w.setRow g cs) :=
  ⟨rfl, rfl, rfl, by simp, fun k hk hne => setRow_other w g k cs (by rintro rfl; exact hne rfl)⟩
theorem Blk.row (h : Blk w g t old) (cs : Array Value) : Blk (w.setRow g cs) g t cs := setRow_heap w g old cs t (0, 0) h
theorem Blk.row_other (h : Blk w k t c) (hne : k ≠ g) (cs : Array Value) : Blk (w.setRow g cs) k t c := (setRow_other w g k cs hne).trans h
theorem own_row_t {base size n : Nat} {v : Value} {xs : List Value} (h : w.ownsRow base e size v n xs) (hb : Blk w b t old) (hne : e ≠ t) : (w.setRow b cs).ownsRow base e size v n xs := by
  refine h.kept (only_row w b cs) ?_
  rcases h.2 with ⟨h1, _⟩ | ⟨g, cap, cur, h1, _, hh, _⟩
  · rw [h1]; exact .inl rfl
  · rw [h1]
    refine .inr ?_
    show some g ≠ some b
    intro h0
    injection h0 with h0
    subst h0
    have hb' : w.heap[g]? = some (.cells old t (0, 0)) := hb
    rw [hb'] at hh
    injection hh with hh
    injection hh with _ h3 _
    exact hne h3.symm
theorem WrAt.row {L : List Nat} {f : Bool} (h : WrAt W w b L f) (hk : Blk w g t old) (h1 : 5 ≠ t) (hne : b ≠ g) (hg : W.heap.size ≤ g) : WrAt W (w.setRow g cs) b L f := by
  obtain ⟨A, c, k1, k2, k3, k4⟩ := h
  exact ⟨A, c, k1.row_other hne cs, own_row_t k2 hk h1, below_setRow k3 hg cs, k4⟩
theorem RgSt.rowS {s : Pk.St} (h : RgSt w wx b s) (hk : Blk wx g t old) (h1 : 5 ≠ t) (h2 : 76 ≠ t) (hg : w.heap.size ≤ g) : RgSt w (wx.setRow g cs) b s := by
  obtain ⟨A, n, c, hb, q1, q2, q3, q4, q5⟩ := h.r
  exact ⟨⟨A, n, c, hb.row_other (hb.apart hk h2) cs, q1, q2, q3, q4.grown (only_row wx g cs) hk h1, q5⟩, only_below h.only (below_setRow (Below.refl w.heap.size wx) hg cs) (Nat.le_refl _)⟩
theorem OwnG.rowS {a : GA} {m : Mg} (h : OwnG w wx a m) (hk : Blk wx g t old) (h1 : 5 ≠ t) (h2 : 3 ≠ t) : OwnG w (wx.setRow g cs) a m :=
  ⟨own_row_t h.d hk h1, own_row_t h.h hk h2, own_row_t h.n hk h2, ⟨own_row_t h.c.k hk h1, own_row_t h.c.v hk h1, own_row_t h.c.o hk h1⟩⟩
theorem WaSt.rowS {ok : Bool} {X : List Nat} {d : Nat} (h : WaSt W wx b g cs ok X d) (c : Array Value) : ∃ L f, WrAt W (wx.setRow (g + 1) c) b L f ∧ f = !ok ∧ (ok = true → L = X) := by
  obtain ⟨L, f, k1, k2, k3, k4⟩ := h.ex
  exact ⟨L, f, k1.row h.res (by decide) (by have := h.hb; omega) (by have := h.hg; omega), k2, k3⟩
theorem RaSt.rowS {a : GA} {m : Mg} {s : Pk.St} (h : RaSt w wx b g cs s) (ho : OwnG w wx a m) (c : Array Value) : RgSt w (wx.setRow (g + 1) c) b s ∧ OwnG w (wx.setRow (g + 1) c) a m :=
  ⟨h.r.rowS h.res (by decide) (by decide) (by have := h.hg; omega), ho.rowS h.res (by decide) (by decide)⟩
end
end Go.Proofs.Ytijcbbommaeejaa

namespace Go.Proofs.Ytijcbbommaeejaa
theorem and_mask (n : Int) (j : Nat) (hj : j < 62) : bits .and .i64 n ((2 ^ j - 1 : Nat) : Int) = n % ((2 ^ j : Nat) : Int) := by
  have hp : 2 ^ j < 2 ^ 62 := Nat.pow_lt_pow_right (by omega) hj
  have hp0 : 0 < 2 ^ j := Nat.two_pow_pos j
  show IntKind.i64.wrap ((BitVec.ofInt 64 n &&& BitVec.ofInt 64 ((2 ^ j - 1 : Nat) : Int)).toNat : Int) = _
  have h1 : (BitVec.ofInt 64 ((2 ^ j - 1 : Nat) : Int)).toNat = 2 ^ j - 1 := by
    rw [BitVec.toNat_ofInt]
    have : (((2 ^ j - 1 : Nat) : Int) % ((2 ^ 64 : Nat) : Int)) = ((2 ^ j - 1 : Nat) : Int) := Int.emod_eq_of_lt (by omega) (by omega)
    rw [this]; simp
  have e : (BitVec.ofInt 64 n &&& BitVec.ofInt 64 ((2 ^ j - 1 : Nat) : Int)).toNat = (n % ((2 ^ j : Nat) : Int)).toNat := by
    rw [BitVec.toNat_and, h1, Nat.and_two_pow_sub_one_eq_mod, BitVec.toNat_ofInt]
    have hd : ((2 ^ j : Nat) : Int) ∣ ((2 ^ 64 : Nat) : Int) := by
      refine ⟨((2 ^ (64 - j) : Nat) : Int), ?_⟩
      rw [← Int.natCast_mul, ← Nat.pow_add, show j + (64 - j) = 64 by omega]
    have h2 := Int.emod_emod_of_dvd n hd
    have h3 := Int.emod_nonneg n (show ((2 ^ 64 : Nat) : Int) ≠ 0 by omega)
    have h4 := Int.emod_nonneg n (show ((2 ^ j : Nat) : Int) ≠ 0 by omega)
    have h5 : (((n % ((2 ^ 64 : Nat) : Int)).toNat % 2 ^ j : Nat) : Int) = n % ((2 ^ j : Nat) : Int) := by
      rw [Int.natCast_emod, Int.toNat_of_nonneg h3, h2]
    omega
  rw [e, IntKind.wrap_i64]
  have h4 := Int.emod_nonneg n (show ((2 ^ j : Nat) : Int) ≠ 0 by omega)
  have h5 := Int.emod_lt_of_pos n (show 0 < ((2 ^ j : Nat) : Int) by omega)
  omega
theorem and_1 (n : Int) : bits .and .i64 n 1 = n % 2 := by simpa using and_mask n 1 (by omega)
theorem and_3 (n : Int) : bits .and .i64 n 3 = n % 4 := by simpa using and_mask n 2 (by omega)
theorem and_7 (n : Int) : bits .and .i64 n 7 = n % 8 := by simpa using and_mask n 3 (by omega)
theorem and_15 (n : Int) : bits .and .i64 n 15 = n % 16 := by simpa using and_mask n 4 (by omega)
theorem and_31 (n : Int) : bits .and .i64 n 31 = n % 32 := by simpa using and_mask n 5 (by omega)
theorem and_63 (n : Int) : bits .and .i64 n 63 = n % 64 := by simpa using and_mask n 6 (by omega)
theorem and_127 (n : Int) : bits .and .i64 n 127 = n % 128 := by simpa using and_mask n 7 (by omega)
theorem and_255 (n : Int) : bits .and .i64 n 255 = n % 256 := by simpa using and_mask n 8 (by omega)
end Go.Proofs.Ytijcbbommaeejaa

