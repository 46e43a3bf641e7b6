/- GathCode1 GathAdd -/
import Derived.Test.YtneehnoolhadbaaGP26
import Derived.BigQuiet
namespace Go.Proofs.Ytneehnoolhadbaa
open Go.RowKit
set_option linter.unusedVariables false
theorem gheld_any (w : World) (n l m : Int) (h : In64 n) (hl : In64 l) (hm : In64 m) :
    Calls Try.prog 29 #[.int .i64 n, .int .i64 l, .int .i64 m] w fun e w' => e = .returned (.int .i64 (min (max n l) m)) ∧ w = w' := by
  obtain ⟨h1, h2⟩ := h; obtain ⟨l1, l2⟩ := hl; obtain ⟨m1, m2⟩ := hm
  go_enter Try.func29, Try.ntmps29
  go_wp2
  all_goals (go_ret; exact ⟨ret_int (by omega), rfl⟩)
theorem bit_min {m : Nat} (hm : m < 128) (j : Nat) : ((m : Int) / 2 ^ min j 64 % 2 == 1) = m.testBit j := by
  have h := Vw.bit_nat m (min j 64)
  unfold Vw.bit at h
  rw [show ((m : Int) / 2 ^ min j 64 % 2 == 1) = decide ((m : Int) / 2 ^ min j 64 % 2 = 1) by rfl, h]
  rcases Nat.lt_or_ge j 64 with h1 | h1
  · rw [Nat.min_eq_left (by omega)]
  · rw [Nat.min_eq_right (by omega), Nat.testBit_lt_two_pow (x := m) (i := 64) (by omega), Nat.testBit_lt_two_pow (Nat.lt_of_lt_of_le hm (Nat.pow_le_pow_right (n := 2) (i := 7) (by decide) (by omega)))]
theorem ghas_any (w : World) (m : Nat) (k : Int) (hm : m < 128) (hk : In64 k) :
    Calls Try.prog 31 #[.int .i64 (m : Int), .int .i64 k] w fun e w' => e = .returned (.bool (decide (0 ≤ k) && m.testBit k.toNat)) ∧ w = w' := by
  obtain ⟨h1, h2⟩ := hk
  by_cases h0 : 0 ≤ k
  · obtain ⟨j, rfl⟩ := Int.eq_ofNat_of_zero_le h0
    have hand := and_1 ((m : Int) / 2 ^ (min j 64))
    have hd0 : decide ((j : Int) < 0) = false := by simp
    have hb := Lib.hid (bit_min hm j)
    go_enter Try.func31, Try.ntmps31
    go_wp2
    all_goals (go_ret; exact ⟨ret_bool (by rw [hb.out, decide_eq_true h0]; rfl), rfl⟩)
  · have hd : decide (0 ≤ k) = false := decide_eq_false h0
    have HD := Lib.hid hd
    clear hd
    go_enter Try.func31, Try.ntmps31
    go_wp2
    all_goals (go_ret; exact ⟨ret_bool (by rw [HD.out]; rfl), rfl⟩)
theorem pow_in {n : Nat} (h : n ≤ 7) : ∃ P : Nat, 2 ^ n = P ∧ wrap64 ((2 : Int) ^ n) = (P : Int) ∧ 1 ≤ P ∧ P ≤ 128 := by
  have h1 : 2 ^ n ≤ 2 ^ 7 := Nat.pow_le_pow_right (by decide) h
  have h2 : 0 < 2 ^ n := Nat.pow_pos (by decide)
  refine ⟨_, rfl, ?_, h2, h1⟩
  have e : ((2 : Int) ^ n) = ((2 ^ n : Nat) : Int) := by simp
  rw [e]
  exact IntWalk.wrap64_in _ (by omega)
theorem glackQ {W w : World} {S : Nat → Prop} {b : Nat} {g : Gm} (h : GthAt W w S b g) {x : Nat} (hx : g.lacking = x) :
    Calls Try.prog 32 #[.pointer (some ⟨b, 0, none⟩)] w fun e w' => e = .returned (.int .i64 (x : Int)) ∧ ∃ q, w' = w.drewN q := by
  obtain ⟨A, k, c, es, m0, m1, m3, m5, m7, m8, h1, rfl⟩ := h
  have ho := h1.ok
  obtain ⟨n, hn⟩ : ∃ n, g.n = n := ⟨_, rfl⟩
  obtain ⟨cm, hcm⟩ : ∃ n, Gm.came g.l = n := ⟨_, rfl⟩
  have hn7 : n ≤ 7 := by rw [← hn]; exact ho.n7
  have hc7 : cm < 128 := by rw [← hcm]; exact ho.lt7
  have c0 := h1.blk.cell 0
  have c3 := h1.blk.cell 3
  simp [gthC, hn, hcm] at c0 c3
  obtain ⟨P, hP, hw, hP1, hP2⟩ := pow_in hn7
  have hmin : min n 64 = n := by omega
  have hd0 : decide ((n : Int) < 0) = false := by simp
  have han := Gm.andNot_nat (a := P - 1) (b := cm) (by omega) hc7
  rw [show ((P - 1 : Nat) : Int) = (P : Int) - 1 by omega] at han
  have hx' : Gm.dif (P - 1) cm = x := by rw [← hx]; unfold Gm.lacking Gm.full; rw [hn, hcm, hP]
  rw [hx'] at han
  clear hx' hx hcm hn ho h1 hP
  go_enter Try.func32, Try.ntmps32
  go_upto_region 1 with fail
  go_quiet (fail)
  go_wp2_with fail
  go_ret
  exact ⟨rfl, _, rfl⟩
theorem gunreadyQ {W w : World} {S : Nat → Prop} {b : Nat} {g : Gm} (h : GthAt W w S b g) {x : Nat} (hx : g.unready = x) :
    Calls Try.prog 35 #[.pointer (some ⟨b, 0, none⟩)] w fun e w' => e = .returned (.int .i64 (x : Int)) ∧ ∃ q, w' = w.drewN q := by
  obtain ⟨A, k, c, es, m0, m1, m3, m5, m7, m8, h1, rfl⟩ := h
  have hc := h1.com.mem
  subst hc
  have c7 := h1.blk.cell 12
  have c9 := h1.blk.cell 30
  simp [gthC] at c7 c9
  have han := Gm.andNot_nat h1.ok.mask_lt h1.ok.rd
  rw [show Gm.dif g.mask g.ready = x from hx] at han
  obtain ⟨mk, hmk⟩ : ∃ m, g.mask = m := ⟨_, rfl⟩
  obtain ⟨rd, hrd⟩ : ∃ m, g.ready = m := ⟨_, rfl⟩
  rw [hmk] at c7 han
  rw [hrd] at c9 han
  clear h1 hx hmk hrd
  go_enter Try.func35, Try.ntmps35
  go_upto_region 1 with fail
  go_quiet (fail)
  go_wp2_with fail
  go_ret
  exact ⟨rfl, _, rfl⟩
theorem bel_drewN (w : World) (k : Nat) : Below w.heap.size w (w.drewN k) := ⟨rfl, rfl, rfl, Nat.le_refl _, fun _ _ => rfl⟩
theorem glack_any {W w : World} {S : Nat → Prop} {b : Nat} {g : Gm} (h : GthAt W w S b g) {x : Nat} (hx : g.lacking = x) :
    Calls Try.prog 32 #[.pointer (some ⟨b, 0, none⟩)] w fun e w' => e = .returned (.int .i64 (x : Int)) ∧ Below w.heap.size w w' :=
  (glackQ h hx).mono fun _ _ ⟨h1, k, h2⟩ => ⟨h1, by rw [h2]; exact bel_drewN _ _⟩
theorem gunready_any {W w : World} {S : Nat → Prop} {b : Nat} {g : Gm} (h : GthAt W w S b g) {x : Nat} (hx : g.unready = x) :
    Calls Try.prog 35 #[.pointer (some ⟨b, 0, none⟩)] w fun e w' => e = .returned (.int .i64 (x : Int)) ∧ Below w.heap.size w w' :=
  (gunreadyQ h hx).mono fun _ _ ⟨h1, k, h2⟩ => ⟨h1, by rw [h2]; exact bel_drewN _ _⟩
end Go.Proofs.Ytneehnoolhadbaa

namespace Go.Proofs.Ytneehnoolhadbaa
open Go.RowKit
set_option linter.unusedVariables false
set_option linter.unusedSimpArgs false
/-- append of one message onto a row of the call's own, at one operation -/
theorem wp_append_G {W w : World} {o : Oper} {a : Act} {next : Act → World → Prop} {Q : Exit → Act → World → Prop} (s x : Operand)
    (ho : o.op = .call { callee := .builtin .append, args := #[s, x], argTypes := #[44, 44] })
    {A : Option Addr} {n c : Nat} {vs : List Value} (hs : a.eval s = .slice A n c) (hown : w.ownsRow W.heap.size 31 24 (.slice A n c) n vs)
    {B : Nat} {A' : Option Addr} {m c' : Nat} {ws : List Value} (hx : a.eval x = .slice A' m c') (hr : Rd w B A' (m * 24) ws) (h1 : ∀ u ∈ ws, u.oneCell' = true) {N : Nat} (hN : n + m = N) (hnm : N ≤ 1000000) (hB : Below W.heap.size W w)
    (h : ∀ A2 c2 w2, w2.ownsRow W.heap.size 31 24 (.slice A2 N c2) N (vs ++ ws) → Below W.heap.size W w2 → w.grownBy w2 (Value.slice A n c).ownBlock → ((Value.slice A2 N c2).ownBlock = (Value.slice A n c).ownBlock ∨ (Value.slice A2 N c2).ownBlock = some w.heap.size) → next (a.put o.dst (.slice A2 N c2)) w2) :
    o.wp Try.prog a w next Q := by
  subst hN
  obtain ⟨i, hi, hz, hsz, hbi⟩ := info_parts msgS14.info
  obtain ⟨v', w', hrun, h2, h3, h4⟩ := run_append_rdS (P := Try.prog) w W.heap.size 44 o.type 31 i _ 24 288 msgS14.under hi hz hsz hbi msgS14.one msgS14.pos _ n vs hown B A' m c' ws hr h1
    (by unfold maxLen; omega) (by omega) hB.size
  have hlt := hown.lt
  have hB2 : Below W.heap.size W w' := hB.grown h3 hB.size (fun k hk => (hlt k hk).1)
  obtain ⟨A2, c2, rfl, hr2⟩ := Rd.of_ownS h2 msgS14.pos
  have hgo := h A2 c2 w' h2 hB2 h3 h4
  unfold Oper.wp execOp
  simp only [ho, resolve, invoke, builtin, Sem.run_bind, Sem.run_pure, Result.andThen_ok, List.map_toArray, List.map_cons, List.map_nil, hs, hx, hrun]
  exact hgo
theorem rd_one24 {w : World} {h : Nat} {cs : Array Value} {l : List Value} (hk : Blk w h 31 cs) (hl : cs.toList = l) (h24 : l.length = 24) : Rd w w.heap.size (some ⟨h, 0, none⟩) (1 * 24) l := by
  subst hl
  refine ⟨h24, fun _ => ⟨h, 0, rfl, hk.lt, fun i hi => ?_⟩⟩
  rw [Nat.zero_add, hk.cell]
  simp
theorem own_notT {w : World} {base size n c b : Nat} {e t : TypeId} {A : Option Addr} {vs : List Value} {C : Array Value} (h : w.ownsRow base e size (.slice A n c) n vs) (hk : Blk w b t C) (hne : e ≠ t) : some b ≠ (Value.slice A n c).ownBlock := by
  rcases own_blk h with ⟨rfl, _⟩ | ⟨g, cur, rfl, _, hk'⟩
  · intro e; cases e
  · intro e
    have : b = g := by simpa [Value.ownBlock] using e
    exact (hk'.apart hk hne) this.symm
theorem own_notN {w : World} {base size n c b : Nat} {e : TypeId} {A : Option Addr} {vs : List Value} (h : w.ownsRow base e size (.slice A n c) n vs) (hb : w.heap.size ≤ b) : some b ≠ (Value.slice A n c).ownBlock := by
  rcases own_blk h with ⟨rfl, _⟩ | ⟨g, cur, rfl, _, hk'⟩
  · intro e; cases e
  · intro e
    have : b = g := by simpa [Value.ownBlock] using e
    have := hk'.lt
    omega
theorem ownBlock_is {w : World} {base size n c q : Nat} {e : TypeId} {A : Option Addr} {vs : List Value} (h : w.ownsRow base e size (.slice A n c) n vs) (hq : (Value.slice A n c).ownBlock = some q) : ∃ o, A = some ⟨q, o, none⟩ := by
  rcases own_blk h with ⟨rfl, _⟩ | ⟨g, cur, rfl, _, hk'⟩
  · cases hq
  · have : g = q := by simpa [Value.ownBlock] using hq
    subst this; exact ⟨0, rfl⟩
theorem ownBlock_of {w : World} {base size n c q o : Nat} {e : TypeId} {vs : List Value} (h : w.ownsRow base e size (.slice (some ⟨q, o, none⟩) n c) n vs) : (Value.slice (some ⟨q, o, none⟩) n c).ownBlock = some q := by
  rcases own_blk h with ⟨h1, _⟩ | ⟨g, cur, h1, _, hk'⟩
  · cases h1
  · injection h1 with h1; injection h1 with h1 h2 h3
    subst h1 h2
    simp [Value.ownBlock]
theorem keeps_grown {S : Nat → Prop} {w w' : World} {r : Option Nat} (h : w.grownBy w' r) (hs : ∀ q, r = some q → S q) : Keeps S w w' :=
  ⟨h.os, h.tape, h.output, h.size, fun k hk hn => h.block k hk (fun e => hn (hs k e.symm))⟩
set_option maxHeartbeats 1000000 in
set_option maxRecDepth 100000 in
theorem gadd_any {W w : World} {S : Nat → Prop} {b : Nat} {g : Gm} (h : GthAt W w S b g) {a : GA} {m : Mg} {f : Nat} {v' : Int} (hm : g.may ⟨2, (f : Int), m.inst, m.len, m.has⟩ v' = true) (hlo : Vw.lo ≤ m.inst) :
    Calls Try.prog 30 #[.pointer (some ⟨b, 0, none⟩), .int .i64 (f : Int), msgV a m] w fun e w' => e = .returned (.tuple #[]) ∧ GotGa W w S b (g.add ⟨2, (f : Int), m.inst, m.len, m.has⟩) w' := by
  obtain ⟨A, k, c, es, m0, m1, m3, m5, m7, m8, h1, rfl⟩ := h
  obtain ⟨q1, q2, q3, q4, q5, q6⟩ := h1.ok.may_is.1 hm
  have hk7 := h1.few q1
  have hf7 : f < 7 := by have := h1.ok.n7; simp only at q5; omega
  have HM := Lib.hid hm
  have H1 := Lib.hid h1
  have HLO := Lib.hid hlo
  have HQ := Lib.hid q1
  obtain ⟨cm, hcm⟩ : ∃ n, Gm.came g.l = n := ⟨_, rfl⟩
  obtain ⟨n, hn⟩ : ∃ n, g.n = n := ⟨_, rfl⟩
  obtain ⟨id, hid⟩ : ∃ n, g.id = n := ⟨_, rfl⟩
  obtain ⟨v, hv⟩ : ∃ n, g.v = n := ⟨_, rfl⟩
  obtain ⟨rd, hrd⟩ : ∃ n, g.ready = n := ⟨_, rfl⟩
  have hsure : g.com.isSome = false := by rw [q1]; rfl
  have HKB : Hid (Blk w b 54 (gthC n id v cm A k c m0 m1 m3 m5 m7 m8 false rd)) := Lib.hid (by have := h1.blk; rwa [hn, hid, hv, hcm, hrd, hsure] at this)
  have hc7 : cm < 128 := by rw [← hcm]; exact h1.ok.lt7
  have HCM := Lib.hid hcm
  have hor := Vw.or_nat hc7 hf7
  obtain ⟨P, hP, hw, hP1, hP2⟩ := pow_in (n := f) (by omega)
  have HP := Lib.hid hP
  obtain ⟨x, hx⟩ : ∃ x, cm ||| 2 ^ f = x := ⟨_, rfl⟩
  rw [hx, show ((2 : Int) ^ f) = (P : Int) by rw [← hP]; simp] at hor
  have HX := Lib.hid hx
  have HNM := Lib.hid (And.intro hn (And.intro hid (And.intro hv hrd)))
  have HSU := Lib.hid hsure
  clear h1 hm q1 q2 q3 q4 q5 q6 hlo hcm hn hid hv hrd hsure hP hx
  unfold msgV msgC
  go_enter Try.func30, Try.ntmps30
  go_upto_region 1 with fail
  obtain ⟨h, w1, hgE, hwE, hbE, hkE⟩ := alloced w (msgC a m) 31
  unfold msgC at hwE
  rw [hgE, hwE]
  have HB1 := Lib.hid hbE
  have HKH := Lib.hid hkE
  have HHG := Lib.hid hgE
  have HKB1 := Lib.hid (HKB.out.below hbE)
  have c3 := HKB1.out.cell 3
  have f3 := HKB1.out.frozen 3
  simp [gthC] at c3
  clear hgE hwE hbE hkE HKB
  go_region
  obtain ⟨w2, hw2⟩ : ∃ y, (w1.setCell ⟨b, 3, none⟩ (.int .i64 (x : Int))).drew = y := ⟨_, rfl⟩
  rw [hw2]
  have HNH : Hid (some h ≠ (Value.slice A k c).ownBlock) := Lib.hid (own_notN H1.out.own (Nat.le_of_eq HHG.out))
  have hne : b ≠ h := by have := HHG.out; have := H1.out.blk.lt; omega
  have HKB2 : Hid (Blk w2 b 54 (gthC n id v x A k c m0 m1 m3 m5 m7 m8 false rd)) := Lib.hid (by rw [← hw2]; exact HKB1.out.set_ 3 _)
  have HKH2 : Hid (Blk w2 h 31 (msgC a m)) := Lib.hid (by rw [← hw2]; exact HKH.out.set_other (Ne.symm hne))
  have HO2 : Hid (OwnV W w2 A k c es) := Lib.hid (by rw [← hw2]; exact own_set_t (H1.out.own.below HB1.out) HKB1.out (by decide))
  have HK2 : Hid (Keeps (gaS b A) w w2) := Lib.hid (by
    rw [← hw2]
    have h0 : Keeps (gaS b A) w w1 := Keeps.of_below HB1.out
    have h1 := keeps_setCell (S := gaS b A) (.inl rfl) h0 3 (.int .i64 (x : Int))
    exact ⟨h1.os, h1.tape, h1.output, h1.size, h1.block⟩)
  have HB2 : Hid (Below W.heap.size W w2) := Lib.hid (HK2.out.below H1.out.bel (fun q hq => (H1.out.lt q hq).1))
  clear hw2 c3 f3 HKB1 HKH hor
  go_upto_region 2 with fail
  refine region_T (n := 17) (S := fun w' => Blk w' b 54 (gthC n id v x A k c m0 m1 m3 m5 m7 m8 false rd) ∧ Blk w' h 31 (msgC a m)) (by kernel_rfl) ?_
  have hS0 : Blk w2.drew b 54 (gthC n id v x A k c m0 m1 m3 m5 m7 m8 false rd) ∧ Blk w2.drew h 31 (msgC a m) := ⟨HKB2.out, HKH2.out⟩
  have HO3 : Hid (OwnV W w2.drew A k c es) := HO2
  have HK3 : Hid (Keeps (gaS b A) w w2.drew) := Lib.hid ⟨HK2.out.os, HK2.out.tape, HK2.out.output, HK2.out.size, HK2.out.block⟩
  have HB3 : Hid (Below W.heap.size W w2.drew) := Lib.hid HB2.out.drew
  have HSZ3 : Hid (W.heap.size ≤ b ∧ w.heap.size ≤ h) := Lib.hid ⟨H1.out.lo, Nat.le_of_eq HHG.out⟩
  generalize w2.drew = w3 at hS0 HO3 HK3 HB3 ⊢
  have hS := Lib.hid hS0
  clear hS0 HKB2 HKH2 HO2 HK2 HB2
  -- REGION2
  refine AnyT.take (i := 0) (v := .pointer (some ⟨b, 0, none⟩)) rfl (by kernel_rfl) (by kernel_rfl) (by kernel_rfl) (by kernel_rfl) (fun _ _ _ h => h) (Or.inl ⟨by kernel_rfl, fun w _ => by go_simp⟩) hS.out ?_
  refine AnyT.take (i := 1) (v := .pointer (some ⟨b, 0, none⟩)) rfl (by kernel_rfl) (by kernel_rfl) (by kernel_rfl) (by kernel_rfl) (fun _ _ _ h => h) (Or.inl ⟨by kernel_rfl, fun w _ => by go_simp⟩) hS.out ?_
  refine AnyT.take (i := 2) (v := .pointer (some ⟨b, 0, none⟩)) rfl (by kernel_rfl) (by kernel_rfl) (by kernel_rfl) (by kernel_rfl) (fun _ _ _ h => h) (Or.inl ⟨by kernel_rfl, fun w _ => by go_simp⟩) hS.out ?_
  refine AnyT.take (i := 3) (v := .pointer (some ⟨b, 4, none⟩)) rfl (by kernel_rfl) (by kernel_rfl) (by kernel_rfl) (by kernel_rfl) (fun _ _ _ h => h) (Or.inl ⟨by kernel_rfl, fun w _ => by go_simp⟩) hS.out ?_
  refine AnyT.takeC [14, 4] [] (i := 4) (v := .slice A k c) rfl (by kernel_rfl) (by kernel_rfl) (by kernel_rfl) (by kernel_rfl) (by kernel_rfl) (by kernel_rfl) (fun _ _ _ h => h) (Or.inl ⟨by kernel_rfl, fun wq hq => by have q := (hq.1.cell 4); simp [gthC, msgC] at q; go_simp⟩) hS.out ?_
  refine AnyT.take (i := 5) (v := .int .i64 (f : Int)) rfl (by kernel_rfl) (by kernel_rfl) (by kernel_rfl) (by kernel_rfl) (fun _ _ _ h => h) (Or.inl ⟨by kernel_rfl, fun w _ => by go_simp⟩) hS.out ?_
  refine AnyT.take (i := 6) (v := .pointer (some ⟨h, 4, none⟩)) rfl (by kernel_rfl) (by kernel_rfl) (by kernel_rfl) (by kernel_rfl) (fun _ _ _ h => h) (Or.inl ⟨by kernel_rfl, fun w _ => by go_simp⟩) hS.out ?_
  refine AnyT.takeC [14, 13, 12, 7] [(14, [13, 12, 7])] (i := 7) (v := .int .i64 m.inst) rfl (by kernel_rfl) (by kernel_rfl) (by kernel_rfl) (by kernel_rfl) (by kernel_rfl) (by kernel_rfl) (fun _ _ _ h => h) (Or.inl ⟨by kernel_rfl, fun wq hq => by have q := (hq.2.cell 4); simp [gthC, msgC] at q; go_simp⟩) hS.out ?_
  refine AnyT.take (i := 8) (v := .pointer (some ⟨h, 5, none⟩)) rfl (by kernel_rfl) (by kernel_rfl) (by kernel_rfl) (by kernel_rfl) (fun _ _ _ h => h) (Or.inl ⟨by kernel_rfl, fun w _ => by go_simp⟩) hS.out ?_
  refine AnyT.takeC [14, 13, 12, 9] [(14, [13, 12, 9])] (i := 9) (v := .int .i64 m.len) rfl (by kernel_rfl) (by kernel_rfl) (by kernel_rfl) (by kernel_rfl) (by kernel_rfl) (by kernel_rfl) (fun _ _ _ h => h) (Or.inl ⟨by kernel_rfl, fun wq hq => by have q := (hq.2.cell 5); simp [gthC, msgC] at q; go_simp⟩) hS.out ?_
  refine AnyT.take (i := 10) (v := .pointer (some ⟨h, 6, none⟩)) rfl (by kernel_rfl) (by kernel_rfl) (by kernel_rfl) (by kernel_rfl) (fun _ _ _ h => h) (Or.inl ⟨by kernel_rfl, fun w _ => by go_simp⟩) hS.out ?_
  refine AnyT.takeC [14, 13, 12, 11] [(14, [13, 12, 11])] (i := 11) (v := .bool m.has) rfl (by kernel_rfl) (by kernel_rfl) (by kernel_rfl) (by kernel_rfl) (by kernel_rfl) (by kernel_rfl) (fun _ _ _ h => h) (Or.inl ⟨by kernel_rfl, fun wq hq => by have q := (hq.2.cell 6); simp [gthC, msgC] at q; go_simp⟩) hS.out ?_
  refine AnyT.take (i := 12) (v := .agg #[.int .i64 2, .int .i64 (f : Int), .int .i64 0, .int .i64 0, .int .i64 m.inst, .int .i64 m.len, .bool m.has, .int .i64 0, .int .i64 0, .int .i64 0, .int .i64 0, .slice none 0 0, .int .i64 0, .int .i64 0, .slice none 0 0, .slice none 0 0, .int .i64 0, .int .i64 0, .int .i64 0, .int .i64 0, .int .i64 0, .slice none 0 0, .slice none 0 0, .slice none 0 0]) rfl (by kernel_rfl) (by kernel_rfl) (by kernel_rfl) (by kernel_rfl) (fun _ _ _ h => h) (Or.inl ⟨by kernel_rfl, fun w _ => by go_simp⟩) hS.out ?_
  refine AnyT.ready (rs := [13]) (by kernel_rfl) (by simp) ?_
  refine AllT.cons rfl (fun K hK => ?_) AllT.nil
  go_simp
  obtain ⟨h2, w4, hgE, hwE, hbE, hkE⟩ := alloced w3 #[.int .i64 2, .int .i64 (f : Int), .int .i64 0, .int .i64 0, .int .i64 m.inst, .int .i64 m.len, .bool m.has, .int .i64 0, .int .i64 0, .int .i64 0, .int .i64 0, .slice none 0 0, .int .i64 0, .int .i64 0, .slice none 0 0, .slice none 0 0, .int .i64 0, .int .i64 0, .int .i64 0, .int .i64 0, .int .i64 0, .slice none 0 0, .slice none 0 0, .slice none 0 0] 31
  rw [hgE, hwE]
  have HBE := Lib.hid hbE
  have HKE := Lib.hid hkE
  have hS : Hid (Blk w4 b 54 (gthC n id v x A k c m0 m1 m3 m5 m7 m8 false rd) ∧ Blk w4 h 31 (msgC a m)) := Lib.hid ⟨hS.out.1.below hbE, hS.out.2.below hbE⟩
  clear hbE hkE hwE hgE
  go_simp
  refine hK.out _ _ (Or.inr (hS.out)) (fun _ => ?_)
  clear hK K
  refine AnyT.ready (rs := [14]) (by kernel_rfl) (by simp) ?_
  refine AllT.cons rfl (fun K hK => ?_) AllT.nil
  rw [if_pos (by kernel_rfl)]
  refine wp_append_G (W := W) (w := w4) (.tmp 19) (.tmp 28) rfl (A := A) (n := k) (c := c) (by kernel_rfl) (ownsRow_below HO3.out HBE.out) (B := w4.heap.size) (A' := some ⟨h2, 0, none⟩) (m := 1) (c' := 1) (ws := stC 2 (f : Int) m.inst m.len m.has) (by kernel_rfl) (rd_one24 HKE.out rfl rfl) (stC_ms HLO.out).one rfl (by omega) (HB3.out.trans (HBE.out.mono HB3.out.size)) ?_
  intro A2 c2 w5 hown hbel hgr hob
  have HO5 := Lib.hid hown
  have HB5 := Lib.hid hbel
  have HG5 := Lib.hid hgr
  have HOB := Lib.hid hob
  clear hown hbel hgr hob
  have hS : Hid (Blk w5 b 54 (gthC n id v x A k c m0 m1 m3 m5 m7 m8 false rd) ∧ Blk w5 h 31 (msgC a m)) := Lib.hid ⟨hS.out.1.grown HG5.out (own_notT (HO3.out.below HBE.out) hS.out.1 (by decide)), hS.out.2.grown HG5.out (HNH.out)⟩
  refine hK.out _ _ (Or.inr hS.out) (fun _ => ?_)
  clear hK K
  refine AnyT.takeC [16, 15] [] (i := 15) (v := .pointer (some ⟨b, 0, none⟩)) rfl (by kernel_rfl) (by kernel_rfl) (by kernel_rfl) (by kernel_rfl) (by kernel_rfl) (by kernel_rfl) (fun _ _ _ h => h) (Or.inl ⟨by kernel_rfl, fun w _ => by go_simp⟩) hS.out ?_
  refine AnyT.take (i := 16) (v := .pointer (some ⟨b, 4, none⟩)) rfl (by kernel_rfl) (by kernel_rfl) (by kernel_rfl) (by kernel_rfl) (fun _ _ _ h => h) (Or.inl ⟨by kernel_rfl, fun w _ => by go_simp⟩) hS.out ?_
  refine AnyT.ready (rs := [17]) (by kernel_rfl) (by simp) ?_
  have c4 := hS.out.1.cell 4
  have f4 := hS.out.1.frozen 4
  simp [gthC] at c4
  refine AllT.cons rfl (fun K hK => ?_) AllT.nil
  go_simp
  refine hK.out _ _ (Or.inl rfl) (fun _ => ?_)
  clear hK K
  refine AnyT.done (by kernel_rfl) ?_ _
  -- END2
  obtain ⟨w6, hw6⟩ : ∃ y, w5.setCell ⟨b, 4, none⟩ (.slice A2 (k + 1) c2) = y := ⟨_, rfl⟩
  rw [hw6]
  have HW6 := Lib.hid hw6
  clear hw6 c4 f4
  go_end0
  refine ⟨rfl, gaS b A2, ⟨A2, k + 1, c2, es ++ [stC 2 (f : Int) m.inst m.len m.has], m0, m1, m3, m5, m7, m8, ?_, rfl⟩, ?_⟩
  · rw [← HW6.out]
    obtain ⟨q1, q2, q3, q4⟩ := HNM.out
    refine ⟨?_, ⟨H1.out.com.e0, H1.out.com.e1, H1.out.com.e3, H1.out.com.e5, H1.out.com.e7, H1.out.com.e8⟩, ?_, by rw [List.length_append, H1.out.len]; rfl, ?_, ?_, H1.out.ok.add HM.out, H1.out.lo, HB5.out.setCell H1.out.lo _⟩
    · have h := hS.out.1.set_ 4 (.slice A2 (k + 1) c2)
      have e : Gm.came (g.l ++ [⟨2, (f : Int), m.inst, m.len, m.has⟩]) = x := by rw [Gm.came_snoc, HCM.out]; exact HX.out
      show Blk _ b 54 (gthC g.n g.id g.v (Gm.came (g.l ++ [⟨2, (f : Int), m.inst, m.len, m.has⟩])) A2 (k + 1) c2 m0 m1 m3 m5 m7 m8 g.com.isSome g.ready)
      rw [e, q1, q2, q3, q4, HSU.out]
      exact h
    · have h := own_set_t (i := 4) (u := .slice A2 (k + 1) c2) HO5.out hS.out.1 (by decide)
      unfold OwnV
      rw [List.flatten_append]
      simpa using h
    · intro cs hc
      rcases List.mem_append.1 hc with hc | hc
      · exact H1.out.ms cs hc
      · obtain rfl := List.mem_singleton.1 hc; exact stC_ms HLO.out
    · intro _
      show (es ++ [stC 2 (f : Int) m.inst m.len m.has]).map svOf = g.l ++ [⟨2, (f : Int), m.inst, m.len, m.has⟩]
      rw [List.map_append, H1.out.st HQ.out]
      rfl
  · refine ⟨?_, ?_⟩
    · rw [← HW6.out]
      refine keeps_setCell (S := gaS b A) (.inl rfl) ?_ 4 _
      exact ((HK3.out.trans (Keeps.of_below (S := gaS b A) HBE.out) (fun q hq _ => hq)).trans (keeps_grown HG5.out (fun q hq => .inr (ownBlock_is HO3.out hq))) (fun q hq _ => hq))
    · rintro q (rfl | ⟨o, rfl⟩)
      · exact .inl (.inl rfl)
      · rcases HOB.out with h | h
        · exact .inl (.inr (ownBlock_is HO3.out (by rw [← h]; exact ownBlock_of HO5.out)))
        · have h2 := ownBlock_of HO5.out
          rw [h] at h2
          injection h2 with h2
          have := HK3.out.size
          have := HBE.out.size
          exact .inr (by omega)
end Go.Proofs.Ytneehnoolhadbaa

