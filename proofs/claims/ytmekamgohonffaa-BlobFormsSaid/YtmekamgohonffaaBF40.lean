/- BlobKit2 MachEncode -/
import Derived.Test.YtmekamgohonffaaBF18
import Derived.Test.YtmekamgohonffaaBF29
import Derived.Test.YtmekamgohonffaaBF30
import Derived.Test.YtmekamgohonffaaBF31
import Derived.Test.YtmekamgohonffaaBF35
namespace Go.Proofs.Ytmekamgohonffaa
open Go.RowKit
set_option linter.unusedVariables false
theorem Pk.bytV_len (s : Pk.St) (m : Int) : (Pk.bytV s m).length ≤ (s.getD []).length := by
  rcases numN_cases s m with h | ⟨l, h1, _, _, h2⟩
  · by_cases hl : ((Pk.numS s m).getD []).length < Pk.numV s m
    · rw [(Pk.byt_no hl).1]; simp
    · rw [(Pk.byt_of hl).1, h.2]; simp
  · by_cases hl : ((Pk.numS s m).getD []).length < Pk.numV s m
    · rw [(Pk.byt_no hl).1]; simp
    · rw [(Pk.byt_of hl).1, h2, h1]
      simp only [Option.getD_some, List.length_take, List.length_drop]; omega
theorem Pk.numS_len (s : Pk.St) (m : Int) : ((Pk.numS s m).getD []).length ≤ (s.getD []).length := by
  rcases numN_cases s m with h | ⟨l, h1, _, _, h2⟩
  · rw [h.2]; simp
  · rw [h2, h1]; simp
theorem OwnEs.old {W w w' : World} {row : Option Nat} {A : Option Addr} {n c : Nat} {es : List En} (h : OwnEs W w A n c es) (hg : w.grownBy w' row) (ho : Old W row) : OwnEs W w' A n c es := by
  obtain ⟨vs, h1, h2⟩ := h
  exact ⟨vs, own_old h1 hg ho, h2.imp fun _ _ h => h.old hg ho⟩
theorem Pk.endOf_is (s : Pk.St) : Pk.endOf s = decide (s = some []) := by
  rcases s with _ | _ | ⟨x, s⟩ <;> simp [Pk.endOf]
section
variable {P : Program} {t e : TypeId} {z : Value} {bytes size : Nat} {w : World}
theorem wp_append_atE (base : Nat) (hb0 : base ≤ w.heap.size) (hT : CellS P t e z size bytes) {o : Oper} {a : Act} {next : Act → World → Prop} {Q : Exit → Act → World → Prop} (s x : Operand)
    (ho : o.op = .call { callee := .builtin .append, args := #[s, x], argTypes := #[t, t] })
    {A : Option Addr} {n c : Nat} {vs : List Value} (hs : a.eval s = .slice A n c) (hown : w.ownsRow base e size (.slice A n c) n vs)
    {B : Nat} {A' : Option Addr} {m c' : Nat} {ws : List Value} (hx : a.eval x = .slice A' m c') (hr : Rd w B A' (m * size) ws) (h1 : ∀ u ∈ ws, u.oneCell' = true) (hnm : n + m ≤ 1073741824) (hby : bytes ≤ 1000)
    (h : ∀ A2 c2 w2, w2.ownsRow base e size (.slice A2 (n + m) c2) (n + m) (vs ++ ws) → w.grownBy w2 (Value.slice A n c).ownBlock → next (a.put o.dst (.slice A2 (n + m) c2)) w2) : o.wp P a w next Q := by
  obtain ⟨i, hi, hz, hsz, hbi⟩ := info_parts hT.info
  obtain ⟨v', w', hrun, h2, h3, h4⟩ := run_append_rdS (P := P) w base t o.type e i z size bytes hT.under hi hz hsz hbi hT.one hT.pos _ n vs hown B A' m c' ws hr h1
    (by unfold maxLen; omega) (by have := Nat.mul_le_mul hnm hby; omega) hb0
  obtain ⟨A2, c2, rfl, hr2⟩ := Rd.of_ownS h2 hT.pos
  have hgo := h A2 c2 w' h2 h3
  unfold Oper.wp execOp
  simp only [ho, resolve, invoke, builtin, Sem.run_bind, Sem.run_pure, Result.andThen_ok, List.map_toArray, List.map_cons, List.map_nil, hs, hx, hrun]
  exact hgo
theorem wpList_append_atE (base : Nat) (hb0 : base ≤ w.heap.size) (hT : CellS P t e z size bytes) {ops : Array Oper} {rest : List Oper} {o : Oper} {a : Act} {Q : Exit → Act → World → Prop} (s x : Operand)
    (ho : o.op = .call { callee := .builtin .append, args := #[s, x], argTypes := #[t, t] }) (hw : Region.wanted o (yielded ops a.tmps) = true)
    {A : Option Addr} {n c : Nat} {vs : List Value} (hs : a.eval s = .slice A n c) (hown : w.ownsRow base e size (.slice A n c) n vs)
    {B : Nat} {A' : Option Addr} {m c' : Nat} {ws : List Value} (hx : a.eval x = .slice A' m c') (hr : Rd w B A' (m * size) ws) (h1 : ∀ u ∈ ws, u.oneCell' = true) (hnm : n + m ≤ 1073741824) (hby : bytes ≤ 1000)
    (h : ∀ A2 c2 w2, w2.ownsRow base e size (.slice A2 (n + m) c2) (n + m) (vs ++ ws) → w.grownBy w2 (Value.slice A n c).ownBlock → wpList P ops Q rest (a.put o.dst (.slice A2 (n + m) c2)) w2) :
    wpList P ops Q (o :: rest) a w := by
  unfold wpList
  rw [if_pos hw]
  exact .inl (wp_append_atE base hb0 hT s x ho hs hown hx hr h1 hnm hby h)
end
/-- an own row of entries grows by one -/
theorem OwnEs.snoc {W w w' : World} {A A2 : Option Addr} {n c c2 : Nat} {vs : List Value} {es : List En} {a : CA} {e : En} (ho : w.ownsRow W.heap.size 26 7 (.slice A n c) n vs) (hc : CellsE (fun a k => OwnC W w a k) vs es) (hr : OwnC W w a e.c)
    (hg : w.grownBy w' (Value.slice A n c).ownBlock) (ho2 : w'.ownsRow W.heap.size 26 7 (.slice A2 (n + 1) c2) (n + 1) (vs ++ entL a e)) : OwnEs W w' A2 (n + 1) c2 (es ++ [e]) := by
  have hk : ∀ {a : CA} {k : Cm}, OwnC W w a k → OwnC W w' a k := fun h => ⟨own_grown_t h.k ho (by decide) hg, own_grown_t h.v ho (by decide) hg, own_grown_t h.o ho (by decide) hg⟩
  exact ⟨vs ++ entL a e, ho2, (hc.imp fun _ _ h => hk h).append (CellsE.one (R := fun a k => OwnC W w' a k) (hk hr))⟩
end Go.Proofs.Ytmekamgohonffaa

namespace Go.Proofs.Ytmekamgohonffaa
open Go.RowKit
set_option linter.unusedVariables false
set_option maxHeartbeats 4000000 in
set_option maxRecDepth 100000 in
theorem encode_raw {w : World} {a : MA} {m : Mc} {B : Nat} (hM : m.Ok) (h : RdM w B a m) : Calls Try.prog 10 #[machV a m] w (GotIn w w m.enc) := by
  obtain ⟨wz, hwz⟩ : ∃ wz, w.alloc (.cells (machC a m) 35) = wz := ⟨_, rfl⟩
  have hbz : Below w.heap.size w wz := by rw [← hwz]; exact (Below.refl _ _).alloc (Nat.le_refl _) _
  have hkz : Blk wz w.heap.size 35 (machC a m) := by rw [← hwz]; exact Blk.new _ _ _
  have HR := Lib.hid ((h.fit.below hbz).fit)
  have HZ := Lib.hid hbz
  have HM := Lib.hid hM
  obtain ⟨g, hg⟩ : ∃ g, w.heap.size = g := ⟨_, rfl⟩
  rw [hg] at hkz
  have HF : Hid (∀ wx, Below wz.heap.size wz wx → Blk wx g 35 (machC a m)) := Lib.hid (fun wx hb => hkz.below hb)
  have HW := Lib.hid hwz
  have HG := Lib.hid hg
  have k1 := encB_length m.o.reg
  have k2 := encQ_length hM.o.qv
  have k3 := Pk.encs_length m.o.lk
  have k4 := encP_length hM.o.mp.len
  have k5 := encN_length m.o.q.length
  have k6 := encN_length m.o.lk.length
  have k7 := encN_length m.o.mp.length
  have k8 := hM.o.reg
  have k9 := hM.o.ql
  have k10 := hM.o.lkl
  have k11 := hM.o.mp.few
  obtain ⟨l1, e1⟩ : ∃ x, Pk.encB m.o.reg = x := ⟨_, rfl⟩
  obtain ⟨l2, e2⟩ : ∃ x, l1 ++ (encN m.o.q.length ++ encQ m.o.q) = x := ⟨_, rfl⟩
  obtain ⟨l3, e3⟩ : ∃ x, l2 ++ (encN m.o.lk.length ++ Pk.encs m.o.lk) = x := ⟨_, rfl⟩
  obtain ⟨l4, e4⟩ : ∃ x, l3 ++ (encN m.o.mp.length ++ encP m.o.mp) = x := ⟨_, rfl⟩
  obtain ⟨l5, e5⟩ : ∃ x, l4 ++ (encN m.t.length ++ encT m.t) = x := ⟨_, rfl⟩
  have hl1 : l1.length ≤ 100 := by rw [← e1]; omega
  have hl2 : l2.length ≤ 1000 := by rw [← e2]; simp only [List.length_append]; omega
  have hl3 : l3.length ≤ 2000 := by rw [← e3]; simp only [List.length_append]; omega
  have hl4 : l4.length ≤ 3000 := by rw [← e4]; simp only [List.length_append]; omega
  have hEND : m.enc = l5 := by
    unfold Mc.enc; rw [← e5, ← e4, ← e3, ← e2, ← e1]; simp only [List.append_assoc]
  rw [hEND]
  have C1 : Hid (Calls Try.prog 25 #[.slice none 0 0, .slice a.o.A0 m.o.reg.length a.o.c0] wz (GotPut wz wz l1)) := Lib.hid ((putBytes_any (W := wz) (w := wz) (l := []) (x := m.o.reg) (by simp) (by omega) (own_nil _ _) HR.out.o.r0 (Below.refl _ _)).mono fun e w' h => h.is (by rw [← e1]; rfl))
  have C2 : Hid (∀ {wx : World} {A : Option Addr} {c : Nat}, OwnB wz wx A l1.length c l1 → Below wz.heap.size wz wx → Calls Try.prog 26 #[.slice A l1.length c, .slice a.o.A1 m.o.q.length a.o.c1, .func (.func 25) #[] #[]] wx (GotPut wz wx l2)) := Lib.hid (fun ho hB => (putEachQ_any (W := wz) (c' := a.o.c1) (by omega) (by omega) hM.o.qv ho HR.out.o.r1 hB).mono fun e w' h => h.is e2)
  have C3 : Hid (∀ {wx : World} {A : Option Addr} {c : Nat}, OwnB wz wx A l2.length c l2 → Below wz.heap.size wz wx → Calls Try.prog 27 #[.slice A l2.length c, .slice a.o.A2 m.o.lk.length a.o.c2, .func (.func 28) #[] #[]] wx (GotPut wz wx l3)) := Lib.hid (fun ho hB => (putEachI_any (W := wz) (c' := a.o.c2) (by omega) (by omega) ho HR.out.o.r2 hB).mono fun e w' h => h.is e3)
  have C4 : Hid (∀ {wx : World} {A : Option Addr} {c : Nat}, OwnB wz wx A l3.length c l3 → Below wz.heap.size wz wx → Calls Try.prog 29 #[.slice A l3.length c, .slice a.o.A3 m.o.mp.length a.o.c3, .func (.func 30) #[] #[]] wx (GotPut wz wx l4)) := Lib.hid (fun ho hB => (putEachP_any (W := wz) (c' := a.o.c3) (by omega) (by omega) hM.o.mp.len ho HR.out.o.r3 hB).mono fun e w' h => h.is e4)
  have C5 : Hid (∀ {wx : World} {A : Option Addr} {c : Nat}, OwnB wz wx A l4.length c l4 → Below wz.heap.size wz wx → Calls Try.prog 31 #[.slice A l4.length c, .slice a.At m.t.length a.ct, .func (.func 32) #[] #[]] wx (GotPut wz wx l5)) := Lib.hid (fun ho hB => (putEachT_any (W := wz) (c' := a.ct) (by omega) (by have := hM.t8; omega) (fun m' hm' => (hM.t.each m' hm').2.1) (fun m' hm' => (hM.te m' hm').2.2) ho HR.out.t hB).mono fun e w' h => h.is e5)
  clear k1 k2 k3 k4 k5 k6 k7 k8 k9 k10 k11 e1 e2 e3 e4 e5 hl1 hl2 hl3 hl4 hEND h hM hbz hkz hwz hg
  unfold machV machC
  unfold machC at HW HF
  go_enter Try.func10, Try.ntmps10
  go_upto_region 1 with fail
  rw [HG.out, HW.out]
  obtain ⟨x0, x1, x2, x3, x4⟩ := five (HF.out wz (Below.refl _ _))
  go_wp2_with (first
    | (go_at_call 25; refine C1.out.mono ?_; rintro e w1 ⟨A1, c1, rfl, ho1, hB1, hb1⟩; obtain ⟨x0, x1, x2, x3, x4⟩ := five (HF.out w1 hB1))
    | (go_at_call 26; refine (C2.out ho1 hB1).mono ?_; rintro e w2 ⟨A2, c2, rfl, ho2, hB2, hb2⟩; obtain ⟨x0, x1, x2, x3, x4⟩ := five (HF.out w2 hB2))
    | (go_at_call 27; refine (C3.out ho2 hB2).mono ?_; rintro e w3 ⟨A3, c3, rfl, ho3, hB3, hb3⟩; obtain ⟨x0, x1, x2, x3, x4⟩ := five (HF.out w3 hB3))
    | (go_at_call 29; refine (C4.out ho3 hB3).mono ?_; rintro e w4 ⟨A4, c4, rfl, ho4, hB4, hb4⟩; obtain ⟨x0, x1, x2, x3, x4⟩ := five (HF.out w4 hB4))
    | (go_at_call 31; refine (C5.out ho4 hB4).mono ?_; rintro e w5 ⟨A5, c5, rfl, ho5, hB5, hb5⟩)
    | fail)
  go_ret
  have hb := HZ.out.trans (hB5.mono HZ.out.size)
  exact ⟨A5, c5, rfl, own_of HZ.out.size ho5, hb, hb⟩
theorem encode10 : EncodeC10 := fun hM h hB => (encode_raw hM h).mono fun en w' ⟨A', c', h1, h2, h3, h4⟩ => ⟨A', c', h1, own_of hB.size h2, hB.trans (h3.mono hB.size), h4⟩
end Go.Proofs.Ytmekamgohonffaa

