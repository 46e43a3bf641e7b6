/- MachPutE AppKit MachGet RegsRef LockRef -/
import Derived.Test.YtlgpglhbbkikpaaGreatT00
import Derived.Test.YtlgpglhbbkikpaaGreatT01
import Derived.Test.YtlgpglhbbkikpaaGreatT09
import Derived.Test.YtlgpglhbbkikpaaGreatT10
import Derived.Deep.DrawnRows
import Derived.Deep.QuietTactic
import Derived.Deep.RegionHeld3
import Derived.Deep.DeepCutAuto
import Derived.Deep.RegionLaw
import Derived.Deep.RegionWith
namespace Go.Proofs.YtlgpglhbbkikpaaGreat
open Go.RowKit
set_option linter.unusedVariables false
theorem RdT.at_ {w : World} {e : TypeId} {A : Option Addr} {n k : Nat} {vs : List Value} {v : Value} (h : RdT w e A n vs) (hk : k < n) (hv : vs[k]? = some v) : ∃ b o, A = some ⟨b, o, none⟩ /\ w.cell? ⟨b, o + k, none⟩ = some v := by
 obtain ⟨g, o, cur, e1, hb, hc⟩ := h.2 (by omega)
 exact ⟨g, o, e1, (hb.cell _).trans ((hc k hk).trans hv)⟩
theorem iv_at {zs : List Int} {k : Nat} {z : Int} (h : zs[k]? = some z) : (iv zs)[k]? = some (.int .i64 z) := by unfold iv; rw [List.getElem?_map, h]; rfl
set_option maxHeartbeats 4000000 in
set_option maxRecDepth 100000 in
theorem putEntry_raw {w : World} {l : List Nat} {A : Option Addr} {n c B : Nat} {ca : CA} {e : En} {B' : Nat} (hl : l.length <= 10000) (hc : e.c.Fits) (h : Rd w B A n (bv l)) (h' : RdC w B' ca e.c) :
 Calls Tryz.prog 13 #[.slice A n c, entV ca e] w (GotIn w w (l ++ e.enc)) := by
 obtain rfl := h.length
 obtain ⟨wz, hwz⟩ : ∃ wz, w.alloc (.cells (entC ca e) 29) = wz := ⟨_, rfl⟩
 have hbz : Below w.heap.size w wz := by rw [<- hwz]; exact (Below.refl _ _).alloc lR _
 have hkz : Blk wz w.heap.size 29 (entC ca e) := by rw [<- hwz]; exact Blk.new _ _ _
 have HR := hD ((h.fit.below hbz).fit)
 have HC := hD ((h'.fit.below hbz).fit)
 have HZ := hD hbz
 obtain ⟨g, hg⟩ : ∃ g, w.heap.size = g := ⟨_, rfl⟩
 rw [hg] at hkz
 have HF : Hid (∀ wx, Below wz.heap.size wz wx -> Blk wx g 29 (entC ca e)) := hD (fun wx hb => hkz.below hb)
 have HW := hD hwz
 have HG := hD hg
 obtain ⟨zs, hzs⟩ : ∃ zs : List Int, [e.s, e.q, e.c.kind, e.c.who] = zs := ⟨_, rfl⟩
 obtain ⟨qs, hqs⟩ : ∃ qs : List (List Nat), [e.c.key, e.c.val, e.c.old] = qs := ⟨_, rfl⟩
 have hz4 : zs.length = 4 := by rw [<- hzs]; rfl
 have hq3 : qs.length = 3 := by rw [<- hqs]; rfl
 have hq100 : ∀ x ∈ qs, x.length <= 100 := by
  rw [<- hqs]
  intro x hx
  simp only [List.mem_cons, List.not_mem_nil, or_false] at hx
  rcases hx with rfl | rfl | rfl
  · exact hc.key.1
  · exact hc.val.1
  · exact hc.old.1
 have hcells : Cells wz wz.heap.size [.slice ca.Ak e.c.key.length ca.ck, .slice ca.Av e.c.val.length ca.cv, .slice ca.Ao e.c.old.length ca.co] qs := by
  rw [<- hqs]
  refine ⟨rfl, fun i x hx => ?_⟩
  match i, hx with
  | 0, hx => simp at hx; subst hx; exact ⟨_, _, rfl, HC.out.rk⟩
  | 1, hx => simp at hx; subst hx; exact ⟨_, _, rfl, HC.out.rv⟩
  | 2, hx => simp at hx; subst hx; exact ⟨_, _, rfl, HC.out.ro⟩
  | i + 3, hx => simp at hx
 have hivz : iv zs = [.int .i64 e.s, .int .i64 e.q, .int .i64 e.c.kind, .int .i64 e.c.who] := by rw [<- hzs]; rfl
 have hEND : l ++ e.enc = (l ++ Pk.encs zs) ++ encQ qs := by
  rw [<- hzs, <- hqs]; unfold En.enc encQ; simp [Pk.encs, List.append_assoc]
 have hqb : ∀ k, (encQ (qs.take k)).length <= 400 := by
  have hgen : ∀ ys : List (List Nat), (∀ x ∈ ys, x.length <= 100) -> (encQ ys).length <= 109 * ys.length := by
   intro ys
   induction ys with
   | nil => intro _; simp [encQ]
   | cons y ys ih =>
     intro hy
     have h1 := ih fun z hz => hy z (List.mem_cons_of_mem _ hz)
     have h2 := hy y (by simp)
     have h3 := encB_length y
     unfold encQ at h1 |-
     rw [List.flatMap_cons, List.length_append, List.length_cons]; omega
  intro k
  have h1 := hgen (qs.take k) (fun x hx => hq100 x (List.mem_of_mem_take hx))
  have h2 : (qs.take k).length <= 3 := by rw [List.length_take]; omega
  omega
 rw [hEND]
 have HQ := hD hq100
 have HQB := hD hqb
 have HCL := hD hcells
 have HIV := hD hivz
 clear hzs hqs hq100 hcells hEND hqb hivz h h' hbz hkz hwz hg
 unfold entV entC
 unfold entC at HW HF
 go_enter Tryz.func13, Tryz.ntmps13
 go_upto_region 1 with fail
 rw [HG.out, HW.out]
 go_upto_region 2 with (first
  | (go_at_call 40; refine (clone_any (W := wz) (by unfold Lim; omega) HR.out (Below.refl _ _)).mono ?_; rintro en w1 ⟨A1, c1, rfl, ho1, hB1, hb1⟩; obtain ⟨x0, x1, x2, x3, x4, x5, x6⟩ := seven (HF.out w1 hB1))
  | fail)
 go_wp2_with fail
 have bb : Below w1.heap.size w1 (w1.alloc (.cells #[.int .i64 e.s, .int .i64 e.q, .int .i64 e.c.kind, .int .i64 e.c.who] 3)) := (Below.refl _ _).alloc lR _
 have hrow : RdT (w1.alloc (.cells #[.int .i64 e.s, .int .i64 e.q, .int .i64 e.c.kind, .int .i64 e.c.who] 3)) 3 (some ⟨w1.heap.size, 0, none⟩) 4 (iv zs) :=
  ⟨by rw [iv_length, hz4], fun _ => ⟨_, 0, _, rfl, Blk.new _ _ _, fun i hi => by rw [HIV.out]; simp⟩⟩
 have HO1 := hD (own_below ho1 bb)
 have HB1 := hD (hB1.trans (bb.mono hB1.size))
 obtain ⟨P, hP⟩ : ∃ P : Option Addr, some ⟨w1.heap.size, 0, none⟩ = P := ⟨_, rfl⟩
 rw [hP] at hrow
 rw [hP]
 have HROW := hD hrow
 clear hP hrow ho1 hB1 hb1 x0 x1 x2 x3 x4 x5 x6
 generalize w1.alloc (.cells #[.int .i64 e.s, .int .i64 e.q, .int .i64 e.c.kind, .int .i64 e.c.who] 3) = wb at HO1 HB1 HROW bb |-
 clear bb
 go_loopw [5, 7, 24] (fun s5 s7 s24 wr => ∃ (k : Nat) (A2 : Option Addr) (c2 : Nat) (L : List Nat), k <= 4 /\ s24 = .int .i64 (k : Int) /\ s5 = .slice A2 L.length c2 /\ Hid (L = l ++ Pk.encs (zs.take k)) /\ Hid (OwnB wz wr A2 L.length c2 L) /\ Hid (Below wz.heap.size wz wr) /\ Hid (RdT wr 3 P 4 (iv zs))) (fun _ _ s24 _ => 4 - (intOf s24).toNat)
 case atStart => exact ⟨0, A1, c1, l, Nat.zero_le _, rfl, rfl, hD (by simp [Pk.encs]), HO1, HB1, HROW⟩
 case round =>
  obtain ⟨k, A2, c2, L, hk, rfl, rfl, HL, HO, HB, HT⟩ := hrel
  by_cases hlt : k < 4
  · obtain ⟨z, hz⟩ : ∃ z, zs[k]? = some z := ⟨_, List.getElem?_eq_getElem (by omega)⟩
    obtain ⟨b, o, rfl, y0⟩ := HT.out.at_ hlt (iv_at hz)
    have hLL : L.length <= 1000000 := by
     have h1 := Pk.encs_length (zs.take k)
     have h2 : (zs.take k).length <= 4 := by rw [List.length_take]; omega
     rw [HL.out, List.length_append]; omega
    have HP := hD hz
    have HCN := hD (putNum_any (W := wz) z hLL HO.out HB.out)
    obtain ⟨L', eL⟩ : ∃ y, L ++ Pk.enc (Pk.held z) = y := ⟨_, rfl⟩
    rw [eL] at HCN
    have HEL := hD eL
    clear eL hz
    go_wp2_with (first
     | (go_at_call 41; refine HCN.out.mono ?_; rintro en w4 ⟨A5, c5, rfl, ho5, hB5, hb5⟩)
     | fail)
    go_roundw
    case rel =>
     refine ⟨k + 1, A5, c5, L', by omega, by go_num, rfl, hD ?_, hD ho5, hD hB5, hD (HT.out.onlyB hb5 (by decide))⟩
     rw [<- HEL.out, HL.out, take_snoc HP.out, Pk.encs_snoc]
     simp only [List.append_assoc]
    case measure => simp only [intOf]; omega
  · have hL4 : L = l ++ Pk.encs zs := by rw [HL.out, List.take_of_length_le (by omega)]
    obtain ⟨l0, e0⟩ : ∃ x, l ++ Pk.encs zs = x := ⟨_, rfl⟩
    have hl0 : l0.length <= 20000 := by
     have h1 := Pk.encs_length zs
     rw [<- e0, List.length_append]; omega
    rw [e0] at hL4
    have HE0 := hD e0
    clear HL
    subst L
    have HLL := hD hl0
    obtain ⟨x0, x1, x2, x3, x4, x5, x6⟩ := seven (HF.out wr HB.out)
    clear e0 hl0
    go_wp2_with fail
    have bb : Below wr.heap.size wr (wr.alloc (.cells #[.slice ca.Ak e.c.key.length ca.ck, .slice ca.Av e.c.val.length ca.cv, .slice ca.Ao e.c.old.length ca.co] 24)) := (Below.refl _ _).alloc lR _
    have hrow : RdT (wr.alloc (.cells #[.slice ca.Ak e.c.key.length ca.ck, .slice ca.Av e.c.val.length ca.cv, .slice ca.Ao e.c.old.length ca.co] 24)) 24 (some ⟨wr.heap.size, 0, none⟩) 3 [.slice ca.Ak e.c.key.length ca.ck, .slice ca.Av e.c.val.length ca.cv, .slice ca.Ao e.c.old.length ca.co] :=
     ⟨rfl, fun _ => ⟨_, 0, _, rfl, Blk.new _ _ _, fun i hi => by simp⟩⟩
    have HO1 := hD (own_below HO.out bb)
    have HB1 := hD (HB.out.trans (bb.mono HB.out.size))
    obtain ⟨P2, hP⟩ : ∃ P2 : Option Addr, some ⟨wr.heap.size, 0, none⟩ = P2 := ⟨_, rfl⟩
    rw [hP] at hrow
    rw [hP]
    have HROW2 := hD hrow
    clear hP hrow x0 x1 x2 x3 x4 x5 x6
    generalize wr.alloc (.cells #[.slice ca.Ak e.c.key.length ca.ck, .slice ca.Av e.c.val.length ca.cv, .slice ca.Ao e.c.old.length ca.co] 24) = wc at HO1 HB1 HROW2 bb |-
    clear bb
    go_loopw [5, 9, 43] (fun s5 s9 s43 wr => ∃ (k : Nat) (A2 : Option Addr) (c2 : Nat) (L : List Nat), k <= 3 /\ s43 = .int .i64 (k : Int) /\ s5 = .slice A2 L.length c2 /\ Hid (L = l0 ++ encQ (qs.take k)) /\ Hid (OwnB wz wr A2 L.length c2 L) /\ Hid (Below wz.heap.size wz wr) /\ Hid (RdT wr 24 P2 3 [.slice ca.Ak e.c.key.length ca.ck, .slice ca.Av e.c.val.length ca.cv, .slice ca.Ao e.c.old.length ca.co])) (fun _ _ s43 _ => 3 - (intOf s43).toNat)
    case atStart => exact ⟨0, A2, c2, l0, Nat.zero_le _, rfl, rfl, hD (by simp [encQ]), HO1, HB1, HROW2⟩
    case round =>
     clear HO1 HB1 HROW2 HO HB HT
     obtain ⟨k, A2, c2, L, hk, rfl, rfl, HL, HO, HB, HT⟩ := hrel
     by_cases hlt : k < 3
     · obtain ⟨x, hx⟩ : ∃ x, qs[k]? = some x := ⟨_, List.getElem?_eq_getElem (by omega)⟩
       obtain ⟨A3, c3, hv, hrd⟩ := HCL.out.cell k x hx
       obtain ⟨b, o, rfl, y0⟩ := HT.out.at_ hlt hv
       have hLL : L.length <= 1000000 := by
        have h1 := HQB.out k
        have h2 := HLL.out
        rw [HL.out, List.length_append]; omega
       have HP := hD hx
       have HCN := hD (putBytes_any (W := wz) (c' := c3) hLL (Nat.le_trans (HQ.out x (List.mem_of_getElem? hx)) (by omega)) HO.out hrd HB.out)
       obtain ⟨L', eL⟩ : ∃ y, L ++ Pk.encB x = y := ⟨_, rfl⟩
       rw [eL] at HCN
       have HEL := hD eL
       clear eL hx hv hrd
       go_wp2_with (first
        | (go_at_call 42; refine HCN.out.mono ?_; rintro en w4 ⟨A5, c5, rfl, ho5, hB5, hb5⟩)
        | fail)
       go_roundw
       case rel =>
        refine ⟨k + 1, A5, c5, L', by omega, by go_num, rfl, hD ?_, hD ho5, hD hB5, hD (HT.out.onlyB hb5 (by decide))⟩
        rw [<- HEL.out, HL.out, take_snoc HP.out, encQ_snoc]
        simp only [List.append_assoc]
       case measure => simp only [intOf]; omega
     · obtain rfl : k = 3 := by omega
       go_wp2_with fail
       go_ret
       have hL3 : L = l0 ++ encQ qs := by rw [HL.out, List.take_of_length_le (by omega)]
       have hb := HZ.out.trans (HB.out.mono HZ.out.size)
       rw [HE0.out, <- hL3]
       exact ⟨A2, c2, rfl, own_of HZ.out.size HO.out, hb, hb⟩
theorem putEntry_any {W w : World} {l : List Nat} {A : Option Addr} {n c B : Nat} {ca : CA} {e : En} {B' : Nat} (hl : l.length <= 10000) (hc : e.c.Fits) (h : Rd w B A n (bv l)) (h' : RdC w B' ca e.c) (hB : Below W.heap.size W w) :
 Calls Tryz.prog 13 #[.slice A n c, entV ca e] w (GotIn W w (l ++ e.enc)) :=
 (putEntry_raw hl hc h h').mono fun en w' ⟨A', c', h1, h2, h3, h4⟩ => ⟨A', c', h1, own_of hB.size h2, hB.trans (h3.mono hB.size), h4⟩
section
variable {P : Program} {t e : TypeId} {z : Value} {bytes size : Nat} {w : World}
theorem wp_append_at (base : Nat) (hb0 : base <= w.heap.size) (hT : CellT P t e z bytes) {o : Oper} {a : Act} {next : Act -> World -> Prop} {Q : Exit -> Act -> World -> Prop} (s x : Operand)
 (ho : o.op = .call { callee := .builtin .append, args := #[s, x], argTypes := #[t, t] })
 {A : Option Addr} {n c : Nat} {vs : List Value} (hs : a.eval s = .slice A n c) (hown : w.ownsRow base e 1 (.slice A n c) n vs)
 {B : Nat} {A' : Option Addr} {m c' : Nat} {ws : List Value} (hx : a.eval x = .slice A' m c') (hr : Rd w B A' m ws) (h1 : ∀ u ∈ ws, u.oneCell' = true) (hnm : n + m <= 1099511627776) (hby : bytes <= 64)
 (h : ∀ A2 c2 w2, w2.ownsRow base e 1 (.slice A2 (n + m) c2) (n + m) (vs ++ ws) -> w.grownBy w2 (Value.slice A n c).ownBlock -> next (a.put o.dst (.slice A2 (n + m) c2)) w2) : o.wp P a w next Q := by
 obtain ⟨i, hi, hz, hsz, hbi⟩ := info_parts hT.info
 obtain ⟨v', w', hrun, h2, h3, h4⟩ := run_append_rd (P := P) w base t o.type e i z bytes hT.under hi hz hsz hbi hT.one _ n vs hown B A' m c' ws hr h1
  (by unfold maxLen; omega) (by have := Nat.mul_le_mul hnm hby; omega) hb0
 obtain ⟨A2, c2, rfl, hr2⟩ := Rd.of_own h2
 have hgo := h A2 c2 w' h2 h3
 unfold Oper.wp execOp
 simp only [ho, resolve, invoke, builtin, Sem.run_bind, Sem.run_pure, Result.andThen_ok, List.map_toArray, List.map_cons, List.map_nil, hs, hx, hrun]
 exact hgo
theorem wp_append_atS (base : Nat) (hb0 : base <= w.heap.size) (hT : CellS P t e z size bytes) {o : Oper} {a : Act} {next : Act -> World -> Prop} {Q : Exit -> Act -> World -> Prop} (s x : Operand)
 (ho : o.op = .call { callee := .builtin .append, args := #[s, x], argTypes := #[t, t] })
 {A : Option Addr} {n c : Nat} {vs : List Value} (hs : a.eval s = .slice A n c) (hown : w.ownsRow base e size (.slice A n c) n vs)
 {B : Nat} {A' : Option Addr} {m c' : Nat} {ws : List Value} (hx : a.eval x = .slice A' m c') (hr : Rd w B A' (m * size) ws) (h1 : ∀ u ∈ ws, u.oneCell' = true) (hnm : n + m <= 1099511627776) (hby : bytes <= 100)
 (h : ∀ A2 c2 w2, w2.ownsRow base e size (.slice A2 (n + m) c2) (n + m) (vs ++ ws) -> w.grownBy w2 (Value.slice A n c).ownBlock -> next (a.put o.dst (.slice A2 (n + m) c2)) w2) : o.wp P a w next Q := by
 obtain ⟨i, hi, hz, hsz, hbi⟩ := info_parts hT.info
 obtain ⟨v', w', hrun, h2, h3, h4⟩ := run_append_rdS (P := P) w base t o.type e i z size bytes hT.under hi hz hsz hbi hT.one hT.pos _ n vs hown B A' m c' ws hr h1
  (by unfold maxLen; omega) (by have := Nat.mul_le_mul hnm hby; omega) hb0
 obtain ⟨A2, c2, rfl, hr2⟩ := Rd.of_ownS h2 hT.pos
 have hgo := h A2 c2 w' h2 h3
 unfold Oper.wp execOp
 simp only [ho, resolve, invoke, builtin, Sem.run_bind, Sem.run_pure, Result.andThen_ok, List.map_toArray, List.map_cons, List.map_nil, hs, hx, hrun]
 exact hgo
theorem step_append_at (base : Nat) (hb0 : base <= w.heap.size) (hT : CellT P t e z bytes) {ops : Array Oper} {o : Oper} {a : Act} {K : Act -> World -> Prop} {Q : Exit -> Act -> World -> Prop} {E : Prop} (s x : Operand)
 (ho : o.op = .call { callee := .builtin .append, args := #[s, x], argTypes := #[t, t] }) (hg : o.guard = none)
 {A : Option Addr} {n c : Nat} {vs : List Value} (hs : a.eval s = .slice A n c) (hown : w.ownsRow base e 1 (.slice A n c) n vs)
 {B : Nat} {A' : Option Addr} {m c' : Nat} {ws : List Value} (hx : a.eval x = .slice A' m c') (hr : Rd w B A' m ws) (h1 : ∀ u ∈ ws, u.oneCell' = true) (hnm : n + m <= 1099511627776) (hby : bytes <= 64)
 (h : ∀ A2 c2 w2, w2.ownsRow base e 1 (.slice A2 (n + m) c2) (n + m) (vs ++ ws) -> w.grownBy w2 (Value.slice A n c).ownBlock -> K (a.put o.dst (.slice A2 (n + m) c2)) w2) :
 if Region.wanted o (yielded ops a.tmps) = true then Oper.wp P o a w K Q else E := by
 have hw : Region.wanted o (yielded ops a.tmps) = true := by simp [Region.wanted, hg]
 rw [if_pos hw]
 exact wp_append_at base hb0 hT s x ho hs hown hx hr h1 hnm hby h
theorem wpList_append_at (base : Nat) (hb0 : base <= w.heap.size) (hT : CellT P t e z bytes) {ops : Array Oper} {rest : List Oper} {o : Oper} {a : Act} {Q : Exit -> Act -> World -> Prop} (s x : Operand)
 (ho : o.op = .call { callee := .builtin .append, args := #[s, x], argTypes := #[t, t] }) (hw : Region.wanted o (yielded ops a.tmps) = true)
 {A : Option Addr} {n c : Nat} {vs : List Value} (hs : a.eval s = .slice A n c) (hown : w.ownsRow base e 1 (.slice A n c) n vs)
 {B : Nat} {A' : Option Addr} {m c' : Nat} {ws : List Value} (hx : a.eval x = .slice A' m c') (hr : Rd w B A' m ws) (h1 : ∀ u ∈ ws, u.oneCell' = true) (hnm : n + m <= 1099511627776) (hby : bytes <= 64)
 (h : ∀ A2 c2 w2, w2.ownsRow base e 1 (.slice A2 (n + m) c2) (n + m) (vs ++ ws) -> w.grownBy w2 (Value.slice A n c).ownBlock -> wpList P ops Q rest (a.put o.dst (.slice A2 (n + m) c2)) w2) :
 wpList P ops Q (o :: rest) a w := by
 unfold wpList
 rw [if_pos hw]
 exact .inl (wp_append_at base hb0 hT s x ho hs hown hx hr h1 hnm hby h)
theorem wpList_append_atS (base : Nat) (hb0 : base <= w.heap.size) (hT : CellS P t e z size bytes) {ops : Array Oper} {rest : List Oper} {o : Oper} {a : Act} {Q : Exit -> Act -> World -> Prop} (s x : Operand)
 (ho : o.op = .call { callee := .builtin .append, args := #[s, x], argTypes := #[t, t] }) (hw : Region.wanted o (yielded ops a.tmps) = true)
 {A : Option Addr} {n c : Nat} {vs : List Value} (hs : a.eval s = .slice A n c) (hown : w.ownsRow base e size (.slice A n c) n vs)
 {B : Nat} {A' : Option Addr} {m c' : Nat} {ws : List Value} (hx : a.eval x = .slice A' m c') (hr : Rd w B A' (m * size) ws) (h1 : ∀ u ∈ ws, u.oneCell' = true) (hnm : n + m <= 1099511627776) (hby : bytes <= 100)
 (h : ∀ A2 c2 w2, w2.ownsRow base e size (.slice A2 (n + m) c2) (n + m) (vs ++ ws) -> w.grownBy w2 (Value.slice A n c).ownBlock -> wpList P ops Q rest (a.put o.dst (.slice A2 (n + m) c2)) w2) :
 wpList P ops Q (o :: rest) a w := by
 unfold wpList
 rw [if_pos hw]
 exact .inl (wp_append_atS base hb0 hT s x ho hs hown hx hr h1 hnm hby h)
end
structure RgSt (w wx : World) (b : Nat) (s : Pk.St) : Prop where
 r : RdrAt wx b s
 only : Only b w wx
section
variable {w wx wy : World} {b g i : Nat} {s s' : Pk.St} {t e : TypeId} {cs : Array Value} {u : Value}
theorem RgSt.size (h : RgSt w wx b s) : w.heap.size <= wx.heap.size := h.only.size
theorem RgSt.call (h : RgSt w wx b s) (hr : RdrAt wy b s') (ho : Only b wx wy) : RgSt w wy b s' := ⟨hr, only_trans h.only ho⟩
theorem RgSt.below (h : RgSt w wx b s) (hb : Below wx.heap.size wx wy) : RgSt w wy b s := ⟨h.r.below hb, only_below h.only hb h.size⟩
theorem RgSt.set (h : RgSt w wx b s) (hk : Blk wx g t cs) (h1 : 5 ≠ t) (h2 : 76 ≠ t) (hg : w.heap.size <= g) : RgSt w (wx.setCell ⟨g, i, none⟩ u) b s := by
 obtain ⟨A, n, c, hb, q1, q2, q3, q4, q5⟩ := h.r
 exact ⟨⟨A, n, c, hb.set_other (hb.apart hk h2), q1, q2, q3, q4.grown (only_set (only_refl g wx) i u) hk h1, q5⟩, only_below h.only ((Below.refl w.heap.size wx).setCell (p := ⟨g, i, none⟩) hg u) lR⟩
theorem RgSt.row {A : Option Addr} {n c size : Nat} {xs : List Value} (h : RgSt w wx b s) (ho : wx.ownsRow w.heap.size e size (.slice A n c) n xs) (h1 : 5 ≠ e) (h2 : 76 ≠ e) (hg : wx.grownBy wy (Value.slice A n c).ownBlock) : RgSt w wy b s := by
 obtain ⟨A', n', c', hb, q1, q2, q3, q4, q5⟩ := h.r
 exact ⟨⟨A', n', c', hb.apart_own ho h2 hg, q1, q2, q3, q4.kept ho h1 hg, q5⟩, only_below h.only ((Below.refl w.heap.size wx).grown hg h.size (fun k hk => (ho.lt k hk).1)) lR⟩
end
theorem getVal_any (w : World) (b : Nat) (s : Pk.St) (h : RdrAt w b s) {v : List Nat} {s' : Pk.St} (hv : Pk.bytV s 16 = v) (hs : Pk.bytS s 16 = s') :
 Calls Tryz.prog 47 #[.pointer (some ⟨b, 0, none⟩)] w fun e w' => ∃ A c, e = .returned (.slice A v.length c) /\ OwnB w w' A v.length c v /\ RdrAt w' b s' /\ Only b w w' := by
 have HC := hD (rbytes_is w b s 16 h v s' hv hs)
 clear h hv hs
 go_enter Tryz.func47, Tryz.ntmps47
 go_wp2_with (first
  | (go_at_call 44; refine HC.out.mono ?_; rintro e w1 ⟨A1, n1, c1, rfl, ho1, hr1, hb1⟩; obtain rfl := own_len ho1)
  | fail)
 go_ret
 exact ⟨A1, c1, rfl, ho1, hr1, hb1⟩
theorem getWho_any (w : World) (b : Nat) (s : Pk.St) (h : RdrAt w b s) {v : Nat} {s' : Pk.St} (hv : Pk.numV s 999 = v) (hs : Pk.numS s 999 = s') :
 Calls Tryz.prog 50 #[.pointer (some ⟨b, 0, none⟩)] w (NumP w b v s') := by
 have HC := hD (rnum_is w b s 999 h v s' hv hs)
 clear h hv hs
 go_enter Tryz.func50, Tryz.ntmps50
 go_wp2_with (first
  | (go_at_call 43; refine HC.out.mono ?_; rintro e w1 ⟨rfl, hr1, hb1⟩)
  | fail)
 go_ret
 exact ⟨rfl, hr1, hb1⟩
set_option maxHeartbeats 4000000 in
set_option maxRecDepth 100000 in
theorem getPair_any (w : World) (b : Nat) (s : Pk.St) (h : RdrAt w b s) :
 Calls Tryz.prog 52 #[.pointer (some ⟨b, 0, none⟩)] w fun en w' => ∃ A1 c1 A2 c2, en = .returned (.agg #[.slice A1 (getP1 s).1.1.length c1, .slice A2 (getP1 s).1.2.length c2]) /\ OwnB w w' A1 (getP1 s).1.1.length c1 (getP1 s).1.1 /\ OwnB w w' A2 (getP1 s).1.2.length c2 (getP1 s).1.2 /\ RdrAt w' b (getP1 s).2 /\ Only b w w' := by
 have hbl := h.lt
 have HBL := hD hbl
 have h0 : RgSt w w b s := ⟨h, only_refl b w⟩
 obtain ⟨s0, es⟩ : ∃ x, s = x := ⟨_, rfl⟩
 obtain ⟨v0, d0⟩ : ∃ x, Pk.bytV s0 8 = x := ⟨_, rfl⟩
 obtain ⟨s1, e0⟩ : ∃ x, Pk.bytS s0 8 = x := ⟨_, rfl⟩
 obtain ⟨v1, d1⟩ : ∃ x, Pk.bytV s1 16 = x := ⟨_, rfl⟩
 obtain ⟨s2, e1⟩ : ∃ x, Pk.bytS s1 16 = x := ⟨_, rfl⟩
 have HRES : Hid (getP1 s0 = ((v0, v1), s2)) := hD (by unfold getP1; rw [d0, e0, d1, e1])
 subst es
 have C0 := hD (fun w h => rbytes_is w b _ 8 h _ _ d0 e0)
 have C1 := hD (fun w h => getVal_any w b _ h d1 e1)
 clear d0 e0 d1 e1
 have bb : Below w.heap.size w ((w.alloc (.cells #[.slice none 0 0, .slice none 0 0] 81)).alloc (.cells #[.slice none 0 0, .slice none 0 0] 81)) := ((Below.refl _ _).alloc lR _).alloc (by simp) _
 have HR0 := hD (h0.below bb)
 have HK2 := hD ((Blk.new w 81 #[.slice none 0 0, .slice none 0 0]).alloc (.cells #[.slice none 0 0, .slice none 0 0] 81))
 have HK3 := hD (Blk.new (w.alloc (.cells #[.slice none 0 0, .slice none 0 0] 81)) 81 #[.slice none 0 0, .slice none 0 0])
 rw [World.size_alloc] at HK3
 have hne : w.heap.size ≠ b := by omega
 have hne3 : w.heap.size + 1 ≠ b := by omega
 clear h h0 bb
 go_enter Tryz.func52, Tryz.ntmps52
 go_upto_region 2 with fail
 generalize (w.alloc (.cells #[.slice none 0 0, .slice none 0 0] 81)).alloc (.cells #[.slice none 0 0, .slice none 0 0] 81) = wx0 at HR0 HK2 HK3 |-
 go_upto_region 3 with (first
  | (go_at_call 44; refine (C0.out _ HR0.out.r).mono ?_; rintro en w1 ⟨A0, n0, c0, rfl, hv, hr, ho⟩; obtain rfl := own_len hv
     have HRC := hD (HR0.out.call hr ho)
     have HK2 := hD (HK2.out.grown ho (by simpa using hne))
     have HK3 := hD (HK3.out.grown ho (by simpa using hne3))
     have HV0 := hD (own_of HR0.out.size hv)
     have x0 := HK3.out.cell 0
     have f0 := HK3.out.frozen 0
     have x1 := HK3.out.cell 1
     have f1 := HK3.out.frozen 1
     clear hr ho C0 hv)
  | fail)
 have HR1 : Hid (RgSt w (w1.setCell ⟨w.heap.size + 1, 0, none⟩ (.slice A0 v0.length c0)) b s1) := hD (HRC.out.set HK3.out (by decide) (by decide) (by omega))
 have HK2 := hD (HK2.out.set_other (i := 0) (u := .slice A0 v0.length c0) (b := w.heap.size + 1) (by omega))
 have HV0 : Hid (OwnB w (w1.setCell ⟨w.heap.size + 1, 0, none⟩ (.slice A0 v0.length c0)) A0 v0.length c0 v0) := hD (own_set_t HV0.out HK3.out (by decide))
 have HK3 : Hid (Blk (w1.setCell ⟨w.heap.size + 1, 0, none⟩ (.slice A0 v0.length c0)) (w.heap.size + 1) 81 #[.slice A0 v0.length c0, .slice none 0 0]) := hD (HK3.out.set_ 0 (.slice A0 v0.length c0))
 clear HRC x0 f0 x1 f1
 generalize w1.setCell ⟨w.heap.size + 1, 0, none⟩ (.slice A0 v0.length c0) = wx1 at HR1 HK2 HK3 HV0 |-
 go_upto_region 4 with (first
  | (go_at_call 47; refine (C1.out _ HR1.out.r).mono ?_; rintro en w2 ⟨A1, c1, rfl, hv, hr, ho⟩
     have HRC := hD (HR1.out.call hr ho)
     have HK2 := hD (HK2.out.grown ho (by simpa using hne))
     have HK3 := hD (HK3.out.grown ho (by simpa using hne3))
     have HV0 := hD (own_read HV0.out ho HBL.out)
     have HV1 := hD (own_of HR1.out.size hv)
     have x0 := HK3.out.cell 0
     have f0 := HK3.out.frozen 0
     have x1 := HK3.out.cell 1
     have f1 := HK3.out.frozen 1
     clear hr ho C1 hv)
  | fail)
 have HR2 : Hid (RgSt w (w2.setCell ⟨w.heap.size + 1, 1, none⟩ (.slice A1 v1.length c1)) b s2) := hD (HRC.out.set HK3.out (by decide) (by decide) (by omega))
 have HK2 := hD (HK2.out.set_other (i := 1) (u := .slice A1 v1.length c1) (b := w.heap.size + 1) (by omega))
 have HV0 : Hid (OwnB w (w2.setCell ⟨w.heap.size + 1, 1, none⟩ (.slice A1 v1.length c1)) A0 v0.length c0 v0) := hD (own_set_t HV0.out HK3.out (by decide))
 have HV1 : Hid (OwnB w (w2.setCell ⟨w.heap.size + 1, 1, none⟩ (.slice A1 v1.length c1)) A1 v1.length c1 v1) := hD (own_set_t HV1.out HK3.out (by decide))
 have HK3 : Hid (Blk (w2.setCell ⟨w.heap.size + 1, 1, none⟩ (.slice A1 v1.length c1)) (w.heap.size + 1) 81 #[.slice A0 v0.length c0, .slice A1 v1.length c1]) := hD (HK3.out.set_ 1 (.slice A1 v1.length c1))
 clear HRC x0 f0 x1 f1
 generalize w2.setCell ⟨w.heap.size + 1, 1, none⟩ (.slice A1 v1.length c1) = wx2 at HR2 HK2 HK3 HV0 HV1 |-
 have HRN := HR2
 have x0 := HK2.out.cell 0
 have f0 := HK2.out.frozen 0
 have y0 := HK3.out.cell 0
 have x1 := HK2.out.cell 1
 have f1 := HK2.out.frozen 1
 have y1 := HK3.out.cell 1
 go_wp2_with fail
 have q0 := HK2.out
 have q1 := q0.set_ 0 (.slice A0 v0.length c0)
 have q2 := q1.set_ 1 (.slice A1 v1.length c1)
 refine bodyPost_ret (results_cell_row rfl _ _ _ _ _ _ _ rfl q2 Tryz.underlying81 rfl (by kernel_rfl)) rfl ?_
 have hrg := ((HRN.out).set (i := 0) (u := .slice A0 v0.length c0) q0 (by decide) (by decide) lR).set (i := 1) (u := .slice A1 v1.length c1) q1 (by decide) (by decide) lR
 rw [HRES.out]
 exact ⟨A0, c0, A1, c1, rfl, own_set_t (own_set_t (HV0.out) q0 (by decide)) q1 (by decide), own_set_t (own_set_t (HV1.out) q0 (by decide)) q1 (by decide), hrg.r, hrg.only⟩
set_option maxHeartbeats 4000000 in
set_option maxRecDepth 100000 in
theorem getLast_any (w : World) (b : Nat) (s : Pk.St) (h : RdrAt w b s) :
 Calls Tryz.prog 54 #[.pointer (some ⟨b, 0, none⟩)] w fun en w' => ∃ A c, en = .returned (.agg #[.int .i64 (getT1 s).1.s, .int .i64 (getT1 s).1.q, .int .i64 (getT1 s).1.e, .slice A (getT1 s).1.v.length c, .int .i64 (getT1 s).1.n]) /\ OwnB w w' A (getT1 s).1.v.length c (getT1 s).1.v /\ RdrAt w' b (getT1 s).2 /\ Only b w w' := by
 have hbl := h.lt
 have HBL := hD hbl
 have h0 : RgSt w w b s := ⟨h, only_refl b w⟩
 obtain ⟨s0, es⟩ : ∃ x, s = x := ⟨_, rfl⟩
 obtain ⟨v0, d0⟩ : ∃ x, Pk.numV s0 1073741824 = x := ⟨_, rfl⟩
 obtain ⟨s1, e0⟩ : ∃ x, Pk.numS s0 1073741824 = x := ⟨_, rfl⟩
 obtain ⟨v1, d1⟩ : ∃ x, Pk.numV s1 1073741824 = x := ⟨_, rfl⟩
 obtain ⟨s2, e1⟩ : ∃ x, Pk.numS s1 1073741824 = x := ⟨_, rfl⟩
 obtain ⟨v2, d2⟩ : ∃ x, Pk.numV s2 10 = x := ⟨_, rfl⟩
 obtain ⟨s3, e2⟩ : ∃ x, Pk.numS s2 10 = x := ⟨_, rfl⟩
 obtain ⟨v3, d3⟩ : ∃ x, Pk.numV s3 1073741825 = x := ⟨_, rfl⟩
 obtain ⟨s4, e3⟩ : ∃ x, Pk.numS s3 1073741825 = x := ⟨_, rfl⟩
 obtain ⟨v4, d4⟩ : ∃ x, Pk.bytV s4 16 = x := ⟨_, rfl⟩
 obtain ⟨s5, e4⟩ : ∃ x, Pk.bytS s4 16 = x := ⟨_, rfl⟩
 have HRES : Hid (getT1 s0 = (⟨v0, v1, v2, v4, (v3 : Int) - 1⟩, s5)) := hD (by unfold getT1; simp only [e0, e1, e2, e3, e4, d0, d1, d2, d3, d4])
 have hv3 : (v3 : Int) <= 1073741825 := by rw [<- d3]; exact numV_le _ (by omega)
 have hw3 : IntKind.i64.wrap ((v3 : Int) - 1) = (v3 : Int) - 1 := IntWalk.i64_in _ (by omega)
 clear hv3
 subst es
 have C0 := hD (fun w h => rnum_is w b _ 1073741824 h _ _ d0 e0)
 have C1 := hD (fun w h => rnum_is w b _ 1073741824 h _ _ d1 e1)
 have C2 := hD (fun w h => rnum_is w b _ 10 h _ _ d2 e2)
 have C3 := hD (fun w h => rnum_is w b _ 1073741825 h _ _ d3 e3)
 have C4 := hD (fun w h => getVal_any w b _ h d4 e4)
 clear d0 e0 d1 e1 d2 e2 d3 e3 d4 e4
 have bb : Below w.heap.size w ((w.alloc (.cells #[.int .i64 0, .int .i64 0, .int .i64 0, .slice none 0 0, .int .i64 0] 71)).alloc (.cells #[.int .i64 0, .int .i64 0, .int .i64 0, .slice none 0 0, .int .i64 0] 71)) := ((Below.refl _ _).alloc lR _).alloc (by simp) _
 have HR0 := hD (h0.below bb)
 have HK2 := hD ((Blk.new w 71 #[.int .i64 0, .int .i64 0, .int .i64 0, .slice none 0 0, .int .i64 0]).alloc (.cells #[.int .i64 0, .int .i64 0, .int .i64 0, .slice none 0 0, .int .i64 0] 71))
 have HK3 := hD (Blk.new (w.alloc (.cells #[.int .i64 0, .int .i64 0, .int .i64 0, .slice none 0 0, .int .i64 0] 71)) 71 #[.int .i64 0, .int .i64 0, .int .i64 0, .slice none 0 0, .int .i64 0])
 rw [World.size_alloc] at HK3
 have hne : w.heap.size ≠ b := by omega
 have hne3 : w.heap.size + 1 ≠ b := by omega
 clear h h0 bb
 go_enter Tryz.func54, Tryz.ntmps54
 go_upto_region 2 with fail
 generalize (w.alloc (.cells #[.int .i64 0, .int .i64 0, .int .i64 0, .slice none 0 0, .int .i64 0] 71)).alloc (.cells #[.int .i64 0, .int .i64 0, .int .i64 0, .slice none 0 0, .int .i64 0] 71) = wx0 at HR0 HK2 HK3 |-
 go_upto_region 3 with (first
  | (go_at_call 43; refine (C0.out _ HR0.out.r).mono ?_; rintro en w1 ⟨rfl, hr, ho⟩
     have HRC := hD (HR0.out.call hr ho)
     have HK2 := hD (HK2.out.grown ho (by simpa using hne))
     have HK3 := hD (HK3.out.grown ho (by simpa using hne3))
     have x0 := HK3.out.cell 0
     have f0 := HK3.out.frozen 0
     have x1 := HK3.out.cell 1
     have f1 := HK3.out.frozen 1
     have x2 := HK3.out.cell 2
     have f2 := HK3.out.frozen 2
     have x3 := HK3.out.cell 3
     have f3 := HK3.out.frozen 3
     have x4 := HK3.out.cell 4
     have f4 := HK3.out.frozen 4
     clear hr ho C0)
  | fail)
 have HR1 : Hid (RgSt w (w1.setCell ⟨w.heap.size + 1, 0, none⟩ (.int .i64 (v0 : Int))) b s1) := hD (HRC.out.set HK3.out (by decide) (by decide) (by omega))
 have HK2 := hD (HK2.out.set_other (i := 0) (u := .int .i64 (v0 : Int)) (b := w.heap.size + 1) (by omega))
 have HK3 : Hid (Blk (w1.setCell ⟨w.heap.size + 1, 0, none⟩ (.int .i64 (v0 : Int))) (w.heap.size + 1) 71 #[.int .i64 (v0 : Int), .int .i64 0, .int .i64 0, .slice none 0 0, .int .i64 0]) := hD (HK3.out.set_ 0 (.int .i64 (v0 : Int)))
 clear HRC x0 f0 x1 f1 x2 f2 x3 f3 x4 f4
 generalize w1.setCell ⟨w.heap.size + 1, 0, none⟩ (.int .i64 (v0 : Int)) = wx1 at HR1 HK2 HK3  |-
 go_upto_region 4 with (first
  | (go_at_call 43; refine (C1.out _ HR1.out.r).mono ?_; rintro en w2 ⟨rfl, hr, ho⟩
     have HRC := hD (HR1.out.call hr ho)
     have HK2 := hD (HK2.out.grown ho (by simpa using hne))
     have HK3 := hD (HK3.out.grown ho (by simpa using hne3))
     have x0 := HK3.out.cell 0
     have f0 := HK3.out.frozen 0
     have x1 := HK3.out.cell 1
     have f1 := HK3.out.frozen 1
     have x2 := HK3.out.cell 2
     have f2 := HK3.out.frozen 2
     have x3 := HK3.out.cell 3
     have f3 := HK3.out.frozen 3
     have x4 := HK3.out.cell 4
     have f4 := HK3.out.frozen 4
     clear hr ho C1)
  | fail)
 have HR2 : Hid (RgSt w (w2.setCell ⟨w.heap.size + 1, 1, none⟩ (.int .i64 (v1 : Int))) b s2) := hD (HRC.out.set HK3.out (by decide) (by decide) (by omega))
 have HK2 := hD (HK2.out.set_other (i := 1) (u := .int .i64 (v1 : Int)) (b := w.heap.size + 1) (by omega))
 have HK3 : Hid (Blk (w2.setCell ⟨w.heap.size + 1, 1, none⟩ (.int .i64 (v1 : Int))) (w.heap.size + 1) 71 #[.int .i64 (v0 : Int), .int .i64 (v1 : Int), .int .i64 0, .slice none 0 0, .int .i64 0]) := hD (HK3.out.set_ 1 (.int .i64 (v1 : Int)))
 clear HRC x0 f0 x1 f1 x2 f2 x3 f3 x4 f4
 generalize w2.setCell ⟨w.heap.size + 1, 1, none⟩ (.int .i64 (v1 : Int)) = wx2 at HR2 HK2 HK3  |-
 go_upto_region 5 with (first
  | (go_at_call 43; refine (C2.out _ HR2.out.r).mono ?_; rintro en w3 ⟨rfl, hr, ho⟩
     have HRC := hD (HR2.out.call hr ho)
     have HK2 := hD (HK2.out.grown ho (by simpa using hne))
     have HK3 := hD (HK3.out.grown ho (by simpa using hne3))
     have x0 := HK3.out.cell 0
     have f0 := HK3.out.frozen 0
     have x1 := HK3.out.cell 1
     have f1 := HK3.out.frozen 1
     have x2 := HK3.out.cell 2
     have f2 := HK3.out.frozen 2
     have x3 := HK3.out.cell 3
     have f3 := HK3.out.frozen 3
     have x4 := HK3.out.cell 4
     have f4 := HK3.out.frozen 4
     clear hr ho C2)
  | fail)
 have HR3 : Hid (RgSt w (w3.setCell ⟨w.heap.size + 1, 2, none⟩ (.int .i64 (v2 : Int))) b s3) := hD (HRC.out.set HK3.out (by decide) (by decide) (by omega))
 have HK2 := hD (HK2.out.set_other (i := 2) (u := .int .i64 (v2 : Int)) (b := w.heap.size + 1) (by omega))
 have HK3 : Hid (Blk (w3.setCell ⟨w.heap.size + 1, 2, none⟩ (.int .i64 (v2 : Int))) (w.heap.size + 1) 71 #[.int .i64 (v0 : Int), .int .i64 (v1 : Int), .int .i64 (v2 : Int), .slice none 0 0, .int .i64 0]) := hD (HK3.out.set_ 2 (.int .i64 (v2 : Int)))
 clear HRC x0 f0 x1 f1 x2 f2 x3 f3 x4 f4
 generalize w3.setCell ⟨w.heap.size + 1, 2, none⟩ (.int .i64 (v2 : Int)) = wx3 at HR3 HK2 HK3  |-
 go_upto_region 6 with (first
  | (go_at_call 43; refine (C3.out _ HR3.out.r).mono ?_; rintro en w4 ⟨rfl, hr, ho⟩
     have HRC := hD (HR3.out.call hr ho)
     have HK2 := hD (HK2.out.grown ho (by simpa using hne))
     have HK3 := hD (HK3.out.grown ho (by simpa using hne3))
     have x0 := HK3.out.cell 0
     have f0 := HK3.out.frozen 0
     have x1 := HK3.out.cell 1
     have f1 := HK3.out.frozen 1
     have x2 := HK3.out.cell 2
     have f2 := HK3.out.frozen 2
     have x3 := HK3.out.cell 3
     have f3 := HK3.out.frozen 3
     have x4 := HK3.out.cell 4
     have f4 := HK3.out.frozen 4
     clear hr ho C3)
  | fail)
 have HR4 : Hid (RgSt w (w4.setCell ⟨w.heap.size + 1, 4, none⟩ (.int .i64 ((v3 : Int) - 1))) b s4) := hD (HRC.out.set HK3.out (by decide) (by decide) (by omega))
 have HK2 := hD (HK2.out.set_other (i := 4) (u := .int .i64 ((v3 : Int) - 1)) (b := w.heap.size + 1) (by omega))
 have HK3 : Hid (Blk (w4.setCell ⟨w.heap.size + 1, 4, none⟩ (.int .i64 ((v3 : Int) - 1))) (w.heap.size + 1) 71 #[.int .i64 (v0 : Int), .int .i64 (v1 : Int), .int .i64 (v2 : Int), .slice none 0 0, .int .i64 ((v3 : Int) - 1)]) := hD (HK3.out.set_ 4 (.int .i64 ((v3 : Int) - 1)))
 clear HRC x0 f0 x1 f1 x2 f2 x3 f3 x4 f4
 generalize w4.setCell ⟨w.heap.size + 1, 4, none⟩ (.int .i64 ((v3 : Int) - 1)) = wx4 at HR4 HK2 HK3  |-
 go_upto_region 7 with (first
  | (go_at_call 47; refine (C4.out _ HR4.out.r).mono ?_; rintro en w5 ⟨A4, c4, rfl, hv, hr, ho⟩
     have HRC := hD (HR4.out.call hr ho)
     have HK2 := hD (HK2.out.grown ho (by simpa using hne))
     have HK3 := hD (HK3.out.grown ho (by simpa using hne3))
     have HV4 := hD (own_of HR4.out.size hv)
     have x0 := HK3.out.cell 0
     have f0 := HK3.out.frozen 0
     have x1 := HK3.out.cell 1
     have f1 := HK3.out.frozen 1
     have x2 := HK3.out.cell 2
     have f2 := HK3.out.frozen 2
     have x3 := HK3.out.cell 3
     have f3 := HK3.out.frozen 3
     have x4 := HK3.out.cell 4
     have f4 := HK3.out.frozen 4
     clear hr ho C4 hv)
  | fail)
 have HR5 : Hid (RgSt w (w5.setCell ⟨w.heap.size + 1, 3, none⟩ (.slice A4 v4.length c4)) b s5) := hD (HRC.out.set HK3.out (by decide) (by decide) (by omega))
 have HK2 := hD (HK2.out.set_other (i := 3) (u := .slice A4 v4.length c4) (b := w.heap.size + 1) (by omega))
 have HV4 : Hid (OwnB w (w5.setCell ⟨w.heap.size + 1, 3, none⟩ (.slice A4 v4.length c4)) A4 v4.length c4 v4) := hD (own_set_t HV4.out HK3.out (by decide))
 have HK3 : Hid (Blk (w5.setCell ⟨w.heap.size + 1, 3, none⟩ (.slice A4 v4.length c4)) (w.heap.size + 1) 71 #[.int .i64 (v0 : Int), .int .i64 (v1 : Int), .int .i64 (v2 : Int), .slice A4 v4.length c4, .int .i64 ((v3 : Int) - 1)]) := hD (HK3.out.set_ 3 (.slice A4 v4.length c4))
 clear HRC x0 f0 x1 f1 x2 f2 x3 f3 x4 f4
 generalize w5.setCell ⟨w.heap.size + 1, 3, none⟩ (.slice A4 v4.length c4) = wx5 at HR5 HK2 HK3 HV4 |-
 have HRN := HR5
 have x0 := HK2.out.cell 0
 have f0 := HK2.out.frozen 0
 have y0 := HK3.out.cell 0
 have x1 := HK2.out.cell 1
 have f1 := HK2.out.frozen 1
 have y1 := HK3.out.cell 1
 have x2 := HK2.out.cell 2
 have f2 := HK2.out.frozen 2
 have y2 := HK3.out.cell 2
 have x3 := HK2.out.cell 3
 have f3 := HK2.out.frozen 3
 have y3 := HK3.out.cell 3
 have x4 := HK2.out.cell 4
 have f4 := HK2.out.frozen 4
 have y4 := HK3.out.cell 4
 go_wp2_with fail
 have q0 := HK2.out
 have q1 := q0.set_ 0 (.int .i64 (v0 : Int))
 have q2 := q1.set_ 1 (.int .i64 (v1 : Int))
 have q3 := q2.set_ 2 (.int .i64 (v2 : Int))
 have q4 := q3.set_ 3 (.slice A4 v4.length c4)
 have q5 := q4.set_ 4 (.int .i64 ((v3 : Int) - 1))
 refine bodyPost_ret (results_cell_row rfl _ _ _ _ _ _ _ rfl q5 Tryz.underlying71 rfl (by kernel_rfl)) rfl ?_
 have hrg := (((((HRN.out).set (i := 0) (u := .int .i64 (v0 : Int)) q0 (by decide) (by decide) lR).set (i := 1) (u := .int .i64 (v1 : Int)) q1 (by decide) (by decide) lR).set (i := 2) (u := .int .i64 (v2 : Int)) q2 (by decide) (by decide) lR).set (i := 3) (u := .slice A4 v4.length c4) q3 (by decide) (by decide) lR).set (i := 4) (u := .int .i64 ((v3 : Int) - 1)) q4 (by decide) (by decide) lR
 rw [HRES.out]
 exact ⟨A4, c4, rfl, own_set_t (own_set_t (own_set_t (own_set_t (own_set_t (HV4.out) q0 (by decide)) q1 (by decide)) q2 (by decide)) q3 (by decide)) q4 (by decide), hrg.r, hrg.only⟩
set_option maxHeartbeats 4000000 in
set_option maxRecDepth 100000 in
theorem getEntry_any (w : World) (b : Nat) (s : Pk.St) (h : RdrAt w b s) :
 Calls Tryz.prog 15 #[.pointer (some ⟨b, 0, none⟩)] w fun en w' => ∃ ca, en = .returned (entV ca (En.read s)) /\ OwnC w w' ca (En.read s).c /\ RdrAt w' b (En.get s).2 /\ Only b w w' := by
 have hbl := h.lt
 have HBL := hD hbl
 have h0 : RgSt w w b s := ⟨h, only_refl b w⟩
 obtain ⟨s0, es⟩ : ∃ x, s = x := ⟨_, rfl⟩
 obtain ⟨v0, d0⟩ : ∃ x, Pk.numV s0 1073741824 = x := ⟨_, rfl⟩
 obtain ⟨s1, e0⟩ : ∃ x, Pk.numS s0 1073741824 = x := ⟨_, rfl⟩
 obtain ⟨v1, d1⟩ : ∃ x, Pk.numV s1 1073741824 = x := ⟨_, rfl⟩
 obtain ⟨s2, e1⟩ : ∃ x, Pk.numS s1 1073741824 = x := ⟨_, rfl⟩
 obtain ⟨v2, d2⟩ : ∃ x, Pk.numV s2 1073741824 = x := ⟨_, rfl⟩
 obtain ⟨s3, e2⟩ : ∃ x, Pk.numS s2 1073741824 = x := ⟨_, rfl⟩
 obtain ⟨v3, d3⟩ : ∃ x, Pk.numV s3 1073741824 = x := ⟨_, rfl⟩
 obtain ⟨s4, e3⟩ : ∃ x, Pk.numS s3 1073741824 = x := ⟨_, rfl⟩
 obtain ⟨v4, d4⟩ : ∃ x, Pk.bytV s4 32 = x := ⟨_, rfl⟩
 obtain ⟨s5, e4⟩ : ∃ x, Pk.bytS s4 32 = x := ⟨_, rfl⟩
 obtain ⟨v5, d5⟩ : ∃ x, Pk.bytV s5 32 = x := ⟨_, rfl⟩
 obtain ⟨s6, e5⟩ : ∃ x, Pk.bytS s5 32 = x := ⟨_, rfl⟩
 obtain ⟨v6, d6⟩ : ∃ x, Pk.bytV s6 32 = x := ⟨_, rfl⟩
 obtain ⟨s7, e6⟩ : ∃ x, Pk.bytS s6 32 = x := ⟨_, rfl⟩
 have HRES : Hid (En.read s0 = (if s7 = none then En.zero else ⟨v0, v1, ⟨v2, v3, v4, v5, v6⟩⟩) /\ (En.get s0).2 = s7) := hD (by unfold En.read En.get; simp only [e0, e1, e2, e3, e4, e5, e6, d0, d1, d2, d3, d4, d5, d6]; exact ⟨trivial, trivial⟩)
 subst es
 have C0 := hD (fun w h => rnum_is w b _ 1073741824 h _ _ d0 e0)
 have C1 := hD (fun w h => rnum_is w b _ 1073741824 h _ _ d1 e1)
 have C2 := hD (fun w h => rnum_is w b _ 1073741824 h _ _ d2 e2)
 have C3 := hD (fun w h => rnum_is w b _ 1073741824 h _ _ d3 e3)
 have C4 := hD (fun w h => rbytes_is w b _ 32 h _ _ d4 e4)
 have C5 := hD (fun w h => rbytes_is w b _ 32 h _ _ d5 e5)
 have C6 := hD (fun w h => rbytes_is w b _ 32 h _ _ d6 e6)
 clear d0 e0 d1 e1 d2 e2 d3 e3 d4 e4 d5 e5 d6 e6
 have bb : Below w.heap.size w ((w.alloc (.cells #[.int .i64 0, .int .i64 0, .int .i64 0, .int .i64 0, .slice none 0 0, .slice none 0 0, .slice none 0 0] 29)).alloc (.cells #[.int .i64 0, .int .i64 0, .int .i64 0, .int .i64 0, .slice none 0 0, .slice none 0 0, .slice none 0 0] 29)) := ((Below.refl _ _).alloc lR _).alloc (by simp) _
 have HR0 := hD (h0.below bb)
 have HK2 := hD ((Blk.new w 29 #[.int .i64 0, .int .i64 0, .int .i64 0, .int .i64 0, .slice none 0 0, .slice none 0 0, .slice none 0 0]).alloc (.cells #[.int .i64 0, .int .i64 0, .int .i64 0, .int .i64 0, .slice none 0 0, .slice none 0 0, .slice none 0 0] 29))
 have HK3 := hD (Blk.new (w.alloc (.cells #[.int .i64 0, .int .i64 0, .int .i64 0, .int .i64 0, .slice none 0 0, .slice none 0 0, .slice none 0 0] 29)) 29 #[.int .i64 0, .int .i64 0, .int .i64 0, .int .i64 0, .slice none 0 0, .slice none 0 0, .slice none 0 0])
 rw [World.size_alloc] at HK3
 have hne : w.heap.size ≠ b := by omega
 have hne3 : w.heap.size + 1 ≠ b := by omega
 clear h h0 bb
 go_enter Tryz.func15, Tryz.ntmps15
 go_upto_region 2 with fail
 generalize (w.alloc (.cells #[.int .i64 0, .int .i64 0, .int .i64 0, .int .i64 0, .slice none 0 0, .slice none 0 0, .slice none 0 0] 29)).alloc (.cells #[.int .i64 0, .int .i64 0, .int .i64 0, .int .i64 0, .slice none 0 0, .slice none 0 0, .slice none 0 0] 29) = wx0 at HR0 HK2 HK3 |-
 go_upto_region 3 with (first
  | (go_at_call 43; refine (C0.out _ HR0.out.r).mono ?_; rintro en w1 ⟨rfl, hr, ho⟩
     have HRC := hD (HR0.out.call hr ho)
     have HK2 := hD (HK2.out.grown ho (by simpa using hne))
     have HK3 := hD (HK3.out.grown ho (by simpa using hne3))
     have x0 := HK3.out.cell 0
     have f0 := HK3.out.frozen 0
     have x1 := HK3.out.cell 1
     have f1 := HK3.out.frozen 1
     have x2 := HK3.out.cell 2
     have f2 := HK3.out.frozen 2
     have x3 := HK3.out.cell 3
     have f3 := HK3.out.frozen 3
     have x4 := HK3.out.cell 4
     have f4 := HK3.out.frozen 4
     have x5 := HK3.out.cell 5
     have f5 := HK3.out.frozen 5
     have x6 := HK3.out.cell 6
     have f6 := HK3.out.frozen 6
     clear hr ho C0)
  | fail)
 have HR1 : Hid (RgSt w (w1.setCell ⟨w.heap.size + 1, 0, none⟩ (.int .i64 (v0 : Int))) b s1) := hD (HRC.out.set HK3.out (by decide) (by decide) (by omega))
 have HK2 := hD (HK2.out.set_other (i := 0) (u := .int .i64 (v0 : Int)) (b := w.heap.size + 1) (by omega))
 have HK3 : Hid (Blk (w1.setCell ⟨w.heap.size + 1, 0, none⟩ (.int .i64 (v0 : Int))) (w.heap.size + 1) 29 #[.int .i64 (v0 : Int), .int .i64 0, .int .i64 0, .int .i64 0, .slice none 0 0, .slice none 0 0, .slice none 0 0]) := hD (HK3.out.set_ 0 (.int .i64 (v0 : Int)))
 clear HRC x0 f0 x1 f1 x2 f2 x3 f3 x4 f4 x5 f5 x6 f6
 generalize w1.setCell ⟨w.heap.size + 1, 0, none⟩ (.int .i64 (v0 : Int)) = wx1 at HR1 HK2 HK3  |-
 go_upto_region 4 with (first
  | (go_at_call 43; refine (C1.out _ HR1.out.r).mono ?_; rintro en w2 ⟨rfl, hr, ho⟩
     have HRC := hD (HR1.out.call hr ho)
     have HK2 := hD (HK2.out.grown ho (by simpa using hne))
     have HK3 := hD (HK3.out.grown ho (by simpa using hne3))
     have x0 := HK3.out.cell 0
     have f0 := HK3.out.frozen 0
     have x1 := HK3.out.cell 1
     have f1 := HK3.out.frozen 1
     have x2 := HK3.out.cell 2
     have f2 := HK3.out.frozen 2
     have x3 := HK3.out.cell 3
     have f3 := HK3.out.frozen 3
     have x4 := HK3.out.cell 4
     have f4 := HK3.out.frozen 4
     have x5 := HK3.out.cell 5
     have f5 := HK3.out.frozen 5
     have x6 := HK3.out.cell 6
     have f6 := HK3.out.frozen 6
     clear hr ho C1)
  | fail)
 have HR2 : Hid (RgSt w (w2.setCell ⟨w.heap.size + 1, 1, none⟩ (.int .i64 (v1 : Int))) b s2) := hD (HRC.out.set HK3.out (by decide) (by decide) (by omega))
 have HK2 := hD (HK2.out.set_other (i := 1) (u := .int .i64 (v1 : Int)) (b := w.heap.size + 1) (by omega))
 have HK3 : Hid (Blk (w2.setCell ⟨w.heap.size + 1, 1, none⟩ (.int .i64 (v1 : Int))) (w.heap.size + 1) 29 #[.int .i64 (v0 : Int), .int .i64 (v1 : Int), .int .i64 0, .int .i64 0, .slice none 0 0, .slice none 0 0, .slice none 0 0]) := hD (HK3.out.set_ 1 (.int .i64 (v1 : Int)))
 clear HRC x0 f0 x1 f1 x2 f2 x3 f3 x4 f4 x5 f5 x6 f6
 generalize w2.setCell ⟨w.heap.size + 1, 1, none⟩ (.int .i64 (v1 : Int)) = wx2 at HR2 HK2 HK3  |-
 go_upto_region 5 with (first
  | (go_at_call 43; refine (C2.out _ HR2.out.r).mono ?_; rintro en w3 ⟨rfl, hr, ho⟩
     have HRC := hD (HR2.out.call hr ho)
     have HK2 := hD (HK2.out.grown ho (by simpa using hne))
     have HK3 := hD (HK3.out.grown ho (by simpa using hne3))
     have x0 := HK3.out.cell 0
     have f0 := HK3.out.frozen 0
     have x1 := HK3.out.cell 1
     have f1 := HK3.out.frozen 1
     have x2 := HK3.out.cell 2
     have f2 := HK3.out.frozen 2
     have x3 := HK3.out.cell 3
     have f3 := HK3.out.frozen 3
     have x4 := HK3.out.cell 4
     have f4 := HK3.out.frozen 4
     have x5 := HK3.out.cell 5
     have f5 := HK3.out.frozen 5
     have x6 := HK3.out.cell 6
     have f6 := HK3.out.frozen 6
     clear hr ho C2)
  | fail)
 have HR3 : Hid (RgSt w (w3.setCell ⟨w.heap.size + 1, 2, none⟩ (.int .i64 (v2 : Int))) b s3) := hD (HRC.out.set HK3.out (by decide) (by decide) (by omega))
 have HK2 := hD (HK2.out.set_other (i := 2) (u := .int .i64 (v2 : Int)) (b := w.heap.size + 1) (by omega))
 have HK3 : Hid (Blk (w3.setCell ⟨w.heap.size + 1, 2, none⟩ (.int .i64 (v2 : Int))) (w.heap.size + 1) 29 #[.int .i64 (v0 : Int), .int .i64 (v1 : Int), .int .i64 (v2 : Int), .int .i64 0, .slice none 0 0, .slice none 0 0, .slice none 0 0]) := hD (HK3.out.set_ 2 (.int .i64 (v2 : Int)))
 clear HRC x0 f0 x1 f1 x2 f2 x3 f3 x4 f4 x5 f5 x6 f6
 generalize w3.setCell ⟨w.heap.size + 1, 2, none⟩ (.int .i64 (v2 : Int)) = wx3 at HR3 HK2 HK3  |-
 go_upto_region 6 with (first
  | (go_at_call 43; refine (C3.out _ HR3.out.r).mono ?_; rintro en w4 ⟨rfl, hr, ho⟩
     have HRC := hD (HR3.out.call hr ho)
     have HK2 := hD (HK2.out.grown ho (by simpa using hne))
     have HK3 := hD (HK3.out.grown ho (by simpa using hne3))
     have x0 := HK3.out.cell 0
     have f0 := HK3.out.frozen 0
     have x1 := HK3.out.cell 1
     have f1 := HK3.out.frozen 1
     have x2 := HK3.out.cell 2
     have f2 := HK3.out.frozen 2
     have x3 := HK3.out.cell 3
     have f3 := HK3.out.frozen 3
     have x4 := HK3.out.cell 4
     have f4 := HK3.out.frozen 4
     have x5 := HK3.out.cell 5
     have f5 := HK3.out.frozen 5
     have x6 := HK3.out.cell 6
     have f6 := HK3.out.frozen 6
     clear hr ho C3)
  | fail)
 have HR4 : Hid (RgSt w (w4.setCell ⟨w.heap.size + 1, 3, none⟩ (.int .i64 (v3 : Int))) b s4) := hD (HRC.out.set HK3.out (by decide) (by decide) (by omega))
 have HK2 := hD (HK2.out.set_other (i := 3) (u := .int .i64 (v3 : Int)) (b := w.heap.size + 1) (by omega))
 have HK3 : Hid (Blk (w4.setCell ⟨w.heap.size + 1, 3, none⟩ (.int .i64 (v3 : Int))) (w.heap.size + 1) 29 #[.int .i64 (v0 : Int), .int .i64 (v1 : Int), .int .i64 (v2 : Int), .int .i64 (v3 : Int), .slice none 0 0, .slice none 0 0, .slice none 0 0]) := hD (HK3.out.set_ 3 (.int .i64 (v3 : Int)))
 clear HRC x0 f0 x1 f1 x2 f2 x3 f3 x4 f4 x5 f5 x6 f6
 generalize w4.setCell ⟨w.heap.size + 1, 3, none⟩ (.int .i64 (v3 : Int)) = wx4 at HR4 HK2 HK3  |-
 go_upto_region 7 with (first
  | (go_at_call 44; refine (C4.out _ HR4.out.r).mono ?_; rintro en w5 ⟨A4, n4, c4, rfl, hv, hr, ho⟩; obtain rfl := own_len hv
     have HRC := hD (HR4.out.call hr ho)
     have HK2 := hD (HK2.out.grown ho (by simpa using hne))
     have HK3 := hD (HK3.out.grown ho (by simpa using hne3))
     have HV4 := hD (own_of HR4.out.size hv)
     have x0 := HK3.out.cell 0
     have f0 := HK3.out.frozen 0
     have x1 := HK3.out.cell 1
     have f1 := HK3.out.frozen 1
     have x2 := HK3.out.cell 2
     have f2 := HK3.out.frozen 2
     have x3 := HK3.out.cell 3
     have f3 := HK3.out.frozen 3
     have x4 := HK3.out.cell 4
     have f4 := HK3.out.frozen 4
     have x5 := HK3.out.cell 5
     have f5 := HK3.out.frozen 5
     have x6 := HK3.out.cell 6
     have f6 := HK3.out.frozen 6
     clear hr ho C4 hv)
  | fail)
 have HR5 : Hid (RgSt w (w5.setCell ⟨w.heap.size + 1, 4, none⟩ (.slice A4 v4.length c4)) b s5) := hD (HRC.out.set HK3.out (by decide) (by decide) (by omega))
 have HK2 := hD (HK2.out.set_other (i := 4) (u := .slice A4 v4.length c4) (b := w.heap.size + 1) (by omega))
 have HV4 : Hid (OwnB w (w5.setCell ⟨w.heap.size + 1, 4, none⟩ (.slice A4 v4.length c4)) A4 v4.length c4 v4) := hD (own_set_t HV4.out HK3.out (by decide))
 have HK3 : Hid (Blk (w5.setCell ⟨w.heap.size + 1, 4, none⟩ (.slice A4 v4.length c4)) (w.heap.size + 1) 29 #[.int .i64 (v0 : Int), .int .i64 (v1 : Int), .int .i64 (v2 : Int), .int .i64 (v3 : Int), .slice A4 v4.length c4, .slice none 0 0, .slice none 0 0]) := hD (HK3.out.set_ 4 (.slice A4 v4.length c4))
 clear HRC x0 f0 x1 f1 x2 f2 x3 f3 x4 f4 x5 f5 x6 f6
 generalize w5.setCell ⟨w.heap.size + 1, 4, none⟩ (.slice A4 v4.length c4) = wx5 at HR5 HK2 HK3 HV4 |-
 go_upto_region 8 with (first
  | (go_at_call 44; refine (C5.out _ HR5.out.r).mono ?_; rintro en w6 ⟨A5, n5, c5, rfl, hv, hr, ho⟩; obtain rfl := own_len hv
     have HRC := hD (HR5.out.call hr ho)
     have HK2 := hD (HK2.out.grown ho (by simpa using hne))
     have HK3 := hD (HK3.out.grown ho (by simpa using hne3))
     have HV4 := hD (own_read HV4.out ho HBL.out)
     have HV5 := hD (own_of HR5.out.size hv)
     have x0 := HK3.out.cell 0
     have f0 := HK3.out.frozen 0
     have x1 := HK3.out.cell 1
     have f1 := HK3.out.frozen 1
     have x2 := HK3.out.cell 2
     have f2 := HK3.out.frozen 2
     have x3 := HK3.out.cell 3
     have f3 := HK3.out.frozen 3
     have x4 := HK3.out.cell 4
     have f4 := HK3.out.frozen 4
     have x5 := HK3.out.cell 5
     have f5 := HK3.out.frozen 5
     have x6 := HK3.out.cell 6
     have f6 := HK3.out.frozen 6
     clear hr ho C5 hv)
  | fail)
 have HR6 : Hid (RgSt w (w6.setCell ⟨w.heap.size + 1, 5, none⟩ (.slice A5 v5.length c5)) b s6) := hD (HRC.out.set HK3.out (by decide) (by decide) (by omega))
 have HK2 := hD (HK2.out.set_other (i := 5) (u := .slice A5 v5.length c5) (b := w.heap.size + 1) (by omega))
 have HV4 : Hid (OwnB w (w6.setCell ⟨w.heap.size + 1, 5, none⟩ (.slice A5 v5.length c5)) A4 v4.length c4 v4) := hD (own_set_t HV4.out HK3.out (by decide))
 have HV5 : Hid (OwnB w (w6.setCell ⟨w.heap.size + 1, 5, none⟩ (.slice A5 v5.length c5)) A5 v5.length c5 v5) := hD (own_set_t HV5.out HK3.out (by decide))
 have HK3 : Hid (Blk (w6.setCell ⟨w.heap.size + 1, 5, none⟩ (.slice A5 v5.length c5)) (w.heap.size + 1) 29 #[.int .i64 (v0 : Int), .int .i64 (v1 : Int), .int .i64 (v2 : Int), .int .i64 (v3 : Int), .slice A4 v4.length c4, .slice A5 v5.length c5, .slice none 0 0]) := hD (HK3.out.set_ 5 (.slice A5 v5.length c5))
 clear HRC x0 f0 x1 f1 x2 f2 x3 f3 x4 f4 x5 f5 x6 f6
 generalize w6.setCell ⟨w.heap.size + 1, 5, none⟩ (.slice A5 v5.length c5) = wx6 at HR6 HK2 HK3 HV4 HV5 |-
 go_upto_region 9 with (first
  | (go_at_call 44; refine (C6.out _ HR6.out.r).mono ?_; rintro en w7 ⟨A6, n6, c6, rfl, hv, hr, ho⟩; obtain rfl := own_len hv
     have HRC := hD (HR6.out.call hr ho)
     have HK2 := hD (HK2.out.grown ho (by simpa using hne))
     have HK3 := hD (HK3.out.grown ho (by simpa using hne3))
     have HV4 := hD (own_read HV4.out ho HBL.out)
     have HV5 := hD (own_read HV5.out ho HBL.out)
     have HV6 := hD (own_of HR6.out.size hv)
     have x0 := HK3.out.cell 0
     have f0 := HK3.out.frozen 0
     have x1 := HK3.out.cell 1
     have f1 := HK3.out.frozen 1
     have x2 := HK3.out.cell 2
     have f2 := HK3.out.frozen 2
     have x3 := HK3.out.cell 3
     have f3 := HK3.out.frozen 3
     have x4 := HK3.out.cell 4
     have f4 := HK3.out.frozen 4
     have x5 := HK3.out.cell 5
     have f5 := HK3.out.frozen 5
     have x6 := HK3.out.cell 6
     have f6 := HK3.out.frozen 6
     clear hr ho C6 hv)
  | fail)
 have HR7 : Hid (RgSt w (w7.setCell ⟨w.heap.size + 1, 6, none⟩ (.slice A6 v6.length c6)) b s7) := hD (HRC.out.set HK3.out (by decide) (by decide) (by omega))
 have HK2 := hD (HK2.out.set_other (i := 6) (u := .slice A6 v6.length c6) (b := w.heap.size + 1) (by omega))
 have HV4 : Hid (OwnB w (w7.setCell ⟨w.heap.size + 1, 6, none⟩ (.slice A6 v6.length c6)) A4 v4.length c4 v4) := hD (own_set_t HV4.out HK3.out (by decide))
 have HV5 : Hid (OwnB w (w7.setCell ⟨w.heap.size + 1, 6, none⟩ (.slice A6 v6.length c6)) A5 v5.length c5 v5) := hD (own_set_t HV5.out HK3.out (by decide))
 have HV6 : Hid (OwnB w (w7.setCell ⟨w.heap.size + 1, 6, none⟩ (.slice A6 v6.length c6)) A6 v6.length c6 v6) := hD (own_set_t HV6.out HK3.out (by decide))
 have HK3 : Hid (Blk (w7.setCell ⟨w.heap.size + 1, 6, none⟩ (.slice A6 v6.length c6)) (w.heap.size + 1) 29 #[.int .i64 (v0 : Int), .int .i64 (v1 : Int), .int .i64 (v2 : Int), .int .i64 (v3 : Int), .slice A4 v4.length c4, .slice A5 v5.length c5, .slice A6 v6.length c6]) := hD (HK3.out.set_ 6 (.slice A6 v6.length c6))
 clear HRC x0 f0 x1 f1 x2 f2 x3 f3 x4 f4 x5 f5 x6 f6
 generalize w7.setCell ⟨w.heap.size + 1, 6, none⟩ (.slice A6 v6.length c6) = wx7 at HR7 HK2 HK3 HV4 HV5 HV6 |-
 have HRN := HR7
 have x0 := HK2.out.cell 0
 have f0 := HK2.out.frozen 0
 have y0 := HK3.out.cell 0
 have x1 := HK2.out.cell 1
 have f1 := HK2.out.frozen 1
 have y1 := HK3.out.cell 1
 have x2 := HK2.out.cell 2
 have f2 := HK2.out.frozen 2
 have y2 := HK3.out.cell 2
 have x3 := HK2.out.cell 3
 have f3 := HK2.out.frozen 3
 have y3 := HK3.out.cell 3
 have x4 := HK2.out.cell 4
 have f4 := HK2.out.frozen 4
 have y4 := HK3.out.cell 4
 have x5 := HK2.out.cell 5
 have f5 := HK2.out.frozen 5
 have y5 := HK3.out.cell 5
 have x6 := HK2.out.cell 6
 have f6 := HK2.out.frozen 6
 have y6 := HK3.out.cell 6
 have HOK := hD (ok_any _ _ _ HRN.out.r)
 cases s7 with
 | none =>
   simp only [Option.isSome_none] at HOK
   go_wp2_with (first
    | (go_at_call 17; refine HOK.out.mono ?_; rintro en wq ⟨rfl, rfl⟩)
    | fail)
   have q0 := HK2.out
   have q1 := q0.set_ 0 (.int .i64 0)
   have q2 := q1.set_ 1 (.int .i64 0)
   have q3 := q2.set_ 2 (.int .i64 0)
   have q4 := q3.set_ 3 (.int .i64 0)
   have q5 := q4.set_ 4 (.slice none 0 0)
   have q6 := q5.set_ 5 (.slice none 0 0)
   have q7 := q6.set_ 6 (.slice none 0 0)
   refine bodyPost_ret (results_cell_row rfl _ _ _ _ _ _ _ rfl q7 Tryz.underlying29 rfl (by kernel_rfl)) rfl ?_
   have hrg := (((((((HRN.out).set (i := 0) (u := .int .i64 0) q0 (by decide) (by decide) lR).set (i := 1) (u := .int .i64 0) q1 (by decide) (by decide) lR).set (i := 2) (u := .int .i64 0) q2 (by decide) (by decide) lR).set (i := 3) (u := .int .i64 0) q3 (by decide) (by decide) lR).set (i := 4) (u := .slice none 0 0) q4 (by decide) (by decide) lR).set (i := 5) (u := .slice none 0 0) q5 (by decide) (by decide) lR).set (i := 6) (u := .slice none 0 0) q6 (by decide) (by decide) lR
   obtain ⟨hR, hS⟩ := HRES.out
   rw [hR, hS, if_pos (by trivial)]
   exact ⟨⟨none, 0, none, 0, none, 0⟩, rfl, ⟨own_nil _ _, own_nil _ _, own_nil _ _⟩, hrg.r, hrg.only⟩
 | some l7 =>
   simp only [Option.isSome_some] at HOK
   go_wp2_with (first
    | (go_at_call 17; refine HOK.out.mono ?_; rintro en wq ⟨rfl, rfl⟩)
    | fail)
   have q0 := HK2.out
   have q1 := q0.set_ 0 (.int .i64 (v0 : Int))
   have q2 := q1.set_ 1 (.int .i64 (v1 : Int))
   have q3 := q2.set_ 2 (.int .i64 (v2 : Int))
   have q4 := q3.set_ 3 (.int .i64 (v3 : Int))
   have q5 := q4.set_ 4 (.slice A4 v4.length c4)
   have q6 := q5.set_ 5 (.slice A5 v5.length c5)
   have q7 := q6.set_ 6 (.slice A6 v6.length c6)
   refine bodyPost_ret (results_cell_row rfl _ _ _ _ _ _ _ rfl q7 Tryz.underlying29 rfl (by kernel_rfl)) rfl ?_
   have hrg := (((((((HRN.out).set (i := 0) (u := .int .i64 (v0 : Int)) q0 (by decide) (by decide) lR).set (i := 1) (u := .int .i64 (v1 : Int)) q1 (by decide) (by decide) lR).set (i := 2) (u := .int .i64 (v2 : Int)) q2 (by decide) (by decide) lR).set (i := 3) (u := .int .i64 (v3 : Int)) q3 (by decide) (by decide) lR).set (i := 4) (u := .slice A4 v4.length c4) q4 (by decide) (by decide) lR).set (i := 5) (u := .slice A5 v5.length c5) q5 (by decide) (by decide) lR).set (i := 6) (u := .slice A6 v6.length c6) q6 (by decide) (by decide) lR
   obtain ⟨hR, hS⟩ := HRES.out
   rw [hR, hS, if_neg (by simp)]
   exact ⟨⟨A4, c4, A5, c5, A6, c6⟩, rfl, ⟨own_set_t (own_set_t (own_set_t (own_set_t (own_set_t (own_set_t (own_set_t (HV4.out) q0 (by decide)) q1 (by decide)) q2 (by decide)) q3 (by decide)) q4 (by decide)) q5 (by decide)) q6 (by decide), own_set_t (own_set_t (own_set_t (own_set_t (own_set_t (own_set_t (own_set_t (HV5.out) q0 (by decide)) q1 (by decide)) q2 (by decide)) q3 (by decide)) q4 (by decide)) q5 (by decide)) q6 (by decide), own_set_t (own_set_t (own_set_t (own_set_t (own_set_t (own_set_t (own_set_t (HV6.out) q0 (by decide)) q1 (by decide)) q2 (by decide)) q3 (by decide)) q4 (by decide)) q5 (by decide)) q6 (by decide)⟩, hrg.r, hrg.only⟩
theorem refRead_any {W w : World} {l : List Nat} {A : Option Addr} {n c B : Nat} (hn : Lim 0 n) (hr : Rd w B A n (bv l)) (hB : Below W.heap.size W w) :
 Calls Tryz.prog 101 #[.slice A n c] w (GotR W w 0 l 0) := by
 have H := hD hr.fit
 clear hr
 go_enter Tryz.func101, Tryz.ntmps101
 go_wp2_with (go_at_call 98; refine (ownref_any (W := W) hn (H.out.alloc lR _) (hB.alloc hB.size _)).mono ?_; rintro e w1 ⟨A1, c1, rfl, hown1, hB1, hb1⟩; have HK := hD ((Blk.new w 41 zeroR).below hb1); obtain ⟨x0, x1, x2, f0, f1, f2⟩ := three HK.out)
 obtain ⟨k1, k2, k3⟩ := put3 HK.out (.int .i64 0) (.slice A1 l.length c1) (.int .i64 0)
 refine bodyPost_ret (results_cell_row rfl _ _ _ _ _ _ _ rfl k1 Tryz.underlying41 rfl (by kernel_rfl)) rfl ?_
 exact ⟨A1, c1, rfl, k3 _ _ _ _ _ _ hown1 (by decide), k2 W hB.size hB1, k2 w lR (((Below.refl _ _).alloc lR _).trans (hb1.mono (by simp)))⟩
theorem refWrite_any {W w : World} {s v : List Nat} {A A' : Option Addr} {n c n' c' B B' : Nat} (hn : Lim 0 n) (hn' : Lim 0 n') (hr : Rd w B A n (bv s)) (hr' : Rd w B' A' n' (bv v)) (hB : Below W.heap.size W w) :
 Calls Tryz.prog 102 #[.slice A n c, .slice A' n' c'] w (GotSR W w (if v.length <= 16 then v else s) (if v.length <= 16 then 0 else 1) [] 0) := by
 have HL := hD hr'.length
 have H := hD hr.fit
 have H' := hD hr'.fit
 by_cases hle : n' <= 16
 · rw [if_pos (by have := HL.out; omega), if_pos (by have := HL.out; omega)]
   clear hr hr'
   go_enter Tryz.func102, Tryz.ntmps102
   go_wp2_with (go_at_call 98; refine (ownref_any (W := W) hn' (H'.out.alloc lR _) (hB.alloc hB.size _)).mono ?_; rintro e w1 ⟨A1, c1, rfl, hown1, hB1, hb1⟩; have HK := hD ((Blk.new w 41 zeroR).below hb1); obtain ⟨x0, x1, x2, f0, f1, f2⟩ := three HK.out)
   obtain ⟨k1, k2, k3⟩ := put3 HK.out (.int .i64 0) (.slice none 0 0) (.int .i64 0)
   refine bodyPost_ret (results_tmp_cell_row rfl _ _ _ _ _ _ rfl k1 Tryz.underlying41 rfl (by kernel_rfl)) rfl ?_
   exact ⟨A1, c1, none, 0, rfl, k3 _ _ _ _ _ _ hown1 (by decide), own_nil _ _, k2 W hB.size hB1, k2 w lR (((Below.refl _ _).alloc lR _).trans (hb1.mono (by simp)))⟩
 · rw [if_neg (by have := HL.out; omega), if_neg (by have := HL.out; omega)]
   clear hr hr'
   go_enter Tryz.func102, Tryz.ntmps102
   go_wp2_with (first
    | (go_at_call 98; refine (ownref_any (W := W) hn (H.out.alloc lR _) (hB.alloc hB.size _)).mono ?_; rintro e w1 ⟨A1, c1, rfl, hown1, hB1, hb1⟩)
    | (go_at_call 95; refine (bad_any w1 1).mono ?_; rintro e w2 ⟨rfl, hb2⟩; unfold resV; have HK := hD (((Blk.new w 41 zeroR).below hb1).below hb2); obtain ⟨x0, x1, x2, f0, f1, f2⟩ := three HK.out))
   obtain ⟨k1, k2, k3⟩ := put3 HK.out (.int .i64 1) (.slice none 0 0) (.int .i64 0)
   have hbw : Below w.heap.size w w1 := ((Below.refl _ _).alloc lR _).trans (hb1.mono (by simp))
   refine bodyPost_ret (results_tmp_cell_row rfl _ _ _ _ _ _ rfl k1 Tryz.underlying41 rfl (by kernel_rfl)) rfl ?_
   exact ⟨A1, c1, none, 0, rfl, k3 _ _ _ _ _ _ (own_below hown1 hb2) (by decide), own_nil _ _, k2 W hB.size (hB1.trans (hb2.mono hB1.size)), k2 w lR (hbw.trans (hb2.mono hbw.size))⟩
set_option maxRecDepth 100000 in
theorem refCas_any {W w : World} {s v old : List Nat} {A A' A2 : Option Addr} {n c n' c' n2 c2 B B' B2 : Nat} (hn : Lim 0 n) (hn' : Lim 0 n') (hs : ∀ x ∈ s, x < 256) (ho : ∀ x ∈ old, x < 256) (hr : Rd w B A n (bv s)) (hr' : Rd w B' A' n' (bv v)) (hr2 : Rd w B2 A2 n2 (bv old)) (hB : Below W.heap.size W w) :
 Calls Tryz.prog 103 #[.slice A n c, .slice A2 n2 c2, .slice A' n' c'] w (GotSR W w (casS s old v) (casE s old v) (casV s old v) 0) := by
 unfold casS casE casV
 have HL := hD hr'.length
 have H := hD hr.fit
 have H' := hD hr'.fit
 have H2 := hD hr2.fit
 have q1 := hD (fun (w' : World) (hb : Below w.heap.size w w') => str_of (c := c) (hr.fit.below hb))
 have q2 := hD (fun (w' : World) (hb : Below w.heap.size w w') => str_of (c := c2) (hr2.fit.below hb))
 have q3 := strL_eq hs ho
 clear hs ho
 by_cases hlt : 16 < n'
 · have hvl : 16 < v.length := by have := HL.out; omega
   rw [if_pos hvl, if_pos hvl, if_pos hvl]
   clear hr hr' hr2 hvl q1 q2 q3
   go_enter Tryz.func103, Tryz.ntmps103
   go_wp2_with (first
    | (go_at_call 98; refine (ownref_any (W := W) hn (H.out.alloc lR _) (hB.alloc hB.size _)).mono ?_; rintro e w1 ⟨A1, c1, rfl, hown1, hB1, hb1⟩)
    | (go_at_call 95; refine (bad_any w1 1).mono ?_; rintro e w2 ⟨rfl, hb2⟩; unfold resV; have HK := hD (((Blk.new w 41 zeroR).below hb1).below hb2); obtain ⟨x0, x1, x2, f0, f1, f2⟩ := three HK.out))
   obtain ⟨k1, k2, k3⟩ := put3 HK.out (.int .i64 1) (.slice none 0 0) (.int .i64 0)
   have hbw : Below w.heap.size w w1 := ((Below.refl _ _).alloc lR _).trans (hb1.mono (by simp))
   refine bodyPost_ret (results_tmp_cell_row rfl _ _ _ _ _ _ rfl k1 Tryz.underlying41 rfl (by kernel_rfl)) rfl ?_
   exact ⟨A1, c1, none, 0, rfl, k3 _ _ _ _ _ _ (own_below hown1 hb2) (by decide), own_nil _ _, k2 W hB.size (hB1.trans (hb2.mono hB1.size)), k2 w lR (hbw.trans (hb2.mono hbw.size))⟩
 · have hvl : ¬ 16 < v.length := by have := HL.out; omega
   rw [if_neg hvl, if_neg hvl, if_neg hvl]
   clear hvl
   have b0 : Below w.heap.size w (w.alloc (.cells zeroR 41)) := (Below.refl _ _).alloc lR _
   have c1 := q1.out _ b0
   have c2 := q2.out _ b0
   clear hr hr' hr2 q1 q2
   by_cases he : s = old
   · rw [if_pos he, if_pos he, if_pos he]
     rw [decide_eq_true he] at q3
     clear he
     go_enter Tryz.func103, Tryz.ntmps103
     go_wp2_with (go_at_call 98; refine (ownref_any (W := W) hn' (H'.out.alloc lR _) (hB.alloc hB.size _)).mono ?_; rintro e w1 ⟨A1, c1, rfl, hown1, hB1, hb1⟩; have HK := hD ((Blk.new w 41 zeroR).below hb1); obtain ⟨x0, x1, x2, f0, f1, f2⟩ := three HK.out)
     obtain ⟨k1, k2, k3⟩ := put3 HK.out (.int .i64 0) (.slice none 0 0) (.int .i64 0)
     refine bodyPost_ret (results_tmp_cell_row rfl _ _ _ _ _ _ rfl k1 Tryz.underlying41 rfl (by kernel_rfl)) rfl ?_
     exact ⟨A1, c1, none, 0, rfl, k3 _ _ _ _ _ _ hown1 (by decide), own_nil _ _, k2 W hB.size hB1, k2 w lR (((Below.refl _ _).alloc lR _).trans (hb1.mono (by simp)))⟩
   · rw [if_neg he, if_neg he, if_neg he]
     rw [decide_eq_false he] at q3
     clear he
     go_enter Tryz.func103, Tryz.ntmps103
     go_wp2_with (first
      | (go_at_call 98; refine (ownref_any (W := W) hn (H.out.alloc lR _) (hB.alloc hB.size _)).mono ?_; rintro e w1 ⟨A1, c1, rfl, hown1, hB1, hb1⟩; have hbw : Below w.heap.size w w1 := ((Below.refl _ _).alloc lR _).trans (hb1.mono (by simp)))
      | (go_at_call 98; refine (ownref_any (W := W) hn (H.out.below hbw) hB1).mono ?_; rintro e w2 ⟨A3, c3, rfl, hown3, hB3, hb3⟩; have HK := hD (((Blk.new w 41 zeroR).below hb1).below hb3); obtain ⟨x0, x1, x2, f0, f1, f2⟩ := three HK.out))
     obtain ⟨k1, k2, k3⟩ := put3 HK.out (.int .i64 2) (.slice A3 s.length c3) (.int .i64 0)
     refine bodyPost_ret (results_tmp_cell_row rfl _ _ _ _ _ _ rfl k1 Tryz.underlying41 rfl (by kernel_rfl)) rfl ?_
     exact ⟨A1, _, A3, c3, rfl, k3 _ _ _ _ _ _ (own_below hown1 hb3) (by decide), k3 _ _ _ _ _ _ hown3 (by decide), k2 W hB.size hB3, k2 w lR (hbw.trans (hb3.mono hbw.size))⟩
theorem place_any (w : World) {A : Option Addr} {n c B : Nat} {zs : List Int} (x : Int) (h : Rd w B A n (iv zs)) (hn : n <= maxLen) :
 Calls Tryz.prog 147 #[.slice A n c, .int .i64 x] w fun e w' => e = .returned (.int .i64 (placeI zs x)) /\ w = w' := by
 have hl : zs.length = n := by have := h.1; rwa [iv_length] at this
 unfold maxLen at hn
 have HN : Hid (n <= 9223372036854775807) := hD (by omega)
 have HL := hD hl
 have H := hD h
 clear h hl hn
 go_enter Tryz.func147, Tryz.ntmps147
 go_wp2
 go_loopw [5] (fun i wr => ∃ k : Nat, k <= n /\ i = .int .i64 k /\ Hid (∀ j, j < k -> zs[j]? ≠ some x) /\ w = wr) (fun i _ => n - (intOf i).toNat)
 case atStart => exact ⟨0, Nat.zero_le _, rfl, hD (fun j hj => absurd hj (by omega)), rfl⟩
 case round =>
  obtain ⟨k, hk, rfl, HS, rfl⟩ := hrel
  by_cases hlt : k < n
  · obtain ⟨z, hz⟩ : ∃ z, zs[k]? = some z := ⟨_, List.getElem?_eq_getElem (by have := HL.out; omega)⟩
    obtain ⟨b, o, rfl, _⟩ := H.out.int_at hlt
    have hc := H.out.int_cell hlt hz
    have hv : IntKind.i64.wrap ((k : Int) + 1) = (k : Int) + 1 := IntWalk.i64_in _ (by have := HN.out; omega)
    have HZ := hD hz
    clear hz
    by_cases he : z = x
    · subst he
      have HP := hD (place_first HZ.out HS.out)
      go_wp2
      go_ret
      exact ⟨ret_int HP.out.symm, rfl⟩
    · have he' : (z == x) = false := by simpa using he
      have HE := hD he
      clear he
      go_wp2
      go_roundw
      case rel =>
       refine ⟨k + 1, by omega, by go_num, hD (fun j hj => ?_), trivial⟩
       rcases Nat.lt_or_ge j k with h1 | h1
       · exact HS.out j h1
       · obtain rfl : j = k := by omega
         rw [HZ.out]
         intro h; injection h with h; exact HE.out h
      case measure => simp [intOf]; omega
  · obtain rfl : k = n := by omega
    have HP := hD (place_none (s := zs) (x := x) (by rw [HL.out]; exact HS.out))
    go_wp2
    go_ret
    exact ⟨ret_int HP.out.symm, rfl⟩
set_option maxHeartbeats 1000000 in
set_option maxRecDepth 100000 in
theorem refTake_raw {w : World} {zs : List Int} {A : Option Addr} {n c B : Nat} (x : Int) (hn : Lim 1 n) (hr : Rd w B A n (iv zs)) :
 Calls Tryz.prog 106 #[.slice A n c, .int .i64 x] w (GotIR w w (takeS zs x) (takeE zs x) (takeN zs x)) := by
 have hB := Below.refl w.heap.size w
 have hn := hn.out
 have HR := hD hr.fit
 obtain rfl : zs.length = n := by have := hr.1; rwa [iv_length] at this
 have b0 : Below w.heap.size w (w.alloc (.cells zeroR 41)) := (Below.refl _ _).alloc lR _
 clear hr
 unfold takeS takeE takeN
 by_cases hx : x ∈ zs
 · rw [if_pos hx, if_pos hx, if_pos hx]
   obtain ⟨k, hk, hk1, _⟩ := place_lt hx
   have h0 : (0 : Int) <= (k : Int) := by omega
   have HP := hD hk
   clear hk hx
   go_enter Tryz.func106, Tryz.ntmps106
   go_wp2_with (first
    | (at_builtin
       refine wpList_append_cells (W := w) cellI (.tmp 7) (.tmp 8) rfl (by rfl) rfl (ownI_at b0 (by simp)) rfl (HR.out.below (b0.alloc (by simp) _)) (iv_one _) (by omega) (by omega) (b0.alloc (by simp) _) ?_
       intro A1 c1 w1 hown1 hB1 hg1
       simp only [Nat.zero_add] at hown1
       have HK := hD (((Blk.new w 41 zeroR).alloc (.cells #[] 3)).apart_own (ownI_at (W := w) b0 (by simp)) (by decide) hg1)
       obtain ⟨x0, x1, x2, f0, f1, f2⟩ := three HK.out
       clear hg1)
    | (go_at_call 147; refine (place_any _ x (HR.out.below hB1) (by unfold maxLen; omega)).mono ?_; rintro e w2 ⟨rfl, rfl⟩; rw [HP.out])
    | (go_at_call 95; refine (bad_any _ 6).mono ?_; rintro e w3 ⟨rfl, hb3⟩; unfold resV; clear x0 x1 x2 f0 f1 f2; have HK := hD (HK.out.below hb3); obtain ⟨x0, x1, x2, f0, f1, f2⟩ := three HK.out)
    | fail)
   obtain ⟨k1, k2, k3⟩ := put3 HK.out (.int .i64 6) (.slice none 0 0) (.int .i64 0)
   refine bodyPost_ret (results_tmp_cell_row rfl _ _ _ _ _ _ rfl k1 Tryz.underlying41 rfl (by kernel_rfl)) rfl ?_
   have h3 := k2 w lR (hB1.trans (hb3.mono hB1.size))
   exact ⟨A1, c1, none, 0, rfl, k3 _ _ _ _ _ _ (ownsRow_below hown1 hb3) (by decide), own_nil _ _, h3, h3⟩
 · rw [if_neg hx, if_neg hx, if_neg hx]
   have HP := hD (place_no hx)
   clear hx
   by_cases hf : 5 <= zs.length
   · rw [if_pos hf, if_pos hf, if_pos hf]
     have hfi : (5 : Int) <= (zs.length : Int) := by omega
     go_enter Tryz.func106, Tryz.ntmps106
     go_wp2_with (first
     | (at_builtin
        refine wpList_append_cells (W := w) cellI (.tmp 7) (.tmp 8) rfl (by rfl) rfl (ownI_at b0 (by simp)) rfl (HR.out.below (b0.alloc (by simp) _)) (iv_one _) (by omega) (by omega) (b0.alloc (by simp) _) ?_
        intro A1 c1 w1 hown1 hB1 hg1
        simp only [Nat.zero_add] at hown1
        have HK := hD (((Blk.new w 41 zeroR).alloc (.cells #[] 3)).apart_own (ownI_at (W := w) b0 (by simp)) (by decide) hg1)
        obtain ⟨x0, x1, x2, f0, f1, f2⟩ := three HK.out
        clear hg1)
     | (go_at_call 147; refine (place_any _ x (HR.out.below hB1) (by unfold maxLen; omega)).mono ?_; rintro e w2 ⟨rfl, rfl⟩; rw [HP.out])
     | (go_at_call 95; refine (bad_any _ 3).mono ?_; rintro e w3 ⟨rfl, hb3⟩; unfold resV; clear x0 x1 x2 f0 f1 f2; have HK := hD (HK.out.below hb3); obtain ⟨x0, x1, x2, f0, f1, f2⟩ := three HK.out)
     | fail)
     obtain ⟨k1, k2, k3⟩ := put3 HK.out (.int .i64 3) (.slice none 0 0) (.int .i64 0)
     refine bodyPost_ret (results_tmp_cell_row rfl _ _ _ _ _ _ rfl k1 Tryz.underlying41 rfl (by kernel_rfl)) rfl ?_
     have h3 := k2 w lR (hB1.trans (hb3.mono hB1.size))
     exact ⟨A1, c1, none, 0, rfl, k3 _ _ _ _ _ _ (ownsRow_below hown1 hb3) (by decide), own_nil _ _, h3, h3⟩
   · rw [if_neg hf, if_neg hf, if_neg hf]
     have hfi : ¬ (5 : Int) <= (zs.length : Int) := by omega
     go_enter Tryz.func106, Tryz.ntmps106
     go_upto_region 6 with (first
     | (at_builtin
        refine wpList_append_cells (W := w) cellI (.tmp 7) (.tmp 8) rfl (by rfl) rfl (ownI_at b0 (by simp)) rfl (HR.out.below (b0.alloc (by simp) _)) (iv_one _) (by omega) (by omega) (b0.alloc (by simp) _) ?_
        intro A1 c1 w1 hown1 hB1 hg1
        simp only [Nat.zero_add] at hown1
        have HK := hD (((Blk.new w 41 zeroR).alloc (.cells #[] 3)).apart_own (ownI_at (W := w) b0 (by simp)) (by decide) hg1)
        obtain ⟨x0, x1, x2, f0, f1, f2⟩ := three HK.out
        clear hg1)
     | (go_at_call 147; refine (place_any _ x (HR.out.below hB1) (by unfold maxLen; omega)).mono ?_; rintro e w2 ⟨rfl, rfl⟩; rw [HP.out])
     | fail)
     clear x0 x1 x2 f0 f1 f2
     go_wp2_with (first
      | (at_builtin
         refine wpList_append_cells (W := w) cellI (.tmp 21) (.tmp 23) rfl (by rfl) rfl (ownsRow_below hown1 ((Below.refl _ _).alloc lR _)) rfl (Rd.oneV _ _ _) (by intro u hu; simp at hu; subst hu; rfl) (by omega) (by omega) (hB1.alloc hB1.size _) ?_
         intro A3 c3 w3 hown3 hB3 hg3
         have HK3 := hD ((HK.out.alloc (.cells #[.int .i64 x] 3)).apart_own (ownsRow_below hown1 ((Below.refl _ _).alloc lR _)) (by decide) hg3)
         obtain ⟨x0, x1, x2, f0, f1, f2⟩ := three HK3.out
         clear hg3)
      | fail)
     obtain ⟨k1, k2, k3⟩ := put3 HK3.out (.int .i64 0) (.slice none 0 0) (.int .i64 (zs.length : Int))
     refine bodyPost_ret (results_tmp_cell_row rfl _ _ _ _ _ _ rfl k1 Tryz.underlying41 rfl (by kernel_rfl)) rfl ?_
     have h3 := k2 w lR hB3
     have e : (zs ++ [x]).length = zs.length + 1 := by simp
     have h4 := k3 _ _ _ _ _ _ hown3 (by decide)
     rw [show iv [] ++ iv zs ++ [Value.int .i64 x] = iv (zs ++ [x]) by simp [iv]] at h4
     exact ⟨A3, c3, none, 0, by rw [e]; rfl, by rw [e]; exact h4, own_nil _ _, h3, h3⟩
theorem refTake_any {W w : World} {zs : List Int} {A : Option Addr} {n c B : Nat} (x : Int) (hn : Lim 1 n) (hr : Rd w B A n (iv zs)) (hB : Below W.heap.size W w) :
 Calls Tryz.prog 106 #[.slice A n c, .int .i64 x] w (GotIR W w (takeS zs x) (takeE zs x) (takeN zs x)) :=
 (refTake_raw x hn hr).mono fun e w' h => GotIR.of hB h
set_option maxHeartbeats 2000000 in
set_option maxRecDepth 100000 in
theorem refFree_raw {w : World} {zs : List Int} {A : Option Addr} {n c B : Nat} (x : Int) (hn : Lim 1 n) (hc : n <= c) (hr : Rd w B A n (iv zs)) :
 Calls Tryz.prog 107 #[.slice A n c, .int .i64 x] w (GotIR w w (zs.erase x) (freeE zs x) (freeN zs x)) := by
 have hB := Below.refl w.heap.size w
 have hn := hn.out
 have HR := hD hr.fit
 obtain rfl : zs.length = n := by have := hr.1; rwa [iv_length] at this
 have b0 : Below w.heap.size w (w.alloc (.cells zeroR 41)) := (Below.refl _ _).alloc lR _
 clear hr
 unfold freeE freeN
 by_cases hx : x ∈ zs
 · rw [if_pos hx, if_pos hx]
   obtain ⟨k, hk, hk1, he⟩ := place_lt hx
   have h0 : ¬ (k : Int) < 0 := by omega
   have HP := hD hk
   rw [he]
   obtain ⟨N, hN⟩ : ∃ N, (zs.take k ++ zs.drop (k + 1)).head?.getD (-1) = N := ⟨_, rfl⟩
   obtain ⟨L, hL⟩ : ∃ L, zs.take k ++ zs.drop (k + 1) = L := ⟨_, rfl⟩
   rw [hN, hL]
   rw [hL] at hN
   have HN := hD hN
   have HLL : Hid (iv [] ++ iv (zs.take k) ++ iv (zs.drop (k + 1)) = iv L) := hD (by rw [<- hL]; simp [iv])
   have HLn : Hid (L.length = zs.length - 1) := hD (by rw [<- hL]; simp; omega)
   clear hN hL
   obtain ⟨i0, hi0, _, hi1, _⟩ := info_parts cellI.info
   have e1 : ∀ w : World, (Instr.slice 22 (.slice A zs.length c) none (some (.int .i64 (k : Int))) none).run Tryz.prog w = .ok (.slice A k c) w :=
    fun w => run_slice_to (P := Tryz.prog) Tryz.underlying22 hi0 A zs.length c k (by omega) w
   have e2 : ∀ w : World, (Instr.slice 22 (.slice A zs.length c) (some (.int .i64 ((k : Int) + 1))) none none).run Tryz.prog w = .ok (.slice (cutAt A c (k + 1)) (zs.length - (k + 1)) (c - (k + 1))) w :=
    fun w => by have := run_slice_from (P := Tryz.prog) Tryz.underlying22 hi0 hi1 A zs.length c (k + 1) (by omega) w; rwa [show (((k + 1 : Nat)) : Int) = (k : Int) + 1 by omega] at this
   have hw1 : IntKind.i64.wrap ((k : Int) + 1) = (k : Int) + 1 := IntWalk.i64_in _ (by omega)
   have HR1 := hD (show Rd w w.heap.size A k (iv (zs.take k)) by rw [iv_take]; exact HR.out.take (by omega))
   have HR2 := hD (show Rd w w.heap.size (cutAt A c (k + 1)) (zs.length - (k + 1)) (iv (zs.drop (k + 1))) by rw [iv_drop]; exact HR.out.drop (by omega) hc)
   clear hk hx he hi0 hi1
   go_enter Tryz.func107, Tryz.ntmps107
   go_upto_region 4 with (first
    | (go_at_call 147; refine (place_any _ x (HR.out.below b0) (by unfold maxLen; omega)).mono ?_; rintro e w2 ⟨rfl, rfl⟩; rw [HP.out])
    | fail)
   go_region_law (first
    | (refine step_append_cells (W := w) cellI (.tmp 17) (.tmp 20) rfl rfl (by rfl) (ownI_at b0.drew (by simp)) (by rfl) (HR1.out.below (b0.drew.alloc (by simp) _)) (iv_one _) (by omega) (by omega) (b0.drew.alloc (by simp) _) ?_
       intro A1 c1 w1 hown1 hB1 hg1
       have HK := hD (((Blk.new w 41 zeroR).drew.alloc (.cells #[] 3)).apart_own (ownI_at (W := w) b0.drew (by simp)) (by decide) hg1)
       simp only [Nat.zero_add] at hown1
       clear hg1)
    | (refine step_append_cells (W := w) cellI (.tmp 21) (.tmp 25) rfl rfl (by rfl) hown1 (by rfl) (HR2.out.below hB1) (iv_one _) (by omega) (by omega) hB1 ?_
       intro A2 c2 w2 hown2 hB2 hg2
       have HK2 := hD (HK.out.apart_own hown1 (by decide) hg2)
       have HO2 := hD hown2
       clear hg2 hown2))
   have hmm : k + (zs.length - (k + 1)) = L.length := by have := HLn.out; omega
   rw [hmm]
   have hown : OwnI w w2 A2 L.length c2 L := by have h := HO2.out; rw [hmm, HLL.out] at h; exact h
   have HOW := hD hown
   clear hmm hown HO2 e1 e2 hw1 HR1 HR2 HR HP HK
   rcases Nat.eq_zero_or_pos L.length with h0 | h0
   · have hz : L = [] := List.eq_nil_of_length_eq_zero h0
     subst hz
     have hN : N = -1 := HN.out.symm
     subst hN
     obtain ⟨x0, x1, x2, f0, f1, f2⟩ := three HK2.out
     clear h0
     go_wp2
     obtain ⟨k1, k2, k3⟩ := put3 HK2.out (.int .i64 0) (.slice none 0 0) (.int .i64 (-1))
     refine bodyPost_ret (results_tmp_cell_row rfl _ _ _ _ _ _ rfl k1 Tryz.underlying41 rfl (by kernel_rfl)) rfl ?_
     have h3 := k2 w lR hB2
     exact ⟨none, 0, none, 0, rfl, ownI_nil _ _, own_nil _ _, h3, h3⟩
   · obtain ⟨z, hz⟩ : ∃ z, L[0]? = some z := ⟨_, List.getElem?_eq_getElem h0⟩
     have hv : N = z := by rw [<- HN.out, List.head?_eq_getElem?, hz]; rfl
     subst hv
     obtain ⟨g, rfl, hg1, hg2⟩ := own_addr HOW.out h0
     have hcl := (HOW.out.cellAt 0 (by omega)).trans (iv_get hz)
     obtain ⟨x0, x1, x2, f0, f1, f2⟩ := three HK2.out
     have hne : ¬ (L.length : Int) = 0 := by omega
     have hne2 : ((L.length : Int) == 0) = false := by rw [beq_eq_false_iff_ne]; omega
     clear hz hg1 hg2
     go_wp2
     go_region
     all_goals go_wp2
     obtain ⟨k1, k2, k3⟩ := put3 HK2.out (.int .i64 0) (.slice none 0 0) (.int .i64 N)
     refine bodyPost_ret (results_tmp_cell_row rfl _ _ _ _ _ _ rfl k1.drew Tryz.underlying41 rfl (by kernel_rfl)) rfl ?_
     have h3 := (k2 w lR hB2).drew
     exact ⟨some ⟨g, 0, none⟩, c2, none, 0, rfl, k3 _ _ _ _ _ _ HOW.out (by decide), own_nil _ _, h3, h3⟩
 · rw [if_neg hx, if_neg hx, List.erase_of_not_mem hx]
   have HP := hD (place_no hx)
   clear hx
   go_enter Tryz.func107, Tryz.ntmps107
   go_wp2_with (first
    | (go_at_call 147; refine (place_any _ x (HR.out.below b0) (by unfold maxLen; omega)).mono ?_; rintro e w2 ⟨rfl, rfl⟩; rw [HP.out])
    | (at_builtin
       refine wpList_append_cells (W := w) cellI (.tmp 13) (.tmp 14) rfl (by rfl) rfl (ownI_at b0 (by simp)) rfl (HR.out.below (b0.alloc (by simp) _)) (iv_one _) (by omega) (by omega) (b0.alloc (by simp) _) ?_
       intro A1 c1 w1 hown1 hB1 hg1
       simp only [Nat.zero_add] at hown1
       have HK := hD (((Blk.new w 41 zeroR).alloc (.cells #[] 3)).apart_own (ownI_at (W := w) b0 (by simp)) (by decide) hg1)
       obtain ⟨x0, x1, x2, f0, f1, f2⟩ := three HK.out
       clear hg1)
    | (go_at_call 95; refine (bad_any _ 5).mono ?_; rintro e w3 ⟨rfl, hb3⟩; unfold resV; clear x0 x1 x2 f0 f1 f2; have HK := hD (HK.out.below hb3); obtain ⟨x0, x1, x2, f0, f1, f2⟩ := three HK.out)
    | fail)
   obtain ⟨k1, k2, k3⟩ := put3 HK.out (.int .i64 5) (.slice none 0 0) (.int .i64 0)
   refine bodyPost_ret (results_tmp_cell_row rfl _ _ _ _ _ _ rfl k1 Tryz.underlying41 rfl (by kernel_rfl)) rfl ?_
   have h3 := k2 w lR (hB1.trans (hb3.mono hB1.size))
   exact ⟨A1, c1, none, 0, rfl, k3 _ _ _ _ _ _ (ownsRow_below hown1 hb3) (by decide), own_nil _ _, h3, h3⟩
theorem refFree_any {W w : World} {zs : List Int} {A : Option Addr} {n c B : Nat} (x : Int) (hn : Lim 1 n) (hc : n <= c) (hr : Rd w B A n (iv zs)) (hB : Below W.heap.size W w) :
 Calls Tryz.prog 107 #[.slice A n c, .int .i64 x] w (GotIR W w (zs.erase x) (freeE zs x) (freeN zs x)) :=
 (refFree_raw x hn hc hr).mono fun e w' h => GotIR.of hB h
theorem refOwner_any (w : World) {zs : List Int} {A : Option Addr} {n c B : Nat} (hr : Rd w B A n (iv zs)) :
 Calls Tryz.prog 108 #[.slice A n c] w fun en w' => en = .returned (resV (ownerE zs) none 0 0 (ownerN zs)) /\ Below w.heap.size w w' := by
 obtain rfl : zs.length = n := by have := hr.1; rwa [iv_length] at this
 unfold ownerE ownerN
 rcases Nat.eq_zero_or_pos zs.length with h0 | h0
 · have hz : zs = [] := List.eq_nil_of_length_eq_zero h0
   subst hz
   rw [if_pos h0]
   clear h0 hr
   go_enter Tryz.func108, Tryz.ntmps108
   go_wp2_with (first
    | (go_at_call 95; refine (bad_any _ 5).mono ?_; rintro e w3 ⟨rfl, hb3⟩; unfold resV; have HK := hD ((Blk.new w 41 zeroR).below hb3); obtain ⟨x0, x1, x2, f0, f1, f2⟩ := three HK.out)
    | fail)
   obtain ⟨k1, k2, k3⟩ := put3 HK.out (.int .i64 5) (.slice none 0 0) (.int .i64 0)
   refine bodyPost_ret (results_cell_row rfl _ _ _ _ _ _ _ rfl k1 Tryz.underlying41 rfl (by kernel_rfl)) rfl ?_
   have b0 : Below w.heap.size w (w.alloc (.cells zeroR 41)) := (Below.refl _ _).alloc lR _
   exact ⟨rfl, k2 w lR (b0.trans (hb3.mono b0.size))⟩
 · rw [if_neg (by omega)]
   have hne : ((zs.length : Int) == 0) = false := by rw [beq_eq_false_iff_ne]; omega
   obtain ⟨z, hz⟩ : ∃ z, zs[0]? = some z := ⟨_, List.getElem?_eq_getElem h0⟩
   obtain ⟨b, o, rfl, _⟩ := hr.int_at h0
   have hc := hr.int_cell h0 hz
   have hv : zs.head?.getD 0 = z := by rw [List.head?_eq_getElem?, hz]; rfl
   rw [hv]
   rw [Nat.add_zero] at hc
   have b0 : Below w.heap.size w (w.alloc (.cells zeroR 41)) := (Below.refl _ _).alloc lR _
   have hc0 := (b0.cell (p := ⟨b, o, none⟩) (World.block_lt_of_cell? _ _ hc)).trans hc
   clear hv hz hc hr
   go_enter Tryz.func108, Tryz.ntmps108
   go_wp2
   refine bodyPost_ret (results_cell_row rfl _ _ _ _ _ _ _ rfl (Blk.new w 41 #[.int .i64 0, .slice none 0 0, .int .i64 z]) Tryz.underlying41 rfl (by kernel_rfl)) rfl ?_
   exact ⟨rfl, (Below.refl _ _).alloc lR _⟩
end Go.Proofs.YtlgpglhbbkikpaaGreat
