/- RegionChain -/
import Derived.Test.YtmekamgohonffaaBF01
import Derived.Test.YtmekamgohonffaaBF48
namespace Go.Proofs.Ytmekamgohonffaa
open Go.RowKit
set_option linter.unusedVariables false
/-- what a region's operations make: values known ahead, rows of its own, and which operation appends onto which; pairs of a row and a flag -/
structure Chn where
  d : Nat → Nat
  eqs : Nat → Option Value
  rows : Nat → Option (List Nat)
  nx : Nat → Option Nat
  prs : Nat → Option (Nat × Bool)
  dep : Nat → List Nat
  tab : Nat
  TB : Value → World → Prop
  fin : Nat
  hinj : ∀ i j, i ≤ fin → j ≤ fin → d i = d j → i = j
def Chn.live (C : Chn) (L : Nat → Bool) (i : Nat) : Prop := L i = true ∧ ∀ k, C.nx i = some k → L k = false
structure JC (C : Chn) (w0 : World) (L : Nat → Bool) (U : Nat → Value) (w : World) : Prop where
  bel : Below w0.heap.size w0 w
  eq : ∀ i u, i ≤ C.fin → C.eqs i = some u → L i = true → U (C.d i) = u
  row : ∀ i l, i ≤ C.fin → C.rows i = some l → C.live L i → ∃ g c, U (C.d i) = .slice (some ⟨g, 0, none⟩) l.length c ∧ w.ownsRow w0.heap.size 5 1 (.slice (some ⟨g, 0, none⟩) l.length c) l.length (bv l)
  ap : ∀ i j l m, i ≤ C.fin → j ≤ C.fin → C.rows i = some l → C.rows j = some m → i ≠ j → C.live L i → C.live L j → (U (C.d i)).ownBlock ≠ (U (C.d j)).ownBlock
  pr : ∀ i p b, i ≤ C.fin → C.prs i = some (p, b) → L i = true → p ≤ C.fin ∧ L p = true ∧ U (C.d i) = .agg #[U (C.d p), .bool b]
  cl : ∀ i j, L i = true → j ∈ C.dep i → L j = true
  tb : L C.tab = true → (∀ j, j < C.tab → L j = true) ∧ C.TB (U (C.d C.tab)) w
  fn : L C.fin = true → L C.tab = true ∧ U (C.d C.fin) = U (C.d C.tab)
section
variable {C : Chn} {w0 w w' : World} {L : Nat → Bool} {U : Nat → Value}
theorem upd_self (i : Nat) (v : Value) : updJ (some (C.d i)) U v (C.d i) = v := if_pos rfl
theorem upd_ne {i j : Nat} (hi : i ≤ C.fin) (hj : j ≤ C.fin) (h : j ≠ i) (v : Value) : updJ (some (C.d i)) U v (C.d j) = U (C.d j) := if_neg (fun e => h (C.hinj j i hj hi e))
theorem live_set' {i j : Nat} (h : j ≠ i) (hl : C.live (setJ L i) j) : C.live L j ∧ C.nx j ≠ some i := by
  obtain ⟨h1, h2⟩ := hl
  rw [setJ_ne h] at h1
  have hn : C.nx j ≠ some i := fun e => by have := h2 i e; rw [setJ_self] at this; cases this
  refine ⟨⟨h1, fun k hk => ?_⟩, hn⟩
  have := h2 k hk
  rwa [setJ_ne (fun e => hn (by rw [hk, e]))] at this
theorem cl_set {i : Nat} (H : ∀ i j, L i = true → j ∈ C.dep i → L j = true) (hd : ∀ j ∈ C.dep i, L j = true) : ∀ k j, setJ L i k = true → j ∈ C.dep k → setJ L i j = true := by
  intro k j hk hj
  by_cases hji : j = i
  · subst hji; exact setJ_self _ _
  · rw [setJ_ne hji]
    by_cases hki : k = i
    · subst hki; exact hd j hj
    · rw [setJ_ne hki] at hk; exact H k j hk hj
theorem JC.all (H : JC C w0 L U w) (cons : Nat → Nat) (hc : ∀ j, j < C.tab → j < cons j ∧ cons j ≤ C.tab ∧ j ∈ C.dep (cons j)) (ht : ∀ j ∈ C.dep C.tab, L j = true) : ∀ j, j < C.tab → L j = true := by
  have key : ∀ n j, C.tab - j ≤ n → j < C.tab → L j = true := by
    intro n
    induction n with
    | zero => intro j h1 h2; omega
    | succ n ih =>
      intro j h1 h2
      obtain ⟨q1, q2, q3⟩ := hc j h2
      by_cases hct : cons j = C.tab
      · rw [hct] at q3; exact ht j q3
      · exact H.cl _ _ (ih (cons j) (by omega) (by omega)) q3
  exact fun j hj => key _ j (Nat.le_refl _) hj
/-- what stays of the rest where operation i is done -/
theorem JC.rest {i : Nat} {v : Value} (H : JC C w0 L U w) (hi : i ≤ C.fin) (hit : i < C.tab) (hL : L i = false) :
    (∀ j u, j ≤ C.fin → C.eqs j = some u → j ≠ i → setJ L i j = true → updJ (some (C.d i)) U v (C.d j) = u) ∧
    (∀ j p b, j ≤ C.fin → C.prs j = some (p, b) → j ≠ i → setJ L i j = true → p ≤ C.fin ∧ setJ L i p = true ∧ updJ (some (C.d i)) U v (C.d j) = .agg #[updJ (some (C.d i)) U v (C.d p), .bool b]) ∧
    L C.tab = false ∧ L C.fin = false := by
  have ht : L C.tab = false := by
    cases h : L C.tab with
    | false => rfl
    | true => have := (H.tb h).1 i hit; rw [hL] at this; cases this
  have hf : L C.fin = false := by
    cases h : L C.fin with
    | false => rfl
    | true => have := (H.fn h).1; rw [ht] at this; cases this
  refine ⟨fun j u hj hu hne hl => ?_, fun j p b hj hp hne hl => ?_, ht, hf⟩
  · rw [setJ_ne hne] at hl
    rw [upd_ne hi hj hne]
    exact H.eq j u hj hu hl
  · rw [setJ_ne hne] at hl
    obtain ⟨h0, h1, h2⟩ := H.pr j p b hj hp hl
    have hpi : p ≠ i := fun e => by subst e; rw [hL] at h1; cases h1
    refine ⟨h0, by rw [setJ_ne hpi]; exact h1, ?_⟩
    rw [upd_ne hi hj hne, upd_ne hi h0 hpi]
    exact h2
theorem JC.tail {i : Nat} {v : Value} {w' : World} (hit : i < C.tab) (htf : C.tab < C.fin) (ht : L C.tab = false) (hf : L C.fin = false) :
    (setJ L i C.tab = true → (∀ j, j < C.tab → setJ L i j = true) ∧ C.TB (updJ (some (C.d i)) U v (C.d C.tab)) w') ∧ (setJ L i C.fin = true → setJ L i C.tab = true ∧ updJ (some (C.d i)) U v (C.d C.fin) = updJ (some (C.d i)) U v (C.d C.tab)) :=
  ⟨fun h => (by rw [setJ_ne (by omega), ht] at h; cases h), fun h => (by rw [setJ_ne (by omega), hf] at h; cases h)⟩
/-- a value that is known -/
theorem JC.put_eq {i : Nat} {u : Value} (H : JC C w0 L U w) (hi : i ≤ C.fin) (hit : i < C.tab) (htf : C.tab < C.fin) (hL : L i = false) (hd : ∀ j ∈ C.dep i, L j = true) (he : C.eqs i = some u) (hr : C.rows i = none) (hp : C.prs i = none) : JC C w0 (setJ L i) (updJ (some (C.d i)) U u) w := by
  obtain ⟨e1, e2, ht, hf⟩ := H.rest (v := u) hi hit hL
  obtain ⟨t1, t2⟩ := JC.tail (C := C) (U := U) (v := u) (w' := w) hit htf ht hf
  refine ⟨H.bel, fun j x hj hx hl => ?_, fun j l hj hl hv => ?_, fun j k l m hj hk hl hm hne h1 h2 => ?_, fun j p b hj hx hl => ?_, cl_set H.cl hd, t1, t2⟩
  · by_cases h : j = i
    · subst h; rw [upd_self]; rw [he] at hx; injection hx
    · exact e1 j x hj hx h hl
  · have h : j ≠ i := fun e => by subst e; rw [hr] at hl; cases hl
    rw [upd_ne hi hj h]
    exact H.row j l hj hl (live_set' h hv).1
  · have hj' : j ≠ i := fun e => by subst e; rw [hr] at hl; cases hl
    have hk' : k ≠ i := fun e => by subst e; rw [hr] at hm; cases hm
    rw [upd_ne hi hj hj', upd_ne hi hk hk']
    exact H.ap j k l m hj hk hl hm hne (live_set' hj' h1).1 (live_set' hk' h2).1
  · have h : j ≠ i := fun e => by subst e; rw [hp] at hx; cases hx
    exact e2 j p b hj hx h hl
/-- a pair -/
theorem JC.put_pr {i p : Nat} {b : Bool} (H : JC C w0 L U w) (hi : i ≤ C.fin) (hit : i < C.tab) (htf : C.tab < C.fin) (hL : L i = false) (hd : ∀ j ∈ C.dep i, L j = true) (he : C.eqs i = none) (hr : C.rows i = none) (hp : C.prs i = some (p, b)) (hpf : p ≤ C.fin) (hLp : L p = true) :
    JC C w0 (setJ L i) (updJ (some (C.d i)) U (.agg #[U (C.d p), .bool b])) w := by
  obtain ⟨e1, e2, ht, hf⟩ := H.rest (v := .agg #[U (C.d p), .bool b]) hi hit hL
  obtain ⟨t1, t2⟩ := JC.tail (C := C) (U := U) (v := .agg #[U (C.d p), .bool b]) (w' := w) hit htf ht hf
  refine ⟨H.bel, fun j x hj hx hl => ?_, fun j l hj hl hv => ?_, fun j k l m hj hk hl hm hne h1 h2 => ?_, fun j q c hj hx hl => ?_, cl_set H.cl hd, t1, t2⟩
  · have h : j ≠ i := fun e => by subst e; rw [he] at hx; cases hx
    exact e1 j x hj hx h hl
  · have h : j ≠ i := fun e => by subst e; rw [hr] at hl; cases hl
    rw [upd_ne hi hj h]
    exact H.row j l hj hl (live_set' h hv).1
  · have hj' : j ≠ i := fun e => by subst e; rw [hr] at hl; cases hl
    have hk' : k ≠ i := fun e => by subst e; rw [hr] at hm; cases hm
    rw [upd_ne hi hj hj', upd_ne hi hk hk']
    exact H.ap j k l m hj hk hl hm hne (live_set' hj' h1).1 (live_set' hk' h2).1
  · by_cases h : j = i
    · subst h
      rw [hp] at hx
      injection hx with hx
      injection hx with h1 h2
      subst h1 h2
      have hpi : p ≠ j := fun e => by subst e; rw [hL] at hLp; cases hLp
      exact ⟨hpf, by rw [setJ_ne hpi]; exact hLp, by rw [upd_self, upd_ne hi hpf hpi]⟩
    · exact e2 j q c hj hx h hl
/-- a row, made anew or out of row s -/
theorem JC.put_row {i g c : Nat} {l : List Nat} (H : JC C w0 L U w) (hi : i ≤ C.fin) (hit : i < C.tab) (htf : C.tab < C.fin) (hL : L i = false) (hd : ∀ j ∈ C.dep i, L j = true) (he : C.eqs i = none) (hr : C.rows i = some l) (hp : C.prs i = none)
    (hbel : Below w0.heap.size w0 w') (hown : w'.ownsRow w0.heap.size 5 1 (.slice (some ⟨g, 0, none⟩) l.length c) l.length (bv l))
    (hkeep : ∀ j m, j ≤ C.fin → C.rows j = some m → C.live L j → C.nx j ≠ some i → (∀ g' c', U (C.d j) = .slice (some ⟨g', 0, none⟩) m.length c' → w.ownsRow w0.heap.size 5 1 (.slice (some ⟨g', 0, none⟩) m.length c') m.length (bv m) → w'.ownsRow w0.heap.size 5 1 (.slice (some ⟨g', 0, none⟩) m.length c') m.length (bv m) ∧ g' ≠ g)) :
    JC C w0 (setJ L i) (updJ (some (C.d i)) U (.slice (some ⟨g, 0, none⟩) l.length c)) w' := by
  obtain ⟨e1, e2, ht, hf⟩ := H.rest (v := .slice (some ⟨g, 0, none⟩) l.length c) hi hit hL
  obtain ⟨t1, t2⟩ := JC.tail (C := C) (U := U) (v := .slice (some ⟨g, 0, none⟩) l.length c) (w' := w') hit htf ht hf
  have key : ∀ j m, j ≤ C.fin → j ≠ i → C.rows j = some m → C.live (setJ L i) j → ∃ g' c', U (C.d j) = .slice (some ⟨g', 0, none⟩) m.length c' ∧ w'.ownsRow w0.heap.size 5 1 (.slice (some ⟨g', 0, none⟩) m.length c') m.length (bv m) ∧ g' ≠ g := by
    intro j m hj hne hm hl
    obtain ⟨hl', hn⟩ := live_set' hne hl
    obtain ⟨g', c', h1, h2⟩ := H.row j m hj hm hl'
    obtain ⟨h3, h4⟩ := hkeep j m hj hm hl' hn g' c' h1 h2
    exact ⟨g', c', h1, h3, h4⟩
  refine ⟨hbel, fun j x hj hx hl => ?_, fun j m hj hm hv => ?_, fun j k m n hj hk hm hn hne h1 h2 => ?_, fun j q b hj hx hl => ?_, cl_set H.cl hd, t1, t2⟩
  · have h : j ≠ i := fun e => by subst e; rw [he] at hx; cases hx
    exact e1 j x hj hx h hl
  · by_cases h : j = i
    · subst h
      rw [hr] at hm
      injection hm with hm
      subst hm
      exact ⟨g, c, by rw [upd_self], hown⟩
    · obtain ⟨g', c', q1, q2, _⟩ := key j m hj h hm hv
      exact ⟨g', c', by rw [upd_ne hi hj h]; exact q1, q2⟩
  · by_cases h : j = i
    · subst h
      obtain ⟨g', c', q1, q2, q3⟩ := key k n hk (fun e => hne e.symm) hn h2
      rw [upd_self, upd_ne hi hk (fun e => hne e.symm), q1]
      intro e
      simp only [Value.ownBlock, Option.some.injEq] at e
      exact q3 (by simpa using e.symm)
    · by_cases h' : k = i
      · subst h'
        obtain ⟨g', c', q1, q2, q3⟩ := key j m hj h hm h1
        rw [upd_self, upd_ne hi hj h, q1]
        intro e
        simp only [Value.ownBlock, Option.some.injEq] at e
        exact q3 (by simpa using e)
      · rw [upd_ne hi hj h, upd_ne hi hk h']
        exact H.ap j k m n hj hk hm hn hne (live_set' h h1).1 (live_set' h' h2).1
  · have h : j ≠ i := fun e => by subst e; rw [hp] at hx; cases hx
    exact e2 j q b hj hx h hl
/-- a new block of bytes -/
theorem JC.put_new {i : Nat} {l : List Nat} {cs : Array Value} (H : JC C w0 L U w) (hi : i ≤ C.fin) (hit : i < C.tab) (htf : C.tab < C.fin) (hL : L i = false) (hd : ∀ j ∈ C.dep i, L j = true) (he : C.eqs i = none) (hr : C.rows i = some l) (hp : C.prs i = none) (hcs : cs.toList = bv l) (hlm : l.length ≤ 1000) :
    JC C w0 (setJ L i) (updJ (some (C.d i)) U (.slice (some ⟨w.heap.size, 0, none⟩) l.length l.length)) (w.alloc (.cells cs 5)) := by
  have hb : Below w.heap.size w (w.alloc (.cells cs 5)) := (Below.refl _ _).alloc (Nat.le_refl _) _
  refine H.put_row hi hit htf hL hd he hr hp (H.bel.alloc H.bel.size _) ?_ (fun j m hj hm hl hn g' c' h1 h2 => ⟨ownsRow_below h2 hb, fun e => ?_⟩)
  · have hlen : (bv l).length = l.length := by simp [bv]
    refine ⟨by rw [hlen, Nat.mul_one], .inr ⟨w.heap.size, l.length, cs, rfl, H.bel.size, Blk.new _ _ _, Nat.le_refl _, by unfold maxLen; omega, ?_, ?_⟩⟩
    · rw [← Array.length_toList, hcs, hlen, Nat.mul_one]
    · rw [hcs, Nat.mul_one, List.take_of_length_le (by omega)]
  · have := (h2.lt g' rfl).2; omega
theorem chn_apart {w w' : World} {base g g' n c : Nat} {xs : List Value} (h : w.ownsRow base 5 1 (.slice (some ⟨g', 0, none⟩) n c) n xs) (hg : w.grownBy w' (some g)) (hne : g' ≠ g) : w'.ownsRow base 5 1 (.slice (some ⟨g', 0, none⟩) n c) n xs := by
  obtain ⟨h1, h2⟩ := h
  refine ⟨h1, .inr ?_⟩
  rcases h2 with ⟨h2, _⟩ | ⟨g2, cap, cur, q1, q2, q3, q4⟩
  · cases h2
  · injection q1 with q1 q1b q1c
    injection q1 with q1
    injection q1 with q1
    subst q1
    subst q1c
    have hlt : g' < w.heap.size := (Array.getElem?_eq_some_iff.1 q3).1
    exact ⟨g', c, cur, rfl, q2, (hg.block g' hlt (by intro e; injection e with e; exact hne e)).trans q3, q4⟩
/-- an append onto row p -/
theorem JC.app {P : Program} {t : TypeId} (hT : ByteT P t 5) {o : Oper} {a : Act} {K : Act → World → Prop} {Q : Exit → Act → World → Prop} {i p B m c' : Nat} {l lx : List Nat} {A' : Option Addr} {s x : Operand} (H : JC C w0 L U w) (hi : i ≤ C.fin) (hit : i < C.tab) (htf : C.tab < C.fin) (hL : L i = false) (hdp : ∀ j ∈ C.dep i, L j = true) (he : C.eqs i = none) (hr : C.rows i = some (l ++ lx)) (hp : C.prs i = none)
    (hpf : p ≤ C.fin) (hrp : C.rows p = some l) (hLp : L p = true) (hnp : C.nx p = some i)
    (ho : o.op = .call { callee := .builtin .append, args := #[s, x], argTypes := #[t, t] }) (hd : o.dst = some (C.d i)) (hs : a.eval s = U (C.d p)) (hx : a.eval x = .slice A' m c') (hrd : Rd w B A' m (bv lx)) (hlen : l.length + m ≤ 1000) (hpos : 0 < l.length + m)
    (hK : ∀ v w', JC C w0 (setJ L i) (updJ (some (C.d i)) U v) w' → K (a.put (some (C.d i)) v) w') : Oper.wp P o a w K Q := by
  have hlive : C.live L p := ⟨hLp, fun k hk => by rw [hnp] at hk; injection hk with hk; subst hk; exact hL⟩
  obtain ⟨g, c, e1, hown⟩ := H.row p l hpf hrp hlive
  obtain ⟨i9, hi1, hz, hsz, hbi⟩ := info_parts hT.info
  have hm : m = lx.length := by have := hrd.1; simpa [bv] using this.symm
  obtain ⟨v', w', hrun, h2, h3, h4⟩ := run_append_rd (P := P) w w0.heap.size t o.type 5 i9 (.int .u8 0) 1 hT.under hi1 hz hsz hbi rfl _ l.length (bv l) hown B A' m c' (bv lx) hrd Rd.oneCell (by unfold maxLen; omega) (by omega) H.bel.size
  rw [← bv_append] at h2
  obtain ⟨A2, c2, rfl, hr2⟩ := Rd.of_own h2
  obtain ⟨g2, rfl, hg2, hg2'⟩ := own_addr h2 hpos
  have hlen2 : l.length + m = (l ++ lx).length := by rw [List.length_append, hm]
  rw [hlen2] at h2 hrun
  have hgr : w.grownBy w' (some g) := h3
  have hgg : g2 = g ∨ g2 = w.heap.size := by
    rcases h4 with h4 | h4
    · left; simpa [Value.ownBlock] using h4
    · right; simpa [Value.ownBlock] using h4
  have hgo := hK _ _ (H.put_row (g := g2) (c := c2) hi hit htf hL hdp he hr hp (H.bel.grown hgr H.bel.size (fun k hk => by injection hk with hk; subst hk; exact (hown.lt g rfl).1)) h2 (fun j mm hj hmm hl hn g' cc q1 q2 => by
    have hjp : j ≠ p := fun e => by subst e; exact hn hnp
    have hne : g' ≠ g := by
      have := H.ap j p mm l hj hpf hmm hrp hjp hl hlive
      rw [q1, e1] at this
      intro e
      subst e
      exact this rfl
    refine ⟨chn_apart q2 hgr hne, ?_⟩
    rcases hgg with e | e
    · rw [e]; exact hne
    · have := (q2.lt g' rfl).2; omega))
  unfold Oper.wp execOp
  rw [← hd] at hgo
  simp only [ho, resolve, invoke, builtin, Sem.run_bind, Sem.run_pure, Result.andThen_ok, List.map_toArray, List.map_cons, List.map_nil, hs, e1, hx, hrun]
  exact hgo
/-- the table -/
theorem JC.put_tab {v : Value} (H : JC C w0 L U w) (htf : C.tab < C.fin) (hL : L C.tab = false) (hall : ∀ j, j < C.tab → L j = true) (hd : ∀ j ∈ C.dep C.tab, L j = true) (he : C.eqs C.tab = none) (hr : C.rows C.tab = none) (hp : C.prs C.tab = none) (hB : Below w.heap.size w w') (hT : C.TB v w') (hnr : ∀ j, C.nx j ≠ some C.tab) :
    JC C w0 (setJ L C.tab) (updJ (some (C.d C.tab)) U v) w' := by
  have hi : C.tab ≤ C.fin := by omega
  have hf : L C.fin = false := by
    cases h : L C.fin with
    | false => rfl
    | true => have := (H.fn h).1; rw [hL] at this; cases this
  refine ⟨H.bel.trans (hB.mono H.bel.size), fun j x hj hx hl => ?_, fun j l hj hl hv => ?_, fun j k l m hj hk hl hm hne h1 h2 => ?_, fun j p b hj hx hl => ?_, cl_set H.cl hd, fun _ => ⟨fun j hj => by rw [setJ_ne (by omega)]; exact hall j hj, by rw [upd_self]; exact hT⟩, fun h => (by rw [setJ_ne (by omega), hf] at h; cases h)⟩
  · have h : j ≠ C.tab := fun e => by subst e; rw [he] at hx; cases hx
    rw [setJ_ne h] at hl
    rw [upd_ne hi hj h]
    exact H.eq j x hj hx hl
  · have h : j ≠ C.tab := fun e => by subst e; rw [hr] at hl; cases hl
    obtain ⟨g, c, q1, q2⟩ := H.row j l hj hl (live_set' h hv).1
    exact ⟨g, c, by rw [upd_ne hi hj h]; exact q1, ownsRow_below q2 hB⟩
  · have hj' : j ≠ C.tab := fun e => by subst e; rw [hr] at hl; cases hl
    have hk' : k ≠ C.tab := fun e => by subst e; rw [hr] at hm; cases hm
    rw [upd_ne hi hj hj', upd_ne hi hk hk']
    exact H.ap j k l m hj hk hl hm hne (live_set' hj' h1).1 (live_set' hk' h2).1
  · have h : j ≠ C.tab := fun e => by subst e; rw [hp] at hx; cases hx
    rw [setJ_ne h] at hl
    obtain ⟨h0, h1, h2⟩ := H.pr j p b hj hx hl
    have hpi : p ≠ C.tab := fun e => by subst e; rw [hL] at h1; cases h1
    exact ⟨h0, by rw [setJ_ne hpi]; exact h1, by rw [upd_ne hi hj h, upd_ne hi h0 hpi]; exact h2⟩
theorem JC.put_fin (H : JC C w0 L U w) (htf : C.tab < C.fin) (hL : L C.fin = false) (hd : ∀ j ∈ C.dep C.fin, L j = true) (ht : L C.tab = true) (he : C.eqs C.fin = none) (hr : C.rows C.fin = none) (hp : C.prs C.fin = none) (hnr : ∀ j, C.nx j ≠ some C.fin) :
    JC C w0 (setJ L C.fin) (updJ (some (C.d C.fin)) U (U (C.d C.tab))) w := by
  have hi : C.fin ≤ C.fin := by omega
  have hne : C.tab ≠ C.fin := by omega
  obtain ⟨t1, t2⟩ := H.tb ht
  refine ⟨H.bel, fun j x hj hx hl => ?_, fun j l hj hl hv => ?_, fun j k l m hj hk hl hm hne h1 h2 => ?_, fun j p b hj hx hl => ?_, cl_set H.cl hd, fun _ => ⟨fun j hj => by rw [setJ_ne (by omega)]; exact t1 j hj, by rw [upd_ne hi (by omega) hne]; exact t2⟩, fun _ => ⟨by rw [setJ_ne hne]; exact ht, by rw [upd_self, upd_ne hi (by omega) hne]⟩⟩
  · have h : j ≠ C.fin := fun e => by subst e; rw [he] at hx; cases hx
    rw [setJ_ne h] at hl
    rw [upd_ne hi hj h]
    exact H.eq j x hj hx hl
  · have h : j ≠ C.fin := fun e => by subst e; rw [hr] at hl; cases hl
    obtain ⟨g, c, q1, q2⟩ := H.row j l hj hl (live_set' h hv).1
    exact ⟨g, c, by rw [upd_ne hi hj h]; exact q1, q2⟩
  · have hj' : j ≠ C.fin := fun e => by subst e; rw [hr] at hl; cases hl
    have hk' : k ≠ C.fin := fun e => by subst e; rw [hr] at hm; cases hm
    rw [upd_ne hi hj hj', upd_ne hi hk hk']
    exact H.ap j k l m hj hk hl hm hne (live_set' hj' h1).1 (live_set' hk' h2).1
  · have h : j ≠ C.fin := fun e => by subst e; rw [hp] at hx; cases hx
    rw [setJ_ne h] at hl
    obtain ⟨h0, h1, h2⟩ := H.pr j p b hj hx hl
    have hpi : p ≠ C.fin := fun e => by subst e; rw [hL] at h1; cases h1
    exact ⟨h0, by rw [setJ_ne hpi]; exact h1, by rw [upd_ne hi hj h, upd_ne hi h0 hpi]; exact h2⟩
end
end Go.Proofs.Ytmekamgohonffaa

