/- FramMath FramMath2 MesgEnc -/
import Derived.Test.YtlfkgpllleogoaaFQ04
import Derived.Test.YtlfkgpllleogoaaFQ07
import Derived.Test.YtlfkgpllleogoaaFQ28
import Derived.Test.YtlfkgpllleogoaaFQ31
import Derived.Test.YtlfkgpllleogoaaFQ32
namespace Go.Proofs.Ytlfkgpllleogoaa
namespace Fr
def wrapL (l : List Nat) : List Nat := if l = [] then [] else four (Crc.sum l) ++ l
def wrap (m : Mg) : List Nat := wrapL m.enc
def opn (l : List Nat) : Option Mg := if l.length < 4 then none else if l.take 4 = four (Crc.sum (l.drop 4)) then Mg.dec (l.drop 4) else none
theorem wrapL_lt {l : List Nat} (h : ∀ x ∈ l, x < 256) : ∀ x ∈ wrapL l, x < 256 := by
  intro x hx
  unfold wrapL at hx
  split at hx
  · cases hx
  · rcases List.mem_append.1 hx with h' | h'
    · exact four_lt _ x h'
    · exact h x h'
theorem wrapL_len {l : List Nat} (h : l ≠ []) : (wrapL l).length = 4 + l.length := by
  unfold wrapL
  rw [if_neg h, List.length_append, four_len]
theorem wrapL_eq {l : List Nat} (h : l ≠ []) : wrapL l = four (Crc.sum l) ++ l := if_neg h
/-- a row of bytes behind four -/
theorem opn_app (f l : List Nat) (hf : f.length = 4) : opn (f ++ l) = if f = four (Crc.sum l) then Mg.dec l else none := by
  unfold opn
  rw [if_neg (by simp; omega), ← hf, List.take_left, List.drop_left]
theorem opn_wrap {m : Mg} (h : m.ok = true) : opn (wrap m) = some m.bare := by
  unfold wrap
  rw [wrapL_eq (Mg.enc_some h), opn_app _ _ (four_len _), if_pos rfl, Mg.dec_enc h]
/-- what has more behind is none -/
theorem opn_more {m : Mg} (h : m.ok = true) (x : Nat) (r : List Nat) : opn (wrap m ++ x :: r) = none := by
  unfold wrap
  rw [wrapL_eq (Mg.enc_some h), List.append_assoc, opn_app _ _ (four_len _), Mg.dec_more h]
  split <;> rfl
theorem opn_unf (l : List Nat) : opn l = (unf l).bind Mg.dec := by
  unfold opn unf
  split
  · rfl
  · split <;> rfl
theorem opn_short {l : List Nat} (h : l.length < 4) : opn l = none := if_pos h
/-- two messages have two frames -/
theorem wrap_inj {a b : Mg} (ha : a.ok = true) (hb : b.ok = true) (ha' : a.bare = a) (hb' : b.bare = b) : wrap a = wrap b ↔ a = b := by
  constructor
  · intro h
    have e := opn_wrap ha
    rw [h, opn_wrap hb, ha', hb'] at e
    exact (Option.some.inj e).symm
  · rintro rfl; rfl
/-- turned in its sum alone -/
theorem opn_sum {l f : List Nat} (hf : f.length = 4) (hne : f ≠ four (Crc.sum l)) : opn (f ++ l) = none := by
  rw [opn_app _ _ hf, if_neg hne]
/-- turned behind its sum, to what has another -/
theorem opn_body {l y : List Nat} (hl : ∀ x ∈ l, x < 256) (hy : ∀ x ∈ y, x < 256) (hne : Crc.sum y ≠ Crc.sum l) : opn (four (Crc.sum l) ++ y) = none := by
  rw [opn_app _ _ (four_len _), if_neg]
  intro h
  exact hne (four_inj (Crc.sum_lt _ hl) (Crc.sum_lt _ hy) h).symm
theorem enc_len4 {m : Mg} (h : m.ok = true) : 4 ≤ m.enc.length := by
  have h1 : ∀ z, 1 ≤ (eI z).length := fun z => (Pk.enc_length _).1
  unfold Mg.enc
  rw [if_pos h]
  unfold Mg.head
  have e1 := h1 m.kind
  have e2 := h1 m.frm
  have e3 := h1 m.dst
  have e4 := h1 m.view
  simp only [List.length_append]
  omega
end Fr
end Go.Proofs.Ytlfkgpllleogoaa

namespace Go.Proofs.Ytlfkgpllleogoaa
namespace Fr
theorem ext_getD {l m : List Nat} (h : l.length = m.length) (e : ∀ j, j < l.length → l.getD j 0 = m.getD j 0) : l = m := by
  apply List.ext_getElem?
  intro j
  rcases Nat.lt_or_ge j l.length with hj | hj
  · have := e j hj
    rw [List.getD_eq_getElem?_getD, List.getD_eq_getElem?_getD, List.getElem?_eq_getElem hj, List.getElem?_eq_getElem (by omega)] at this
    rw [List.getElem?_eq_getElem hj, List.getElem?_eq_getElem (by omega)]
    simpa using this
  · rw [List.getElem?_eq_none hj, List.getElem?_eq_none (by omega)]
theorem getD_left {f l : List Nat} {j : Nat} (h : j < f.length) : (f ++ l).getD j 0 = f.getD j 0 := by
  rw [List.getD_eq_getElem?_getD, List.getD_eq_getElem?_getD, List.getElem?_append_left h]
theorem getD_right {f l : List Nat} {j : Nat} (h : f.length ≤ j) : (f ++ l).getD j 0 = l.getD (j - f.length) 0 := by
  rw [List.getD_eq_getElem?_getD, List.getD_eq_getElem?_getD, List.getElem?_append_right h]
theorem yto_left (f l : List Nat) (q : Nat) (T : Nat → Nat) (i : Nat) (h : q + i ≤ f.length) : Crc.yto (f ++ l) q T i = Crc.yto f q T i ++ l := by
  have hf := Crc.yto_length f q T i
  refine ext_getD (by rw [Crc.yto_length, List.length_append, List.length_append, hf]) fun j hj => ?_
  rw [Crc.yto_length, List.length_append] at hj
  rw [Crc.yto_get _ _ _ _ _ (by rw [List.length_append]; exact hj)]
  rcases Nat.lt_or_ge j f.length with h1 | h1
  · rw [getD_left h1, getD_left (by rw [hf]; exact h1), Crc.yto_get _ _ _ _ _ h1]
  · rw [getD_right h1, getD_right (by rw [hf]; exact h1), if_neg (by omega), Nat.xor_zero, hf]
theorem yto_right (f l : List Nat) (q : Nat) (T : Nat → Nat) (i : Nat) : Crc.yto (f ++ l) (f.length + q) T i = f ++ Crc.yto l q T i := by
  have hf := Crc.yto_length l q T i
  refine ext_getD (by rw [Crc.yto_length, List.length_append, List.length_append, hf]) fun j hj => ?_
  rw [Crc.yto_length, List.length_append] at hj
  rw [Crc.yto_get _ _ _ _ _ (by rw [List.length_append]; exact hj)]
  rcases Nat.lt_or_ge j f.length with h1 | h1
  · rw [getD_left h1, getD_left h1, if_neg (by omega), Nat.xor_zero]
  · rw [getD_right h1, getD_right h1, Crc.yto_get _ _ _ _ _ (by omega)]
    by_cases h2 : f.length + q ≤ j ∧ j < f.length + q + i
    · rw [if_pos h2, if_pos (by omega)]
      congr 2
      omega
    · rw [if_neg h2, if_neg (by omega)]
theorem yto_none (l : List Nat) (q : Nat) (T : Nat → Nat) (i : Nat) (h : ∀ k, k < i → q + k < l.length → T k = 0) : Crc.yto l q T i = l := by
  refine ext_getD (Crc.yto_length _ _ _ _) fun j hj => ?_
  rw [Crc.yto_length] at hj
  rw [Crc.yto_get _ _ _ _ _ hj]
  by_cases h2 : q ≤ j ∧ j < q + i
  · rw [if_pos h2, h (j - q) (by omega) (by omega), Nat.xor_zero]
  · rw [if_neg h2, Nat.xor_zero]
theorem xor_self_of {a b : Nat} (h : a ^^^ b = a) : b = 0 := by
  have : a ^^^ b = a ^^^ 0 := by rw [h, Nat.xor_zero]
  exact Crc.xor_left this
/-- turned within four bytes, of the sum or behind it -/
theorem opn_burst {m : Mg} (hok : m.ok = true) (hw : m.Wide) (q : Nat) (hq : q = 0 ∨ 4 ≤ q) (hle : q + 4 ≤ (wrap m).length) (T : Nat → Nat) (h8 : ∀ i, T i < 256) :
    opn (Crc.yto (wrap m) q T 4) = if Crc.tto (wrap m).length q T 4 = false then some m.bare else none := by
  have hlt := Mg.enc_lt hok hw
  have hne := Mg.enc_some hok
  have hwr : wrap m = four (Crc.sum m.enc) ++ m.enc := wrapL_eq hne
  by_cases ht : Crc.tto (wrap m).length q T 4 = false
  · rw [if_pos ht, yto_none _ _ _ _ ((Crc.tto_false _ _ _ _).1 ht), opn_wrap hok]
  · rw [if_neg ht]
    rcases hq with rfl | hq
    · have hx : ¬ ∀ k, k < 4 → 0 + k < (wrap m).length → T k = 0 := fun h => ht ((Crc.tto_false _ _ _ _).2 h)
      rw [hwr, yto_left _ _ _ _ _ (by rw [four_len]; omega)]
      refine opn_sum (by rw [Crc.yto_length, four_len]) fun h => hx fun k hk _ => ?_
      have e := Crc.yto_get (four (Crc.sum m.enc)) 0 T 4 k (by rw [four_len]; exact hk)
      rw [h, if_pos (by omega), Nat.sub_zero] at e
      exact xor_self_of e.symm
    · obtain ⟨p, rfl⟩ : ∃ p, q = 4 + p := ⟨q - 4, by omega⟩
      have hlen : (wrap m).length = 4 + m.enc.length := wrapL_len hne
      have e : Crc.yto (wrap m) (4 + p) T 4 = four (Crc.sum m.enc) ++ Crc.yto m.enc p T 4 := by
        rw [hwr]
        exact yto_right (four (Crc.sum m.enc)) m.enc p T 4
      rw [e]
      refine opn_body hlt (Crc.yto_lt _ hlt _ _ h8 _) fun h => ht ?_
      have h1 := (Crc.turned m.enc p (by omega) T h8).1 h
      rw [Crc.tto_false] at h1 ⊢
      intro k hk hkl
      exact h1 k hk (by omega)
/-- one bit is turned -/
theorem opn_bit {m : Mg} (hok : m.ok = true) (hw : m.Wide) (q : Nat) (hq : q < (wrap m).length) (x : Nat) (hx : x < 256) (h0 : x ≠ 0) : opn ((wrap m).set q ((wrap m).getD q 0 ^^^ x)) = none := by
  have hlt := Mg.enc_lt hok hw
  have hne := Mg.enc_some hok
  have hwr : wrap m = four (Crc.sum m.enc) ++ m.enc := wrapL_eq hne
  have hlen : (wrap m).length = 4 + m.enc.length := wrapL_len hne
  rw [hlen] at hq
  rw [hwr]
  rcases Nat.lt_or_ge q 4 with h4 | h4
  · rw [getD_left (by rw [four_len]; exact h4), List.set_append_left _ _ (by rw [four_len]; exact h4)]
    refine opn_sum (by rw [List.length_set, four_len]) fun h => h0 ?_
    have e : ((four (Crc.sum m.enc)).set q ((four (Crc.sum m.enc)).getD q 0 ^^^ x)).getD q 0 = (four (Crc.sum m.enc)).getD q 0 ^^^ x := by
      rw [List.getD_eq_getElem?_getD, List.getElem?_set, if_pos rfl, if_pos (by rw [four_len]; exact h4)]; rfl
    rw [h] at e
    exact xor_self_of e.symm
  · have e4 := four_len (Crc.sum m.enc)
    rw [getD_right (by rw [e4]; exact h4), List.set_append_right _ _ (by rw [e4]; exact h4), e4]
    refine opn_body hlt (fun y hy => ?_) (Crc.one_bit m.enc (q - 4) (by omega) x hx h0)
    rcases List.mem_or_eq_of_mem_set hy with h | h
    · exact hlt y h
    · rw [h]
      refine Crc.xor_lt8 ?_ hx
      rw [List.getD_eq_getElem?_getD, List.getElem?_eq_getElem (by omega)]
      exact hlt _ (List.getElem_mem _)
end Fr
end Go.Proofs.Ytlfkgpllleogoaa

namespace Go.Proofs.Ytlfkgpllleogoaa
open Go.RowKit
set_option linter.unusedVariables false
set_option maxHeartbeats 2000000 in
set_option maxRecDepth 100000 in
theorem encode_raw {w : World} {a : GA} {m : Mg} {B : Nat} (hM : m.Wide) (hr : RdG w B a m) : Calls Try.prog 16 #[msgV a m] w (GotIn w w m.enc) := by
  obtain ⟨g, hg⟩ : ∃ g, w.heap.size = g := ⟨_, rfl⟩
  obtain ⟨wx, hwx⟩ : ∃ wx, (w.alloc (.cells (msgC a m) 29)).alloc (.cells #[.slice none 0 0, .bool false] 64) = wx := ⟨_, rfl⟩
  have hbb : Below w.heap.size w wx := by rw [← hwx]; exact ((Below.refl _ _).alloc (Nat.le_refl _) _).alloc (by rw [World.size_alloc]; omega) _
  have k1 : Blk wx g 29 (msgC a m) := by rw [← hwx, ← hg]; exact (Blk.new _ _ _).alloc _
  have k2 : Blk wx (g + 1) 64 #[.slice none 0 0, .bool false] := by
    rw [← hwx, ← hg]
    have := Blk.new (w.alloc (.cells (msgC a m) 29)) 64 #[.slice none 0 0, .bool false]
    rwa [World.size_alloc] at this
  have hw : WrAt w wx (g + 1) [] false := ⟨none, 0, k2, own_nil _ _, hbb, by omega⟩
  have HC := Lib.hid (walong_any (W := w) (w := wx) (a := a) hw hM hr.fit)
  have HK1 := Lib.hid k1
  have HWX := Lib.hid hwx
  have HG := Lib.hid hg
  have hk0 := Mg.ok_kind (m := m)
  have HE : Hid (m.ok = false → m.enc = []) := Lib.hid (fun h => by unfold Mg.enc; rw [h]; simp)
  obtain ⟨ME, hME⟩ : ∃ x, m.enc = x := ⟨_, rfl⟩
  rw [hME] at HE ⊢
  clear hM hr hbb k1 k2 hw hwx hg hk0
  unfold msgV msgC at HC
  unfold msgC at HK1 HWX
  unfold msgV msgC
  go_enter Try.func16, Try.ntmps16
  go_upto_region 2 with fail
  rw [HG.out, HWX.out]
  clear HWX
  have hbk := HC
  obtain ⟨kv, hkv⟩ : ∃ x : Int, (if wi 8 m.kind = true then m.kind else 0) = x := ⟨_, rfl⟩
  unfold AlongW at HC
  rw [hkv, hME] at HC
  clear hbk
  obtain ⟨ok, hok⟩ : ∃ x, m.ok = x := ⟨_, rfl⟩
  rw [hok] at HC HE
  clear hkv hok
  have hf : ∀ (w : World) (c1 c2 c3 c4 c5 c6 c7 c8 c9 c10 c11 c12 c13 c14 c15 c16 c17 c18 c19 c20 c21 c22 c23 : Value), (Instr.field 29 (.agg #[.int .i64 kv, c1, c2, c3, c4, c5, c6, c7, c8, c9, c10, c11, c12, c13, c14, c15, c16, c17, c18, c19, c20, c21, c22, c23]) 0).run Try.prog w = .ok (.int .i64 kv) w := by intros; kernel_rfl
  by_cases h0 : kv = 0
  · have b0 : (kv == 0) = true := by simpa using h0
    have HC : Hid (Calls Try.prog 39 #[.iface 62 (.pointer (some ⟨g + 1, 0, none⟩)), .agg #[.int .i64 m.kind, .int .i64 m.frm, .int .i64 m.dst, .int .i64 m.view, .int .i64 m.inst, .int .i64 m.len, .bool m.has, .int .i64 m.mem, .int .i64 m.src, .int .i64 m.pos, .int .i64 m.tot, .slice a.Ad m.data.length a.cd, .int .i64 m.hop, .int .i64 m.seq, .slice a.Ah m.hav.length a.ch, .slice a.An m.nee.length a.cn, .int .i64 m.idx, .int .i64 m.ent.s, .int .i64 m.ent.q, .int .i64 m.ent.c.kind, .int .i64 m.ent.c.who, .slice a.c.Ak m.ent.c.key.length a.c.ck, .slice a.c.Av m.ent.c.val.length a.c.cv, .slice a.c.Ao m.ent.c.old.length a.c.co]] wx fun e w' => ∃ (c1 c2 c3 c4 c5 c6 c7 c8 c9 c10 c11 c12 c13 c14 c15 c16 c17 c18 c19 c20 c21 c22 c23 : Value), e = .returned (.agg #[.int .i64 kv, c1, c2, c3, c4, c5, c6, c7, c8, c9, c10, c11, c12, c13, c14, c15, c16, c17, c18, c19, c20, c21, c22, c23]) ∧ Below w.heap.size w w' ∧ ok = false) := Lib.hid (HC.out.mono fun e w' ⟨c1, c2, c3, c4, c5, c6, c7, c8, c9, c10, c11, c12, c13, c14, c15, c16, c17, c18, c19, c20, c21, c22, c23, L, f, q1, ⟨_, _, _, _, q3, _⟩, q4, q5⟩ => ⟨c1, c2, c3, c4, c5, c6, c7, c8, c9, c10, c11, c12, c13, c14, c15, c16, c17, c18, c19, c20, c21, c22, c23, q1, q3, by rw [q4]; simp [h0]⟩)
    clear h0
    go_wp2_with (first
      | (refine wpList_load_row rfl 29 (.tmp 1) rfl g rfl 29 #[.int .i64 m.kind, .int .i64 m.frm, .int .i64 m.dst, .int .i64 m.view, .int .i64 m.inst, .int .i64 m.len, .bool m.has, .int .i64 m.mem, .int .i64 m.src, .int .i64 m.pos, .int .i64 m.tot, .slice a.Ad m.data.length a.cd, .int .i64 m.hop, .int .i64 m.seq, .slice a.Ah m.hav.length a.ch, .slice a.An m.nee.length a.cn, .int .i64 m.idx, .int .i64 m.ent.s, .int .i64 m.ent.q, .int .i64 m.ent.c.kind, .int .i64 m.ent.c.who, .slice a.c.Ak m.ent.c.key.length a.c.ck, .slice a.c.Av m.ent.c.val.length a.c.cv, .slice a.c.Ao m.ent.c.old.length a.c.co] (0, 0) _ HK1.out Try.underlying29 rfl (by kernel_rfl) ?_)
      | (go_at_call 39; refine HC.out.mono ?_; rintro en w1 ⟨c1, c2, c3, c4, c5, c6, c7, c8, c9, c10, c11, c12, c13, c14, c15, c16, c17, c18, c19, c20, c21, c22, c23, rfl, hb1, hno⟩)
      | fail)
    go_ret
    rw [HE.out hno]
    exact ⟨none, 0, rfl, own_nil _ _, hb1, hb1⟩
  · have b0 : (kv == 0) = false := by simpa using h0
    have HC : Hid (Calls Try.prog 39 #[.iface 62 (.pointer (some ⟨g + 1, 0, none⟩)), .agg #[.int .i64 m.kind, .int .i64 m.frm, .int .i64 m.dst, .int .i64 m.view, .int .i64 m.inst, .int .i64 m.len, .bool m.has, .int .i64 m.mem, .int .i64 m.src, .int .i64 m.pos, .int .i64 m.tot, .slice a.Ad m.data.length a.cd, .int .i64 m.hop, .int .i64 m.seq, .slice a.Ah m.hav.length a.ch, .slice a.An m.nee.length a.cn, .int .i64 m.idx, .int .i64 m.ent.s, .int .i64 m.ent.q, .int .i64 m.ent.c.kind, .int .i64 m.ent.c.who, .slice a.c.Ak m.ent.c.key.length a.c.ck, .slice a.c.Av m.ent.c.val.length a.c.cv, .slice a.c.Ao m.ent.c.old.length a.c.co]] wx fun e w' => ∃ (c1 c2 c3 c4 c5 c6 c7 c8 c9 c10 c11 c12 c13 c14 c15 c16 c17 c18 c19 c20 c21 c22 c23 : Value), e = .returned (.agg #[.int .i64 kv, c1, c2, c3, c4, c5, c6, c7, c8, c9, c10, c11, c12, c13, c14, c15, c16, c17, c18, c19, c20, c21, c22, c23]) ∧ ∃ L, WrAt w w' (g + 1) L (!ok) ∧ (ok = true → L = ME)) := Lib.hid (HC.out.mono fun e w' ⟨c1, c2, c3, c4, c5, c6, c7, c8, c9, c10, c11, c12, c13, c14, c15, c16, c17, c18, c19, c20, c21, c22, c23, L, f, q1, q3, q4, q5⟩ => ⟨c1, c2, c3, c4, c5, c6, c7, c8, c9, c10, c11, c12, c13, c14, c15, c16, c17, c18, c19, c20, c21, c22, c23, q1, L, by rw [q4]; simpa [h0] using q3, q5⟩)
    clear h0
    cases ok with
    | false =>
      go_wp2_with (first
        | (refine wpList_load_row rfl 29 (.tmp 1) rfl g rfl 29 #[.int .i64 m.kind, .int .i64 m.frm, .int .i64 m.dst, .int .i64 m.view, .int .i64 m.inst, .int .i64 m.len, .bool m.has, .int .i64 m.mem, .int .i64 m.src, .int .i64 m.pos, .int .i64 m.tot, .slice a.Ad m.data.length a.cd, .int .i64 m.hop, .int .i64 m.seq, .slice a.Ah m.hav.length a.ch, .slice a.An m.nee.length a.cn, .int .i64 m.idx, .int .i64 m.ent.s, .int .i64 m.ent.q, .int .i64 m.ent.c.kind, .int .i64 m.ent.c.who, .slice a.c.Ak m.ent.c.key.length a.c.ck, .slice a.c.Av m.ent.c.val.length a.c.cv, .slice a.c.Ao m.ent.c.old.length a.c.co] (0, 0) _ HK1.out Try.underlying29 rfl (by kernel_rfl) ?_)
        | (go_at_call 39; refine HC.out.mono ?_; rintro en w1 ⟨c1, c2, c3, c4, c5, c6, c7, c8, c9, c10, c11, c12, c13, c14, c15, c16, c17, c18, c19, c20, c21, c22, c23, rfl, L, hw, hL⟩; obtain ⟨A, c, q1, q2, q3, q4⟩ := hw; have x1 : w1.cell? ⟨g + 1, 1, none⟩ = some (.bool true) := q1.cell 1; have HB1 := Lib.hid q3; clear q1 q2 q3 q4)
        | fail)
      go_ret
      rw [HE.out (by first | rfl | trivial)]
      exact ⟨none, 0, rfl, own_nil _ _, HB1.out, HB1.out⟩
    | true =>
      go_wp2_with (first
        | (refine wpList_load_row rfl 29 (.tmp 1) rfl g rfl 29 #[.int .i64 m.kind, .int .i64 m.frm, .int .i64 m.dst, .int .i64 m.view, .int .i64 m.inst, .int .i64 m.len, .bool m.has, .int .i64 m.mem, .int .i64 m.src, .int .i64 m.pos, .int .i64 m.tot, .slice a.Ad m.data.length a.cd, .int .i64 m.hop, .int .i64 m.seq, .slice a.Ah m.hav.length a.ch, .slice a.An m.nee.length a.cn, .int .i64 m.idx, .int .i64 m.ent.s, .int .i64 m.ent.q, .int .i64 m.ent.c.kind, .int .i64 m.ent.c.who, .slice a.c.Ak m.ent.c.key.length a.c.ck, .slice a.c.Av m.ent.c.val.length a.c.cv, .slice a.c.Ao m.ent.c.old.length a.c.co] (0, 0) _ HK1.out Try.underlying29 rfl (by kernel_rfl) ?_)
        | (go_at_call 39; refine HC.out.mono ?_; rintro en w1 ⟨c1, c2, c3, c4, c5, c6, c7, c8, c9, c10, c11, c12, c13, c14, c15, c16, c17, c18, c19, c20, c21, c22, c23, rfl, L, hw, hL⟩; obtain rfl := hL rfl; obtain ⟨A, c, q1, q2, q3, q4⟩ := hw; have x0 : w1.cell? ⟨g + 1, 0, none⟩ = some (.slice A L.length c) := q1.cell 0; have x1 : w1.cell? ⟨g + 1, 1, none⟩ = some (.bool false) := q1.cell 1; have HB1 := Lib.hid q3; have HO := Lib.hid q2; clear q1 q2 q3 q4 hL)
        | fail)
      go_ret
      exact ⟨A, c, rfl, HO.out, HB1.out, HB1.out⟩
theorem encode11 : EncodeC11 := fun hM hr hB => (encode_raw hM hr).mono fun e w' ⟨A, c, h1, h2, h3, h4⟩ => ⟨A, c, h1, own_of hB.size h2, hB.trans (h3.mono hB.size), h4⟩
end Go.Proofs.Ytlfkgpllleogoaa

