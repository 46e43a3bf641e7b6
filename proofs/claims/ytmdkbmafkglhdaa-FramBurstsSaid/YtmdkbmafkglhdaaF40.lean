/- FramMath2 -/
import Derived.Test.YtmdkbmafkglhdaaF39
namespace Go.Proofs.Ytmdkbmafkglhdaa
namespace Fr
theorem ext_getD {l m : List Nat} (h : l.length = m.length) (e : ∀ j, j < l.length → l.getD j 0 = m.getD j 0) : l = m := by
  apply List.ext_getElem?
  intro j
  rcases Nat.lt_or_ge j l.length with hj | hj
  · have := e j hj
    rw [List.getD_eq_getElem?_getD, List.getD_eq_getElem?_getD, List.getElem?_eq_getElem hj, List.getElem?_eq_getElem (by omega)] at this
    rw [List.getElem?_eq_getElem hj, List.getElem?_eq_getElem (by omega)]
    simpa using this
  · rw [List.getElem?_eq_none hj, List.getElem?_eq_none (by omega)]
theorem getD_left {f l : List Nat} {j : Nat} (h : j < f.length) : (f ++ l).getD j 0 = f.getD j 0 := by
  rw [List.getD_eq_getElem?_getD, List.getD_eq_getElem?_getD, List.getElem?_append_left h]
theorem getD_right {f l : List Nat} {j : Nat} (h : f.length ≤ j) : (f ++ l).getD j 0 = l.getD (j - f.length) 0 := by
  rw [List.getD_eq_getElem?_getD, List.getD_eq_getElem?_getD, List.getElem?_append_right h]
theorem yto_left (f l : List Nat) (q : Nat) (T : Nat → Nat) (i : Nat) (h : q + i ≤ f.length) : Crc.yto (f ++ l) q T i = Crc.yto f q T i ++ l := by
  have hf := Crc.yto_length f q T i
  refine ext_getD (by rw [Crc.yto_length, List.length_append, List.length_append, hf]) fun j hj => ?_
  rw [Crc.yto_length, List.length_append] at hj
  rw [Crc.yto_get _ _ _ _ _ (by rw [List.length_append]; exact hj)]
  rcases Nat.lt_or_ge j f.length with h1 | h1
  · rw [getD_left h1, getD_left (by rw [hf]; exact h1), Crc.yto_get _ _ _ _ _ h1]
  · rw [getD_right h1, getD_right (by rw [hf]; exact h1), if_neg (by omega), Nat.xor_zero, hf]
theorem yto_right (f l : List Nat) (q : Nat) (T : Nat → Nat) (i : Nat) : Crc.yto (f ++ l) (f.length + q) T i = f ++ Crc.yto l q T i := by
  have hf := Crc.yto_length l q T i
  refine ext_getD (by rw [Crc.yto_length, List.length_append, List.length_append, hf]) fun j hj => ?_
  rw [Crc.yto_length, List.length_append] at hj
  rw [Crc.yto_get _ _ _ _ _ (by rw [List.length_append]; exact hj)]
  rcases Nat.lt_or_ge j f.length with h1 | h1
  · rw [getD_left h1, getD_left h1, if_neg (by omega), Nat.xor_zero]
  · rw [getD_right h1, getD_right h1, Crc.yto_get _ _ _ _ _ (by omega)]
    by_cases h2 : f.length + q ≤ j ∧ j < f.length + q + i
    · rw [if_pos h2, if_pos (by omega)]
      congr 2
      omega
    · rw [if_neg h2, if_neg (by omega)]
theorem yto_none (l : List Nat) (q : Nat) (T : Nat → Nat) (i : Nat) (h : ∀ k, k < i → q + k < l.length → T k = 0) : Crc.yto l q T i = l := by
  refine ext_getD (Crc.yto_length _ _ _ _) fun j hj => ?_
  rw [Crc.yto_length] at hj
  rw [Crc.yto_get _ _ _ _ _ hj]
  by_cases h2 : q ≤ j ∧ j < q + i
  · rw [if_pos h2, h (j - q) (by omega) (by omega), Nat.xor_zero]
  · rw [if_neg h2, Nat.xor_zero]
theorem xor_self_of {a b : Nat} (h : a ^^^ b = a) : b = 0 := by
  have : a ^^^ b = a ^^^ 0 := by rw [h, Nat.xor_zero]
  exact Crc.xor_left this
/-- turned within four bytes, of the sum or behind it -/
theorem opn_burst {m : Mg} (hok : m.ok = true) (hw : m.Wide) (q : Nat) (hq : q = 0 ∨ 4 ≤ q) (hle : q + 4 ≤ (wrap m).length) (T : Nat → Nat) (h8 : ∀ i, T i < 256) :
    opn (Crc.yto (wrap m) q T 4) = if Crc.tto (wrap m).length q T 4 = false then some m.bare else none := by
  have hlt := Mg.enc_lt hok hw
  have hne := Mg.enc_some hok
  have hwr : wrap m = four (Crc.sum m.enc) ++ m.enc := wrapL_eq hne
  by_cases ht : Crc.tto (wrap m).length q T 4 = false
  · rw [if_pos ht, yto_none _ _ _ _ ((Crc.tto_false _ _ _ _).1 ht), opn_wrap hok]
  · rw [if_neg ht]
    rcases hq with rfl | hq
    · have hx : ¬ ∀ k, k < 4 → 0 + k < (wrap m).length → T k = 0 := fun h => ht ((Crc.tto_false _ _ _ _).2 h)
      rw [hwr, yto_left _ _ _ _ _ (by rw [four_len]; omega)]
      refine opn_sum (by rw [Crc.yto_length, four_len]) fun h => hx fun k hk _ => ?_
      have e := Crc.yto_get (four (Crc.sum m.enc)) 0 T 4 k (by rw [four_len]; exact hk)
      rw [h, if_pos (by omega), Nat.sub_zero] at e
      exact xor_self_of e.symm
    · obtain ⟨p, rfl⟩ : ∃ p, q = 4 + p := ⟨q - 4, by omega⟩
      have hlen : (wrap m).length = 4 + m.enc.length := wrapL_len hne
      have e : Crc.yto (wrap m) (4 + p) T 4 = four (Crc.sum m.enc) ++ Crc.yto m.enc p T 4 := by
        rw [hwr]
        exact yto_right (four (Crc.sum m.enc)) m.enc p T 4
      rw [e]
      refine opn_body hlt (Crc.yto_lt _ hlt _ _ h8 _) fun h => ht ?_
      have h1 := (Crc.turned m.enc p (by omega) T h8).1 h
      rw [Crc.tto_false] at h1 ⊢
      intro k hk hkl
      exact h1 k hk (by omega)
/-- one bit is turned -/
theorem opn_bit {m : Mg} (hok : m.ok = true) (hw : m.Wide) (q : Nat) (hq : q < (wrap m).length) (x : Nat) (hx : x < 256) (h0 : x ≠ 0) : opn ((wrap m).set q ((wrap m).getD q 0 ^^^ x)) = none := by
  have hlt := Mg.enc_lt hok hw
  have hne := Mg.enc_some hok
  have hwr : wrap m = four (Crc.sum m.enc) ++ m.enc := wrapL_eq hne
  have hlen : (wrap m).length = 4 + m.enc.length := wrapL_len hne
  rw [hlen] at hq
  rw [hwr]
  rcases Nat.lt_or_ge q 4 with h4 | h4
  · rw [getD_left (by rw [four_len]; exact h4), List.set_append_left _ _ (by rw [four_len]; exact h4)]
    refine opn_sum (by rw [List.length_set, four_len]) fun h => h0 ?_
    have e : ((four (Crc.sum m.enc)).set q ((four (Crc.sum m.enc)).getD q 0 ^^^ x)).getD q 0 = (four (Crc.sum m.enc)).getD q 0 ^^^ x := by
      rw [List.getD_eq_getElem?_getD, List.getElem?_set, if_pos rfl, if_pos (by rw [four_len]; exact h4)]; rfl
    rw [h] at e
    exact xor_self_of e.symm
  · have e4 := four_len (Crc.sum m.enc)
    rw [getD_right (by rw [e4]; exact h4), List.set_append_right _ _ (by rw [e4]; exact h4), e4]
    refine opn_body hlt (fun y hy => ?_) (Crc.one_bit m.enc (q - 4) (by omega) x hx h0)
    rcases List.mem_or_eq_of_mem_set hy with h | h
    · exact hlt y h
    · rw [h]
      refine Crc.xor_lt8 ?_ hx
      rw [List.getD_eq_getElem?_getD, List.getElem?_eq_getElem (by omega)]
      exact hlt _ (List.getElem_mem _)
end Fr
end Go.Proofs.Ytmdkbmafkglhdaa

