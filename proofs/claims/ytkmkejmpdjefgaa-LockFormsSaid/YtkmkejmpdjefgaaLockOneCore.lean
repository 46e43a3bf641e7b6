/- LockOne: the walk, over any contracts of the code's. -/
import Derived.Test.YtkmkejmpdjefgaaLockPlaysCore
import Derived.Deep.QuietTactic
import Derived.BigQuiet
namespace Go.Proofs.Ytkmkejmpdjefgaa
open Go.RowKit
set_option linter.unusedVariables false
/-- the lock reads as L, what one wants is a row of one's own that is L -/
structure St1 (w wr : World) (A : Option Addr) (c : Nat) (A' : Option Addr) (c' : Nat) (L : List Int) : Prop where
  r1 : Rd wr wr.heap.size A L.length (iv L)
  le : L.length ≤ c
  own : OwnI w wr A' L.length c' L
  nod : L.Nodup
  few : L.length ≤ 5
  bel : Below w.heap.size w wr
theorem own_grown_lt {w w' : World} {base size n n' c' : Nat} {e : TypeId} {v : Value} {A' : Option Addr} {xs : List Value} (h : w.ownsRow base e size v n xs) (hg : w.grownBy w' (Value.slice A' n' c').ownBlock) (hlt : ∀ a, A' = some a → a.block < base) : w'.ownsRow base e size v n xs := by
  refine h.kept hg ?_
  rcases h.2 with ⟨h1, _⟩ | ⟨g, cap, cur, h1, h2, _⟩
  · rw [h1]; exact .inl rfl
  · rw [h1]
    refine .inr ?_
    cases A' with
    | none => intro h0; cases h0
    | some a =>
      intro h0
      have h3 : g = a.block := by simpa [Value.ownBlock] using h0
      have := hlt a rfl
      omega
theorem own_block_lt {w : World} {base size n c : Nat} {e : TypeId} {A : Option Addr} {vs : List Value} (h : w.ownsRow base e size (.slice A n c) n vs) : ∀ a, A = some a → a.block < w.heap.size := by
  intro a ha
  rcases own_blk h with ⟨h1, _⟩ | ⟨g, cur, h1, _, hk⟩
  · rw [h1] at ha; cases ha
  · rw [h1] at ha; injection ha with ha; subst ha; exact hk.lt
/-- where x was found, of the first k -/
def atI (L : List Int) (x : Int) (k : Nat) : Int := if x ∈ L.take k then placeI L x else -1
theorem atI_yes {L : List Int} {x : Int} {k : Nat} (hn : L.Nodup) (hk : L[k]? = some x) : atI L x (k + 1) = (k : Int) := by
  unfold atI
  rw [if_pos (by rw [List.take_add_one, hk]; simp)]
  refine place_first hk fun j hj e => ?_
  have hjl : j < L.length := by
    rcases Nat.lt_or_ge j L.length with h | h
    · exact h
    · rw [List.getElem?_eq_none h] at e; cases e
  have hkl : k < L.length := by
    rcases Nat.lt_or_ge k L.length with h | h
    · exact h
    · rw [List.getElem?_eq_none h] at hk; cases hk
  rw [List.getElem?_eq_getElem hjl] at e
  rw [List.getElem?_eq_getElem hkl] at hk
  have := List.pairwise_iff_getElem.1 hn j k hjl hkl hj
  injection e with e; injection hk with hk
  exact this (by rw [e, hk])
theorem atI_no {L : List Int} {x y : Int} {k : Nat} (hk : L[k]? = some y) (hne : ¬ y = x) : atI L x (k + 1) = atI L x k := by
  unfold atI
  rw [List.take_add_one, hk]
  have : x ∈ L.take k ++ (some y).toList ↔ x ∈ L.take k := by simp; intro h; exact absurd h.symm hne
  simp only [this]
theorem atI_all {L : List Int} {x : Int} : atI L x L.length = placeI L x := by
  unfold atI placeI
  rw [List.take_length]
  split <;> rfl
theorem sameI_quiet {w : World} {A A' : Option Addr} {n c n' c' B B' : Nat} {zs : List Int} (h : Rd w B A n (iv zs)) (h' : Rd w B' A' n' (iv zs)) (hn : n ≤ maxLen) (q : Nat) :
    Calls Try.prog 10 #[.slice A n c, .slice A' n' c'] (w.drewN q) fun e w' => e = .returned (.bool true) ∧ ∃ k, w' = (w.drewN q).drewN k := by
  have h1 : zs.length = n := by have := h.1; rwa [iv_length] at this
  have h2 : zs.length = n' := by have := h'.1; rwa [iv_length] at this
  refine (same_any (w.drewN q) A A' n c n' c' B B' zs zs (h.drewN q) (h'.drewN q) hn (by omega)).mono ?_
  rintro e w' ⟨rfl, k, rfl⟩
  exact ⟨by simp, k, rfl⟩
theorem cellI_at {W w : World} {A : Option Addr} {n c k : Nat} {L : List Int} {z : Int} (h : OwnI W w A n c L) (hz : L[k]? = some z) : ∃ g, A = some ⟨g, 0, none⟩ ∧ W.heap.size ≤ g ∧ g < w.heap.size ∧ w.cell? ⟨g, k, none⟩ = some (.int .i64 z) := by
  have hl := ownI_len h
  have hk : k < L.length := by
    rcases Nat.lt_or_ge k L.length with h | h
    · exact h
    · rw [List.getElem?_eq_none h] at hz; cases hz
  obtain ⟨g, rfl, h1, h2⟩ := own_addr h (by omega)
  exact ⟨g, rfl, h1, h2, (h.cellAt k (by omega)).trans (iv_get hz)⟩
set_option maxHeartbeats 4000000 in
set_option maxRecDepth 100000 in
theorem lockOne_core (hT : TakeC) (hF : FreeC) (hO : OwnerC) (hA : AwakeC6) (a0 : Option Addr) (len0 cap0 : Nat) (z0 : List Int) (w : World) (w0 : IsRow .i64 w a0 len0 cap0 z0) :
    Calls Try.prog 7 #[.slice a0 len0 cap0] w fun e w' => e = .returned (.bool true) ∧ Below w.heap.size w w' := by
  obtain ⟨hz, hzl, hle0, hcap0⟩ := w0.ints
  obtain ⟨zs, hzs⟩ : ∃ zs, zs = z0.take len0 := ⟨_, rfl⟩
  rw [← hzs] at hz hzl
  have hn0 : len0 ≤ 9223372036854775807 := Nat.le_trans hle0 hcap0
  have HZ := Lib.hid hz
  have HZL := Lib.hid hzl
  obtain ⟨i0, hi0, _, hi1, _⟩ := info_parts cellI.info
  have HI0 := Lib.hid hi0
  have HI1 := Lib.hid hi1
  clear w0 hcap0 hzs hz hzl hi0 hi1
  go_enter Try.func7, Try.ntmps7
  go_wp2_with fail
  go_loopw [3, 4, 5] (fun s3 s4 s5 wr => ∃ (i : Nat) (A A' : Option Addr) (c c' : Nat) (L : List Int), i ≤ len0 ∧ s5 = .int .i64 (i : Int) ∧ s3 = .slice A L.length c ∧ s4 = .slice A' L.length c' ∧ Hid (St1 w wr A c A' c' L)) (fun _ _ s5 _ => len0 - (intOf s5).toNat)
  case atStart => exact ⟨0, none, none, 0, 0, [], Nat.zero_le _, rfl, rfl, rfl, Lib.hid ⟨Rd.none_ _ _ _, Nat.le_refl _, ownI_nil _ _, by simp, by simp, Below.refl _ _⟩⟩
  case round =>
    obtain ⟨i, A, A', c, c', L, hi, rfl, rfl, rfl, HS⟩ := hrel
    have HB := Lib.hid HS.out.bel
    by_cases hlt : i < len0 ∧ i < 60
    · obtain ⟨hlt, h60⟩ := hlt
      have hk1 : (i : Int) < (len0 : Int) := by omega
      have hk2 : (i : Int) < 60 := by omega
      have hwi : IntKind.i64.wrap ((i : Int) + 1) = (i : Int) + 1 := IntWalk.i64_in _ (by omega)
      obtain ⟨z, hz⟩ : ∃ z, zs[i]? = some z := ⟨_, List.getElem?_eq_getElem (by have := HZL.out; omega)⟩
      have hzc := (HZ.out.below HB.out).fit
      obtain ⟨b, o, rfl, _⟩ := hzc.int_at hlt
      have hc0 := hzc.int_cell hlt hz
      clear hz hzc
      go_upto_region 5 with fail
      go_cut [6] from 24 to 29 (fun s6 wx => ∃ x : Int, s6 = .int .i64 x ∧ wx = wr)
      case first =>
        go_wp2_with fail
        go_meet
        exact ⟨_, rfl, rfl⟩
      case rest =>
        obtain ⟨x, rfl, rfl⟩ := hcut
        rename World => wr
        go_wp2_with fail
        go_loopw [7, 32] (fun s7 s32 wy => ∃ k : Nat, k ≤ L.length ∧ s32 = .int .i64 (k : Int) ∧ s7 = .int .i64 (atI L x k) ∧ wy = wr) (fun _ s32 _ => L.length - (intOf s32).toNat)
        case atStart => exact ⟨0, Nat.zero_le _, rfl, rfl, rfl⟩
        case round =>
          obtain ⟨k, hk, rfl, rfl, rfl⟩ := hrel
          rename World => wr
          by_cases hkl : k < L.length
          · have hfew := HS.out.few
            obtain ⟨v, hv⟩ : ∃ v, L[k]? = some v := ⟨_, List.getElem?_eq_getElem hkl⟩
            obtain ⟨g, rfl, _, _, hcv⟩ := cellI_at HS.out.own hv
            have hwk : IntKind.i64.wrap ((k : Int) + 1) = (k : Int) + 1 := IntWalk.i64_in _ (by omega)
            have HV := Lib.hid hv
            clear hv
            by_cases he : v = x
            · subst he
              have HAT := Lib.hid (atI_yes HS.out.nod HV.out)
              go_wp2_with fail
              go_roundw
              case rel => exact ⟨k + 1, by omega, by go_num, by rw [HAT.out], trivial⟩
              case measure => simp [intOf]; omega
            · have he' : (v == x) = false := by simpa using he
              have HAT := Lib.hid (atI_no HV.out he)
              clear he
              go_wp2_with fail
              go_roundw
              case rel => exact ⟨k + 1, by omega, by go_num, by rw [HAT.out], trivial⟩
              case measure => simp [intOf]; omega
          · obtain rfl : k = L.length := by omega
            clear hkl hk
            rw [atI_all]
            have hfew := HS.out.few
            have e1 := and_1 z
            have HN := Lib.hid HS.out.nod
            go_upto_if 48 with fail
            go_cut [3, 4, 7, 9, 10, 11, 12] from 47 to 98 (fun s3 s4 s7 s9 s10 s11 s12 wx => ∃ (A A' : Option Addr) (c c' : Nat) (L : List Int), s3 = .slice A L.length c ∧ s4 = .slice A' L.length c' ∧ Hid (St1 w wx A c A' c' L))
            case first =>
              by_cases hp : z % 2 = 0
              · by_cases hx : x ∈ L
                · have ea : takeE L x = 6 := by unfold takeE; rw [if_pos hx]
                  have es : takeS L x = L := by unfold takeS; rw [if_pos hx]
                  have en : takeN L x = 0 := by unfold takeN; rw [if_pos hx]
                  have HC : Hid (Calls Try.prog 9 #[.slice A L.length c, .int .i64 x] wr (GotIR wr wr (L) 6 0)) := Lib.hid (by have h := hT (W := wr) x (by omega) HS.out.le HS.out.r1 (Below.refl _ _); rw [ea, es, en] at h; exact h)
                  obtain ⟨kk, ek, _, _⟩ := place_lt hx
                  have hneg : ¬ placeI L x < 0 := by omega
                  clear ea es en ek hx
                  go_upto_region 14 with fail
                  go_wp2_with fail
                  refine HC.out.mono ?_
                  rintro e w1 ⟨A1, c1, A2, c2, rfl, hq, hv, hb1, _⟩
                  unfold resV
                  have b2 : Below w1.heap.size w1 (w1.alloc (.cells #[.int .i64 6, .slice A2 0 c2, .int .i64 0] 28)) := (Below.refl _ _).alloc (Nat.le_refl _) _
                  obtain ⟨x0, x1, x2, _, _, _⟩ := three (Blk.new w1 28 #[.int .i64 6, .slice A2 0 c2, .int .i64 0])
                  have HQ := Lib.hid (ownsRow_below hq b2)
                  have HW := Lib.hid (ownsRow_below (ownsRow_below HS.out.own hb1) b2)
                  have HWL := Lib.hid (own_block_lt HS.out.own)
                  have HB1 := Lib.hid (HB.out.trans ((hb1.trans (b2.mono hb1.size)).mono HB.out.size))
                  have HSZ := Lib.hid (Nat.le_trans hb1.size b2.size)
                  clear hq hv hb1 b2
                  go_wp2_with fail
                  go_meet
                  exact ⟨A1, A', c1, c', L, rfl, rfl, Lib.hid ⟨Rd.own_ HQ.out, ownI_cap HQ.out, HW.out, HN.out, hfew, HB1.out⟩⟩
                · have ep := place_no hx
                  have hneg : placeI L x < 0 := by omega
                  clear ep
                  by_cases h5 : 5 ≤ L.length
                  · have ea : takeE L x = 3 := by unfold takeE; rw [if_neg hx, if_pos h5]
                    have es : takeS L x = L := by unfold takeS; rw [if_neg hx, if_pos h5]
                    have en : takeN L x = 0 := by unfold takeN; rw [if_neg hx, if_pos h5]
                    have HC : Hid (Calls Try.prog 9 #[.slice A L.length c, .int .i64 x] wr (GotIR wr wr (L) 3 0)) := Lib.hid (by have h := hT (W := wr) x (by omega) HS.out.le HS.out.r1 (Below.refl _ _); rw [ea, es, en] at h; exact h)
                    have h5i : ¬ (L.length : Int) < 5 := by omega
                    clear ea es en hx
                    go_upto_region 14 with fail
                    go_wp2_with fail
                    refine HC.out.mono ?_
                    rintro e w1 ⟨A1, c1, A2, c2, rfl, hq, hv, hb1, _⟩
                    unfold resV
                    have b2 : Below w1.heap.size w1 (w1.alloc (.cells #[.int .i64 3, .slice A2 0 c2, .int .i64 0] 28)) := (Below.refl _ _).alloc (Nat.le_refl _) _
                    obtain ⟨x0, x1, x2, _, _, _⟩ := three (Blk.new w1 28 #[.int .i64 3, .slice A2 0 c2, .int .i64 0])
                    have HQ := Lib.hid (ownsRow_below hq b2)
                    have HW := Lib.hid (ownsRow_below (ownsRow_below HS.out.own hb1) b2)
                    have HWL := Lib.hid (own_block_lt HS.out.own)
                    have HB1 := Lib.hid (HB.out.trans ((hb1.trans (b2.mono hb1.size)).mono HB.out.size))
                    have HSZ := Lib.hid (Nat.le_trans hb1.size b2.size)
                    clear hq hv hb1 b2
                    go_wp2_with fail
                    go_meet
                    exact ⟨A1, A', c1, c', L, rfl, rfl, Lib.hid ⟨Rd.own_ HQ.out, ownI_cap HQ.out, HW.out, HN.out, hfew, HB1.out⟩⟩
                  · have ea : takeE L x = 0 := by unfold takeE; rw [if_neg hx, if_neg h5]
                    have es : takeS L x = L ++ [x] := by unfold takeS; rw [if_neg hx, if_neg h5]
                    have en : takeN L x = (L.length : Int) := by unfold takeN; rw [if_neg hx, if_neg h5]
                    have HC : Hid (Calls Try.prog 9 #[.slice A L.length c, .int .i64 x] wr (GotIR wr wr (L ++ [x]) 0 (L.length : Int))) := Lib.hid (by have h := hT (W := wr) x (by omega) HS.out.le HS.out.r1 (Below.refl _ _); rw [ea, es, en] at h; exact h)
                    have HND2 := Lib.hid (show (L ++ [x]).Nodup by have := takeS_nodup x HN.out; rwa [es] at this)
                    have h5i : (L.length : Int) < 5 := by omega
                    clear ea es en hx
                    go_upto_region 14 with fail
                    go_wp2_with fail
                    refine HC.out.mono ?_
                    rintro e w1 ⟨A1, c1, A2, c2, rfl, hq, hv, hb1, _⟩
                    unfold resV
                    have b2 : Below w1.heap.size w1 (w1.alloc (.cells #[.int .i64 0, .slice A2 0 c2, .int .i64 (L.length : Int)] 28)) := (Below.refl _ _).alloc (Nat.le_refl _) _
                    obtain ⟨x0, x1, x2, _, _, _⟩ := three (Blk.new w1 28 #[.int .i64 0, .slice A2 0 c2, .int .i64 (L.length : Int)])
                    have HQ := Lib.hid (ownsRow_below hq b2)
                    have HW := Lib.hid (ownsRow_below (ownsRow_below HS.out.own hb1) b2)
                    have HWL := Lib.hid (own_block_lt HS.out.own)
                    have HB1 := Lib.hid (HB.out.trans ((hb1.trans (b2.mono hb1.size)).mono HB.out.size))
                    have HSZ := Lib.hid (Nat.le_trans hb1.size b2.size)
                    clear hq hv hb1 b2
                    go_wp2_with (first
                      | (at_builtin
                         refine wpList_append_cells (W := w) cellI (.tmp 69) (.tmp 71) rfl (by rfl) rfl (ownsRow_below HW.out ((Below.refl _ _).alloc (Nat.le_refl _) _)) rfl (Rd.oneAt _ _ _ (by simp)) (by intro u hu; simp at hu; subst hu; rfl) (by omega) (by omega) (HB1.out.alloc HB1.out.size _) ?_
                         intro A3 c3 w3 hown3 hB3 hg3
                         have HQ3 := Lib.hid (own_grown_lt (ownsRow_below HQ.out ((Below.refl _ _).alloc (Nat.le_refl _) (.cells #[.int .i64 x] 3))) hg3 HWL.out)
                         clear hg3)
                      | fail)
                    go_meet
                    have el : (L ++ [x]).length = L.length + 1 := by simp
                    have h3 := hown3
                    rw [show iv L ++ [Value.int .i64 x] = iv (L ++ [x]) by simp [iv]] at h3
                    exact ⟨A1, A3, c1, c3, L ++ [x], by rw [el], by rw [el], Lib.hid ⟨Rd.own_ HQ3.out, ownI_cap HQ3.out, by rw [el]; exact h3, HND2.out, by omega, hB3⟩⟩
              · have hp' : (z % 2 == 0) = false := by simpa using hp
                by_cases hx : x ∈ L
                · have ea : freeE L x = 0 := by unfold freeE; rw [if_pos hx]
                  obtain ⟨kk, ek, hkl, he⟩ := place_lt hx
                  obtain ⟨N, hN⟩ : ∃ N, freeN L x = N := ⟨_, rfl⟩
                  obtain ⟨L2, hL2⟩ : ∃ L2, L.erase x = L2 := ⟨_, rfl⟩
                  have HC : Hid (Calls Try.prog 8 #[.slice A L.length c, .int .i64 x] wr (GotIR wr wr (L2) 0 N)) := Lib.hid (by have h := hF (W := wr) x (by omega) HS.out.le HN.out HS.out.r1 (Below.refl _ _); rw [ea, hL2, hN] at h; exact h)
                  have HND2 := Lib.hid (show L2.Nodup from hL2 ▸ HN.out.erase x)
                  have HLL : Hid (iv [] ++ iv (L.take kk) ++ iv (L.drop (kk + 1)) = iv L2) := Lib.hid (by rw [← hL2, he]; simp [iv])
                  have HLn : Hid (L2.length = L.length - 1) := Lib.hid (by rw [← hL2, he]; simp; omega)
                  have HEK := Lib.hid ek
                  have hpos : 0 ≤ placeI L x := by omega
                  clear ea ek hx hL2 he hN
                  go_upto_region 20 with fail
                  go_wp2_with fail
                  refine HC.out.mono ?_
                  rintro e w1 ⟨A1, c1, A2, c2, rfl, hq, hv, hb1, _⟩
                  unfold resV
                  have b2 : Below w1.heap.size w1 (w1.alloc (.cells #[.int .i64 0, .slice A2 0 c2, .int .i64 N] 28)) := (Below.refl _ _).alloc (Nat.le_refl _) _
                  obtain ⟨x0, x1, x2, _, _, _⟩ := three (Blk.new w1 28 #[.int .i64 0, .slice A2 0 c2, .int .i64 N])
                  have HQ := Lib.hid (ownsRow_below hq b2)
                  have HW := Lib.hid (ownsRow_below (ownsRow_below HS.out.own hb1) b2)
                  have HWL := Lib.hid (own_block_lt HS.out.own)
                  have HB1 := Lib.hid (HB.out.trans ((hb1.trans (b2.mono hb1.size)).mono HB.out.size))
                  have HSZ := Lib.hid (Nat.le_trans hb1.size b2.size)
                  clear hq hv hb1 b2
                  have e2 : ∀ w : World, (Instr.slice 22 (.slice A' L.length c') none (some (.int .i64 (placeI L x))) none).run Try.prog w = .ok (.slice A' kk c') w :=
                    fun w => by rw [HEK.out]; exact run_slice_to (P := Try.prog) Try.underlying22 HI0.out A' L.length c' kk (by have := ownI_cap HW.out; omega) w
                  have e3 : ∀ w : World, (Instr.slice 22 (.slice A' L.length c') (some (.int .i64 (placeI L x + 1))) none none).run Try.prog w = .ok (.slice (cutAt A' c' (kk + 1)) (L.length - (kk + 1)) (c' - (kk + 1))) w :=
                    fun w => by rw [HEK.out]; have := run_slice_from (P := Try.prog) Try.underlying22 HI0.out HI1.out A' L.length c' (kk + 1) (by omega) w; rwa [show (((kk + 1 : Nat)) : Int) = (kk : Int) + 1 by omega] at this
                  have hw1 : IntKind.i64.wrap (placeI L x + 1) = placeI L x + 1 := IntWalk.i64_in _ (by have := HEK.out; omega)
                  have hr1 := (Rd.own_ HW.out).take (k := kk) (by omega)
                  rw [← iv_take] at hr1
                  have hr2 := (Rd.own_ HW.out).drop (k := kk + 1) (by omega) (ownI_cap HW.out)
                  rw [← iv_drop] at hr2
                  have HR1 := Lib.hid hr1
                  have HR2 := Lib.hid hr2
                  clear hr1 hr2
                  go_upto_region 24 with fail
                  go_region_law (first
                    | (refine step_append_cells cellI (.tmp 88) (.tmp 91) rfl rfl (by rfl) (ownI_at (Below.refl _ _) (by simp)) (by rfl) (HR1.out.alloc (Nat.le_refl _) _).drew (iv_one _) (by omega) (by omega) ((Below.refl _ _).alloc (Nat.le_refl _) _).drew ?_
                       intro A3 c3 w3 hown3 hB3 hg3
                       simp only [Nat.zero_add] at hown3
                       clear hg3)
                    | (refine step_append_cells cellI (.tmp 92) (.tmp 96) rfl rfl (by rfl) hown3 (by rfl) (HR2.out.below hB3) (iv_one _) (by omega) (by omega) hB3 ?_
                       intro A4 c4 w4 hown4 hB4 hg4
                       clear hg4))
                  have hmm : kk + (L.length - (kk + 1)) = L2.length := by have := HLn.out; omega
                  rw [hmm] at hown4
                  rw [HLL.out] at hown4
                  have HO4 := Lib.hid hown4
                  rw [hmm]
                  clear hown4 hmm
                  go_wp2_with fail
                  go_meet
                  exact ⟨A1, A4, c1, c4, L2, rfl, rfl, Lib.hid ⟨Rd.own_ (ownsRow_below HQ.out hB4), ownI_cap HQ.out, own_of (Nat.le_trans HB1.out.size (Nat.le_refl _)) HO4.out, HND2.out, by have := HLn.out; omega, HB1.out.trans (hB4.mono HB1.out.size)⟩⟩
                · have ea : freeE L x = 5 := by unfold freeE; rw [if_neg hx]
                  have es : L.erase x = L := List.erase_of_not_mem hx
                  have en : freeN L x = 0 := by unfold freeN; rw [if_neg hx]
                  have HC : Hid (Calls Try.prog 8 #[.slice A L.length c, .int .i64 x] wr (GotIR wr wr (L) 5 0)) := Lib.hid (by have h := hF (W := wr) x (by omega) HS.out.le HN.out HS.out.r1 (Below.refl _ _); rw [ea, es, en] at h; exact h)
                  have ep := place_no hx
                  have hneg : ¬ 0 ≤ placeI L x := by omega
                  clear ea es en ep hx
                  go_upto_region 20 with fail
                  go_wp2_with fail
                  refine HC.out.mono ?_
                  rintro e w1 ⟨A1, c1, A2, c2, rfl, hq, hv, hb1, _⟩
                  unfold resV
                  have b2 : Below w1.heap.size w1 (w1.alloc (.cells #[.int .i64 5, .slice A2 0 c2, .int .i64 0] 28)) := (Below.refl _ _).alloc (Nat.le_refl _) _
                  obtain ⟨x0, x1, x2, _, _, _⟩ := three (Blk.new w1 28 #[.int .i64 5, .slice A2 0 c2, .int .i64 0])
                  have HQ := Lib.hid (ownsRow_below hq b2)
                  have HW := Lib.hid (ownsRow_below (ownsRow_below HS.out.own hb1) b2)
                  have HWL := Lib.hid (own_block_lt HS.out.own)
                  have HB1 := Lib.hid (HB.out.trans ((hb1.trans (b2.mono hb1.size)).mono HB.out.size))
                  have HSZ := Lib.hid (Nat.le_trans hb1.size b2.size)
                  clear hq hv hb1 b2
                  go_wp2_with fail
                  go_meet
                  exact ⟨A1, A', c1, c', L, rfl, rfl, Lib.hid ⟨Rd.own_ HQ.out, ownI_cap HQ.out, HW.out, HN.out, hfew, HB1.out⟩⟩
            case rest =>
              obtain ⟨A, A', c, c', L, rfl, rfl, HS2⟩ := hcut
              clear HS HB HN hfew e1 hc0
              rename World => wd
              have hfew := HS2.out.few
              have HB2 := Lib.hid HS2.out.bel
              obtain ⟨E, hE⟩ : ∃ E, ownerE L = E := ⟨_, rfl⟩
              obtain ⟨N, hN⟩ : ∃ N, ownerN L = N := ⟨_, rfl⟩
              have HC : Hid (Calls Try.prog 12 #[.slice A L.length c] wd (GotR w wd E [] N)) := Lib.hid (by have h := hO (W := w) (zs := L) (by omega) HS2.out.le HS2.out.r1 HS2.out.bel; rw [hE, hN] at h; exact h)
              have HE := Lib.hid hE
              have HNN := Lib.hid hN
              clear hE hN
              go_upto_region 26 with fail
              go_wp2_with fail
              refine HC.out.mono ?_
              rintro e w1 ⟨A5, c5, rfl, hv, hB1, hb1⟩
              unfold resV
              have b2 : Below w1.heap.size w1 (w1.alloc (.cells #[.int .i64 E, .slice A5 0 c5, .int .i64 N] 28)) := (Below.refl _ _).alloc (Nat.le_refl _) _
              obtain ⟨x0, x1, x2, _, _, _⟩ := three (Blk.new w1 28 #[.int .i64 E, .slice A5 0 c5, .int .i64 N])
              have bb := hb1.trans (b2.mono hb1.size)
              have hQ := sameI_quiet (c := c) (c' := c') (HS2.out.r1.below bb) ((Rd.own_ HS2.out.own).below bb) (by unfold maxLen; omega)
              have HQ := Lib.hid hQ
              have HB3 := Lib.hid (hB1.alloc hB1.size (.cells #[.int .i64 E, .slice A5 0 c5, .int .i64 N] 28))
              have HBB := Lib.hid bb
              clear hv hB1 hb1 b2 hQ bb HC
              rcases Nat.eq_zero_or_pos L.length with h0 | h0
              · have hL : L = [] := List.eq_nil_of_length_eq_zero h0
                subst hL
                have hE : E = 5 := HE.out.symm
                have hN : N = 0 := HNN.out.symm
                subst hE hN
                clear h0 HE HNN hfew
                simp only [List.length_nil] at *
                go_upto_region 27 with fail
                go_quiet ((go_at_call 10; exact Calls.quiet_of (HQ.out _)))
                go_wp2_with fail
                go_roundw
                case rel => exact ⟨i + 1, A, A', c, c', [], by omega, by go_num, rfl, rfl, Lib.hid ⟨Rd.none_ _ _ _, HS2.out.le, (ownsRow_below HS2.out.own (belowN HBB.out _)), by simp, by simp, belowN HB3.out _⟩⟩
                case measure => simp [intOf]; omega
              · obtain ⟨v, hv⟩ : ∃ v, L[0]? = some v := ⟨_, List.getElem?_eq_getElem h0⟩
                have hE : E = 0 := by rw [← HE.out]; unfold ownerE; rw [if_neg (by omega)]
                have hN : N = v := by rw [← HNN.out]; unfold ownerN; rw [List.head?_eq_getElem?, hv]; rfl
                subst hE hN
                obtain ⟨g, rfl, _, _, hcl⟩ := cellI_at (ownsRow_below HS2.out.own HBB.out) hv
                have hpos : (0 : Int) < (L.length : Int) := by omega
                clear hv HE HNN
                go_upto_region 27 with fail
                go_quiet ((go_at_call 10; exact Calls.quiet_of (HQ.out _)))
                go_wp2_with fail
                go_roundw
                case rel => exact ⟨i + 1, A, _, c, c', L, by omega, by go_num, rfl, rfl, Lib.hid ⟨((HS2.out.r1.below HBB.out).drewN _).fit, HS2.out.le, (ownsRow_below HS2.out.own (belowN HBB.out _)), HS2.out.nod, hfew, belowN HB3.out _⟩⟩
                case measure => simp [intOf]; omega
    · by_cases hend : i < len0
      · have h60 : ¬ (i : Int) < 60 := by omega
        have hk1 : (i : Int) < (len0 : Int) := by omega
        go_wp2_with (go_at_call 11; refine (hA _).mono ?_; rintro e w9 ⟨rfl, hb⟩)
        go_ret
        exact ⟨rfl, HB.out.trans (hb.mono HB.out.size)⟩
      · have hk1 : ¬ (i : Int) < (len0 : Int) := by omega
        go_wp2_with (go_at_call 11; refine (hA _).mono ?_; rintro e w9 ⟨rfl, hb⟩)
        go_ret
        exact ⟨rfl, HB.out.trans (hb.mono HB.out.size)⟩
end Go.Proofs.Ytkmkejmpdjefgaa
