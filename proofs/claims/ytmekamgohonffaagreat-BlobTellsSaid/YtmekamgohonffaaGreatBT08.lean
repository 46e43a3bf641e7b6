/- IntKit RegionT LockRef -/
import Derived.Test.YtmekamgohonffaaGreatBT00
import Derived.Test.YtmekamgohonffaaGreatBT03
import Derived.Test.YtmekamgohonffaaGreatBT07
import Derived.Deep.RegionHeld
import Derived.StillTail
import Derived.Deep.DeepCutAuto
import Derived.Deep.RegionLaw
import Derived.Deep.RegionWith
namespace Go.Proofs.YtmekamgohonffaaGreat
open Go.RowKit
set_option linter.unusedVariables false
theorem cellI : CellT Tryz.prog 22 3 (.int .i64 0) 8 := ⟨Tryz.underlying22, by kernel_rfl, rfl⟩
theorem iv_take (l : List Int) (k : Nat) : iv (l.take k) = (iv l).take k := by simp [iv]
theorem iv_drop (l : List Int) (k : Nat) : iv (l.drop k) = (iv l).drop k := by simp [iv]
theorem iv_get {l : List Int} {k : Nat} {z : Int} (h : l[k]? = some z) : (iv l)[k]? = some (.int .i64 z) := by simp [iv, h]
abbrev OwnI (W w : World) (A : Option Addr) (n c : Nat) (l : List Int) : Prop := w.ownsRow W.heap.size 3 1 (.slice A n c) n (iv l)
theorem ownI_len {W w : World} {A : Option Addr} {n c : Nat} {l : List Int} (h : OwnI W w A n c l) : l.length = n := by
 have := h.1; rw [iv_length] at this; omega
theorem ownI_nil (W w : World) : OwnI W w none 0 0 [] := ⟨rfl, .inl ⟨rfl, rfl⟩⟩
theorem ownI_empty {W w : World} (hB : Below W.heap.size W w) : OwnI W (w.alloc (.cells #[] 3)) (some ⟨w.heap.size, 0, none⟩) 0 0 [] :=
 World.ownsRow_made w #[] 0 hB.size (by decide) rfl
theorem ownI_at {W w : World} (hB : Below W.heap.size W w) {g : Nat} (hg : w.heap.size = g) : OwnI W (w.alloc (.cells #[] 3)) (some ⟨g, 0, none⟩) 0 0 [] := by
 subst hg; exact ownI_empty hB
theorem Rd.oneAt (w : World) (v : Value) (t : TypeId) {g : Nat} (hg : w.heap.size = g) : Rd (w.alloc (.cells #[v] t)) (g + 1) (some ⟨g, 0, none⟩) 1 [v] := by
 subst hg; exact Rd.oneV w v t
theorem own_of {W w w' : World} {e : TypeId} {size n : Nat} {v : Value} {xs : List Value} (hs : W.heap.size <= w.heap.size) (h : w'.ownsRow w.heap.size e size v n xs) : w'.ownsRow W.heap.size e size v n xs := by
 obtain ⟨h1, h2⟩ := h
 refine ⟨h1, ?_⟩
 rcases h2 with h2 | ⟨g, cap, cur, hv, hg, r⟩
 · exact .inl h2
 · exact .inr ⟨g, cap, cur, hv, Nat.le_trans hs hg, r⟩
def GotIR (W w : World) (l : List Int) (e : Int) (N : Int) (en : Ending) (w' : World) : Prop :=
 ∃ A c A' c', en = .returned (.tuple #[.slice A l.length c, resV e A' 0 c' N]) /\ OwnI W w' A l.length c l /\ OwnB W w' A' 0 c' [] /\ Below W.heap.size W w' /\ Below w.heap.size w w'
theorem GotIR.of {W w w' : World} {l : List Int} {e N : Int} {en : Ending} (hB : Below W.heap.size W w) (h : GotIR w w l e N en w') : GotIR W w l e N en w' := by
 obtain ⟨A, c, A', c', h1, h2, h3, h4, h5⟩ := h
 exact ⟨A, c, A', c', h1, own_of hB.size h2, own_of hB.size h3, hB.trans (h4.mono hB.size), h5⟩
def placeI (s : List Int) (x : Int) : Int := if x ∈ s then (s.idxOf x : Int) else -1
theorem place_first {s : List Int} {x : Int} {k : Nat} (hk : s[k]? = some x) (hn : ∀ j, j < k -> s[j]? ≠ some x) : placeI s x = (k : Int) := by
 have hm : x ∈ s := List.mem_of_getElem? hk
 unfold placeI
 rw [if_pos hm]
 congr 1
 induction s generalizing k with
 | nil => simp at hk
 | cons y t ih =>
   cases k with
   | zero => simp at hk; subst hk; simp
   | succ k =>
     have hy : y ≠ x := by have := hn 0 (by omega); simpa using this
     rw [List.idxOf_cons]
     have hb : (y == x) = false := by simpa using hy
     rw [hb]
     simp at hk
     have := ih hk (fun j hj => by have := hn (j + 1) (by omega); simpa using this) (by simpa [hy.symm] using hm)
     simp [this]
theorem place_none {s : List Int} {x : Int} (hn : ∀ j, j < s.length -> s[j]? ≠ some x) : placeI s x = -1 := by
 unfold placeI
 rw [if_neg]
 intro h
 obtain ⟨i, hi, e⟩ := List.getElem_of_mem h
 exact hn i hi (by rw [List.getElem?_eq_getElem hi, e])
theorem place_lt {s : List Int} {x : Int} (h : x ∈ s) : ∃ k : Nat, placeI s x = (k : Int) /\ k < s.length /\ s.erase x = s.take k ++ s.drop (k + 1) := by
 refine ⟨s.idxOf x, by unfold placeI; rw [if_pos h], List.idxOf_lt_length_of_mem h, ?_⟩
 rw [List.erase_eq_eraseIdx_of_idxOf rfl, List.eraseIdx_eq_take_drop_succ]
theorem place_no {s : List Int} {x : Int} (h : x ∉ s) : placeI s x = -1 := by unfold placeI; rw [if_neg h]
def takeS (s : List Int) (x : Int) : List Int := if x ∈ s then s else if 5 <= s.length then s else s ++ [x]
def takeE (s : List Int) (x : Int) : Int := if x ∈ s then 6 else if 5 <= s.length then 3 else 0
def takeN (s : List Int) (x : Int) : Int := if x ∈ s then 0 else if 5 <= s.length then 0 else (s.length : Int)
def freeE (s : List Int) (x : Int) : Int := if x ∈ s then 0 else 5
def freeN (s : List Int) (x : Int) : Int := if x ∈ s then (s.erase x).head?.getD (-1) else 0
def ownerE (s : List Int) : Int := if s.length = 0 then 5 else 0
def ownerN (s : List Int) : Int := s.head?.getD 0
section
variable {P : Program} {md : Region.Mode} {ops : Array Oper} {Q : Exit -> Act -> World -> Prop} {S : World -> Prop} {n : Nat}
def AnyT (P : Program) (md : Region.Mode) (ops : Array Oper) (Q : Exit -> Act -> World -> Prop) (S : World -> Prop) (n : Nat) : Nat -> Array Bool -> Act -> World -> Prop
 | 0, listed, a, w => Region.ready md ops listed = [] /\ Q .normal a w
 | fuel + 1, listed, a, w => (Region.ready md ops listed = [] -> Q .normal a w) ∧
    ∀ i ∈ Region.ready md ops listed, wpOp P ops Q i (fun a' w' => (i = n \/ S w') /\ AnyT P md ops Q S n fuel (listed.setIfInBounds i true) a' w') a w
theorem AnyT.any : ∀ (fuel : Nat) (listed : Array Bool) (a : Act) (w : World), AnyT P md ops Q S n fuel listed a w -> wpAny P md ops Q fuel listed a w := by
 intro fuel
 induction fuel with
 | zero => exact fun _ _ _ h => h
 | succ fuel ih => exact fun listed a w h => ⟨h.1, fun i hi => wpOp_mono (fun a' w' h' => ih _ _ _ h'.2) (h.2 i hi)⟩
theorem region_T {id : Nat} {a : Act} {w : World} (hm : P.follows .mixedOrders = true) (h : AnyT P .any ops Q S n ops.size (Array.replicate ops.size false) a w.drew) : (Code.region id ops true).wp P Q a w :=
 wp_region_any hm (AnyT.any _ _ _ _ h)
theorem not_last {i j : Nat} {listed : Array Bool} (hw : Region.waitsFor md ops n i = true) (hi : i ∈ Region.ready md ops listed) (hj : j ∈ Region.ready md ops listed) : j ≠ n := by
 intro e
 subst e
 obtain ⟨oj, hoj, x, hx, hb, hon⟩ := Region.waitsFor_spec hw
 obtain ⟨_, oj', hoj', hall⟩ := mem_ready.1 hj
 rw [hoj] at hoj'
 injection hoj' with hoj'
 subst hoj'
 have h1 := hall x hx hb
 have h0 := (mem_ready.1 hi).1
 rw [hon] at h1
 rcases Nat.lt_or_ge i listed.size with h' | h'
 · simp [h'] at h0 h1; rw [h0] at h1; cases h1
 · simp [Array.getElem?_eq_none h'] at h1
theorem AnyT.first {i : Nat} {oi : Oper} {v : Value} (hi : ops[i]? = some oi) (hsel : Region.noSelect ops = true) (hw : Region.waitsFor md ops n i = true) (hQ : ∀ c a w, Q (.panic c) (a.put oi.dst v) w -> Q (.panic c) a w) :
 ∀ (fuel : Nat) (listed : Array Bool) (a : Act) (w : World),
  (∀ j oj, ops[j]? = some oj -> j ≠ i -> listed.getD j true = false -> (∀ e ∈ oj.after, Region.binds md e = true -> e.on ≠ i) -> oi.apart ops oj = true) →
  i ∈ Region.ready md ops listed -> YieldsIf P ops S oi v a -> S w -> AnyT P md ops Q S n fuel (listed.setIfInBounds i true) (a.put oi.dst v) w -> AnyT P md ops Q S n (fuel + 1) listed a w := by
 have sel := Region.noSelect_spec hsel
 intro fuel
 induction fuel with
 | zero =>
   intro listed a w _ hr hy hS H
   refine ⟨fun h => absurd hr (by rw [h]; simp), fun j hj => ?_⟩
   by_cases hji : j = i
   · rw [hji]; exact hy.wpOp hi hS ⟨.inr hS, by rw [<- hji] at H |-; exact H⟩
   · exact absurd (ready_mono hj hji) (by rw [H.1]; simp)
 | succ fuel ih =>
   intro listed a w hfree hr hy hS H
   refine ⟨fun h => absurd hr (by rw [h]; simp), fun j hj => ?_⟩
   by_cases hji : j = i
   · rw [hji]; exact hy.wpOp hi hS ⟨.inr hS, by rw [<- hji] at H |-; exact H⟩
   · have hjn := not_last hw hr hj
     obtain ⟨hun, oj, hoj, hall⟩ := mem_ready.1 hj
     have hnot : ∀ e ∈ oj.after, Region.binds md e = true -> e.on ≠ i := fun e he hb heq => by
      have h1 := hall e he hb
      have h0 := (mem_ready.1 hr).1
      rw [heq] at h1
      rcases Nat.lt_or_ge i listed.size with h' | h'
      · simp [h'] at h0 h1; rw [h0] at h1; cases h1
      · simp [Array.getElem?_eq_none h'] at h1
     refine wpOp_mono (fun a' w' h3 => ?_) (wpOp_putIf hoj (hfree j oj hoj hji hun hnot) (fun cs b => sel i oi cs b hi) (fun cs b => sel j oj cs b hoj) hQ hy (H.2 j (ready_mono hj hji)))
     obtain ⟨hy', hs', hrest⟩ := h3
     have hS' : S w' := hs'.resolve_left hjn
     refine ⟨.inr hS', ih (listed.setIfInBounds j true) a' w' (fun k ok hk hki hu hno => hfree k ok hk hki ?_ hno) (ready_mono hr (Ne.symm hji)) hy' hS' (by rw [Array.setIfInBounds_comm _ _ hji]; exact hrest)⟩
     by_cases hjk : j = k
     · rw [<- hjk]; exact hun
     · rwa [getD_set_ne true hjk] at hu
theorem AnyT.take {i : Nat} {oi : Oper} {v : Value} {fuel : Nat} {listed : Array Bool} {a : Act} {w : World} (hi : ops[i]? = some oi) (hs : Region.noSelect ops = true) (hw : Region.waitsFor md ops n i = true)
 (hf : Region.free md ops listed i = true) (hr : (Region.ready md ops listed).contains i = true) (hQ : ∀ c a w, Q (.panic c) (a.put oi.dst v) w -> Q (.panic c) a w) (hy : YieldsIf P ops S oi v a) (hS : S w)
 (h : AnyT P md ops Q S n fuel (listed.setIfInBounds i true) (a.put oi.dst v) w) : AnyT P md ops Q S n (fuel + 1) listed a w :=
 AnyT.first hi hs hw hQ fuel listed a w (Region.free_spec hi hf) (by simpa using hr) hy hS h
def AllT (P : Program) (md : Region.Mode) (ops : Array Oper) (Q : Exit -> Act -> World -> Prop) (S : World -> Prop) (n fuel : Nat) (listed : Array Bool) (a : Act) (w : World) (rs : List Nat) : Prop :=
 ∀ i ∈ rs, wpOp P ops Q i (fun a' w' => (i = n \/ S w') /\ AnyT P md ops Q S n fuel (listed.setIfInBounds i true) a' w') a w
theorem AllT.nil {fuel : Nat} {listed : Array Bool} {a : Act} {w : World} : AllT P md ops Q S n fuel listed a w [] := fun _ h => by cases h
theorem AllT.cons {fuel : Nat} {listed : Array Bool} {a : Act} {w : World} {i : Nat} {o : Oper} {rs : List Nat} (ho : ops[i]? = some o)
 (h : ∀ K' : Act -> World -> Prop, Shut (∀ a w, (i = n \/ S w) -> ((i = n \/ S w) -> AnyT P md ops Q S n fuel (listed.setIfInBounds i true) a w) -> K' a w) -> if Region.wanted o (yielded ops a.tmps) = true then Oper.wp P o a w K' Q else K' (a.put o.dst undef) w)
 (hs : AllT P md ops Q S n fuel listed a w rs) : AllT P md ops Q S n fuel listed a w (i :: rs) := fun j hj => by
 rcases List.mem_cons.1 hj with e | hj
 · rw [e]; exact wpOp_step ho (fun K' hK => h K' (fun a w hS hW => hK a w ⟨hS, hW hS⟩))
 · exact hs j hj
theorem AnyT.ready {rs : List Nat} {fuel : Nat} {listed : Array Bool} {a : Act} {w : World} (hr : Region.ready md ops listed = rs) (hne : rs ≠ []) (h : AllT P md ops Q S n fuel listed a w rs) : AnyT P md ops Q S n (fuel + 1) listed a w :=
 ⟨fun h0 => absurd (hr.symm.trans h0) hne, by rw [hr]; exact h⟩
theorem AnyT.done {listed : Array Bool} {a : Act} {w : World} (hr : Region.ready md ops listed = []) (h : Q .normal a w) : ∀ fuel, AnyT P md ops Q S n fuel listed a w
 | 0 => ⟨hr, h⟩
 | _ + 1 => ⟨fun _ => h, by rw [hr]; simp⟩
end
theorem place_any (w : World) {A : Option Addr} {n c B : Nat} {zs : List Int} (x : Int) (h : Rd w B A n (iv zs)) (hn : n <= maxLen) :
 Calls Tryz.prog 120 #[.slice A n c, .int .i64 x] w fun e w' => e = .returned (.int .i64 (placeI zs x)) /\ w = w' := by
 have hl : zs.length = n := by have := h.1; rwa [iv_length] at this
 unfold maxLen at hn
 have HN : Hid (n <= 9223372036854775807) := hD (by omega)
 have HL := hD hl
 have H := hD h
 clear h hl hn
 go_enter Tryz.func120, Tryz.ntmps120
 go_wp2
 go_loopw [5] (fun i wr => ∃ k : Nat, k <= n /\ i = .int .i64 k /\ Hid (∀ j, j < k -> zs[j]? ≠ some x) /\ w = wr) (fun i _ => n - (intOf i).toNat)
 case atStart => exact ⟨0, Nat.zero_le _, rfl, hD (fun j hj => absurd hj (by omega)), rfl⟩
 case round =>
  obtain ⟨k, hk, rfl, HS, rfl⟩ := hrel
  by_cases hlt : k < n
  · obtain ⟨z, hz⟩ : ∃ z, zs[k]? = some z := ⟨_, List.getElem?_eq_getElem (by have := HL.out; omega)⟩
    obtain ⟨b, o, rfl, _⟩ := H.out.int_at hlt
    have hc := H.out.int_cell hlt hz
    have hv : IntKind.i64.wrap ((k : Int) + 1) = (k : Int) + 1 := IntWalk.i64_in _ (by have := HN.out; omega)
    have HZ := hD hz
    clear hz
    by_cases he : z = x
    · subst he
      have HP := hD (place_first HZ.out HS.out)
      go_wp2
      go_ret
      exact ⟨ret_int HP.out.symm, rfl⟩
    · have he' : (z == x) = false := by simpa using he
      have HE := hD he
      clear he
      go_wp2
      go_roundw
      case rel =>
       refine ⟨k + 1, by omega, by go_num, hD (fun j hj => ?_), trivial⟩
       rcases Nat.lt_or_ge j k with h1 | h1
       · exact HS.out j h1
       · obtain rfl : j = k := by omega
         rw [HZ.out]
         intro h; injection h with h; exact HE.out h
      case measure => simp [intOf]; omega
  · obtain rfl : k = n := by omega
    have HP := hD (place_none (s := zs) (x := x) (by rw [HL.out]; exact HS.out))
    go_wp2
    go_ret
    exact ⟨ret_int HP.out.symm, rfl⟩
set_option maxHeartbeats 1000000 in
set_option maxRecDepth 100000 in
theorem refTake_raw {w : World} {zs : List Int} {A : Option Addr} {n c B : Nat} (x : Int) (hn : Lim 1 n) (hr : Rd w B A n (iv zs)) :
 Calls Tryz.prog 109 #[.slice A n c, .int .i64 x] w (GotIR w w (takeS zs x) (takeE zs x) (takeN zs x)) := by
 have hB := Below.refl w.heap.size w
 have hn := hn.out
 have HR := hD hr.fit
 obtain rfl : zs.length = n := by have := hr.1; rwa [iv_length] at this
 have b0 : Below w.heap.size w (w.alloc (.cells zeroR 77)) := (Below.refl _ _).alloc lR _
 clear hr
 unfold takeS takeE takeN
 by_cases hx : x ∈ zs
 · rw [if_pos hx, if_pos hx, if_pos hx]
   obtain ⟨k, hk, hk1, _⟩ := place_lt hx
   have h0 : (0 : Int) <= (k : Int) := by omega
   have HP := hD hk
   clear hk hx
   go_enter Tryz.func109, Tryz.ntmps109
   go_wp2_with (first
    | (at_builtin
       refine wpList_append_cells (W := w) cellI (.tmp 7) (.tmp 8) rfl (by rfl) rfl (ownI_at b0 (by simp)) rfl (HR.out.below (b0.alloc (by simp) _)) (iv_one _) (by omega) (by omega) (b0.alloc (by simp) _) ?_
       intro A1 c1 w1 hown1 hB1 hg1
       simp only [Nat.zero_add] at hown1
       have HK := hD (((Blk.new w 77 zeroR).alloc (.cells #[] 3)).apart_own (ownI_at (W := w) b0 (by simp)) (by decide) hg1)
       obtain ⟨x0, x1, x2, f0, f1, f2⟩ := three HK.out
       clear hg1)
    | (go_at_call 120; refine (place_any _ x (HR.out.below hB1) (by unfold maxLen; omega)).mono ?_; rintro e w2 ⟨rfl, rfl⟩; rw [HP.out])
    | (go_at_call 98; refine (bad_any _ 6).mono ?_; rintro e w3 ⟨rfl, hb3⟩; unfold resV; clear x0 x1 x2 f0 f1 f2; have HK := hD (HK.out.below hb3); obtain ⟨x0, x1, x2, f0, f1, f2⟩ := three HK.out)
    | fail)
   obtain ⟨k1, k2, k3⟩ := put3 HK.out (.int .i64 6) (.slice none 0 0) (.int .i64 0)
   refine bodyPost_ret (results_tmp_cell_row rfl _ _ _ _ _ _ rfl k1 Tryz.underlying77 rfl (by kernel_rfl)) rfl ?_
   have h3 := k2 w lR (hB1.trans (hb3.mono hB1.size))
   exact ⟨A1, c1, none, 0, rfl, k3 _ _ _ _ _ _ (ownsRow_below hown1 hb3) (by decide), own_nil _ _, h3, h3⟩
 · rw [if_neg hx, if_neg hx, if_neg hx]
   have HP := hD (place_no hx)
   clear hx
   by_cases hf : 5 <= zs.length
   · rw [if_pos hf, if_pos hf, if_pos hf]
     have hfi : (5 : Int) <= (zs.length : Int) := by omega
     go_enter Tryz.func109, Tryz.ntmps109
     go_wp2_with (first
     | (at_builtin
        refine wpList_append_cells (W := w) cellI (.tmp 7) (.tmp 8) rfl (by rfl) rfl (ownI_at b0 (by simp)) rfl (HR.out.below (b0.alloc (by simp) _)) (iv_one _) (by omega) (by omega) (b0.alloc (by simp) _) ?_
        intro A1 c1 w1 hown1 hB1 hg1
        simp only [Nat.zero_add] at hown1
        have HK := hD (((Blk.new w 77 zeroR).alloc (.cells #[] 3)).apart_own (ownI_at (W := w) b0 (by simp)) (by decide) hg1)
        obtain ⟨x0, x1, x2, f0, f1, f2⟩ := three HK.out
        clear hg1)
     | (go_at_call 120; refine (place_any _ x (HR.out.below hB1) (by unfold maxLen; omega)).mono ?_; rintro e w2 ⟨rfl, rfl⟩; rw [HP.out])
     | (go_at_call 98; refine (bad_any _ 3).mono ?_; rintro e w3 ⟨rfl, hb3⟩; unfold resV; clear x0 x1 x2 f0 f1 f2; have HK := hD (HK.out.below hb3); obtain ⟨x0, x1, x2, f0, f1, f2⟩ := three HK.out)
     | fail)
     obtain ⟨k1, k2, k3⟩ := put3 HK.out (.int .i64 3) (.slice none 0 0) (.int .i64 0)
     refine bodyPost_ret (results_tmp_cell_row rfl _ _ _ _ _ _ rfl k1 Tryz.underlying77 rfl (by kernel_rfl)) rfl ?_
     have h3 := k2 w lR (hB1.trans (hb3.mono hB1.size))
     exact ⟨A1, c1, none, 0, rfl, k3 _ _ _ _ _ _ (ownsRow_below hown1 hb3) (by decide), own_nil _ _, h3, h3⟩
   · rw [if_neg hf, if_neg hf, if_neg hf]
     have hfi : ¬ (5 : Int) <= (zs.length : Int) := by omega
     go_enter Tryz.func109, Tryz.ntmps109
     go_upto_region 6 with (first
     | (at_builtin
        refine wpList_append_cells (W := w) cellI (.tmp 7) (.tmp 8) rfl (by rfl) rfl (ownI_at b0 (by simp)) rfl (HR.out.below (b0.alloc (by simp) _)) (iv_one _) (by omega) (by omega) (b0.alloc (by simp) _) ?_
        intro A1 c1 w1 hown1 hB1 hg1
        simp only [Nat.zero_add] at hown1
        have HK := hD (((Blk.new w 77 zeroR).alloc (.cells #[] 3)).apart_own (ownI_at (W := w) b0 (by simp)) (by decide) hg1)
        obtain ⟨x0, x1, x2, f0, f1, f2⟩ := three HK.out
        clear hg1)
     | (go_at_call 120; refine (place_any _ x (HR.out.below hB1) (by unfold maxLen; omega)).mono ?_; rintro e w2 ⟨rfl, rfl⟩; rw [HP.out])
     | fail)
     clear x0 x1 x2 f0 f1 f2
     go_wp2_with (first
      | (at_builtin
         refine wpList_append_cells (W := w) cellI (.tmp 21) (.tmp 23) rfl (by rfl) rfl (ownsRow_below hown1 ((Below.refl _ _).alloc lR _)) rfl (Rd.oneV _ _ _) (by intro u hu; simp at hu; subst hu; rfl) (by omega) (by omega) (hB1.alloc hB1.size _) ?_
         intro A3 c3 w3 hown3 hB3 hg3
         have HK3 := hD ((HK.out.alloc (.cells #[.int .i64 x] 3)).apart_own (ownsRow_below hown1 ((Below.refl _ _).alloc lR _)) (by decide) hg3)
         obtain ⟨x0, x1, x2, f0, f1, f2⟩ := three HK3.out
         clear hg3)
      | fail)
     obtain ⟨k1, k2, k3⟩ := put3 HK3.out (.int .i64 0) (.slice none 0 0) (.int .i64 (zs.length : Int))
     refine bodyPost_ret (results_tmp_cell_row rfl _ _ _ _ _ _ rfl k1 Tryz.underlying77 rfl (by kernel_rfl)) rfl ?_
     have h3 := k2 w lR hB3
     have e : (zs ++ [x]).length = zs.length + 1 := by simp
     have h4 := k3 _ _ _ _ _ _ hown3 (by decide)
     rw [show iv [] ++ iv zs ++ [Value.int .i64 x] = iv (zs ++ [x]) by simp [iv]] at h4
     exact ⟨A3, c3, none, 0, by rw [e]; rfl, by rw [e]; exact h4, own_nil _ _, h3, h3⟩
theorem refTake_any {W w : World} {zs : List Int} {A : Option Addr} {n c B : Nat} (x : Int) (hn : Lim 1 n) (hr : Rd w B A n (iv zs)) (hB : Below W.heap.size W w) :
 Calls Tryz.prog 109 #[.slice A n c, .int .i64 x] w (GotIR W w (takeS zs x) (takeE zs x) (takeN zs x)) :=
 (refTake_raw x hn hr).mono fun e w' h => GotIR.of hB h
set_option maxHeartbeats 2000000 in
set_option maxRecDepth 100000 in
theorem refFree_raw {w : World} {zs : List Int} {A : Option Addr} {n c B : Nat} (x : Int) (hn : Lim 1 n) (hc : n <= c) (hr : Rd w B A n (iv zs)) :
 Calls Tryz.prog 110 #[.slice A n c, .int .i64 x] w (GotIR w w (zs.erase x) (freeE zs x) (freeN zs x)) := by
 have hB := Below.refl w.heap.size w
 have hn := hn.out
 have HR := hD hr.fit
 obtain rfl : zs.length = n := by have := hr.1; rwa [iv_length] at this
 have b0 : Below w.heap.size w (w.alloc (.cells zeroR 77)) := (Below.refl _ _).alloc lR _
 clear hr
 unfold freeE freeN
 by_cases hx : x ∈ zs
 · rw [if_pos hx, if_pos hx]
   obtain ⟨k, hk, hk1, he⟩ := place_lt hx
   have h0 : ¬ (k : Int) < 0 := by omega
   have HP := hD hk
   rw [he]
   obtain ⟨N, hN⟩ : ∃ N, (zs.take k ++ zs.drop (k + 1)).head?.getD (-1) = N := ⟨_, rfl⟩
   obtain ⟨L, hL⟩ : ∃ L, zs.take k ++ zs.drop (k + 1) = L := ⟨_, rfl⟩
   rw [hN, hL]
   rw [hL] at hN
   have HN := hD hN
   have HLL : Hid (iv [] ++ iv (zs.take k) ++ iv (zs.drop (k + 1)) = iv L) := hD (by rw [<- hL]; simp [iv])
   have HLn : Hid (L.length = zs.length - 1) := hD (by rw [<- hL]; simp; omega)
   clear hN hL
   obtain ⟨i0, hi0, _, hi1, _⟩ := info_parts cellI.info
   have e1 : ∀ w : World, (Instr.slice 22 (.slice A zs.length c) none (some (.int .i64 (k : Int))) none).run Tryz.prog w = .ok (.slice A k c) w :=
    fun w => run_slice_to (P := Tryz.prog) Tryz.underlying22 hi0 A zs.length c k (by omega) w
   have e2 : ∀ w : World, (Instr.slice 22 (.slice A zs.length c) (some (.int .i64 ((k : Int) + 1))) none none).run Tryz.prog w = .ok (.slice (cutAt A c (k + 1)) (zs.length - (k + 1)) (c - (k + 1))) w :=
    fun w => by have := run_slice_from (P := Tryz.prog) Tryz.underlying22 hi0 hi1 A zs.length c (k + 1) (by omega) w; rwa [show (((k + 1 : Nat)) : Int) = (k : Int) + 1 by omega] at this
   have hw1 : IntKind.i64.wrap ((k : Int) + 1) = (k : Int) + 1 := IntWalk.i64_in _ (by omega)
   have HR1 := hD (show Rd w w.heap.size A k (iv (zs.take k)) by rw [iv_take]; exact HR.out.take (by omega))
   have HR2 := hD (show Rd w w.heap.size (cutAt A c (k + 1)) (zs.length - (k + 1)) (iv (zs.drop (k + 1))) by rw [iv_drop]; exact HR.out.drop (by omega) hc)
   clear hk hx he hi0 hi1
   go_enter Tryz.func110, Tryz.ntmps110
   go_upto_region 4 with (first
    | (go_at_call 120; refine (place_any _ x (HR.out.below b0) (by unfold maxLen; omega)).mono ?_; rintro e w2 ⟨rfl, rfl⟩; rw [HP.out])
    | fail)
   go_region_law (first
    | (refine step_append_cells (W := w) cellI (.tmp 17) (.tmp 20) rfl rfl (by rfl) (ownI_at b0.drew (by simp)) (by rfl) (HR1.out.below (b0.drew.alloc (by simp) _)) (iv_one _) (by omega) (by omega) (b0.drew.alloc (by simp) _) ?_
       intro A1 c1 w1 hown1 hB1 hg1
       have HK := hD (((Blk.new w 77 zeroR).drew.alloc (.cells #[] 3)).apart_own (ownI_at (W := w) b0.drew (by simp)) (by decide) hg1)
       simp only [Nat.zero_add] at hown1
       clear hg1)
    | (refine step_append_cells (W := w) cellI (.tmp 21) (.tmp 25) rfl rfl (by rfl) hown1 (by rfl) (HR2.out.below hB1) (iv_one _) (by omega) (by omega) hB1 ?_
       intro A2 c2 w2 hown2 hB2 hg2
       have HK2 := hD (HK.out.apart_own hown1 (by decide) hg2)
       have HO2 := hD hown2
       clear hg2 hown2))
   have hmm : k + (zs.length - (k + 1)) = L.length := by have := HLn.out; omega
   rw [hmm]
   have hown : OwnI w w2 A2 L.length c2 L := by have h := HO2.out; rw [hmm, HLL.out] at h; exact h
   have HOW := hD hown
   clear hmm hown HO2 e1 e2 hw1 HR1 HR2 HR HP HK
   rcases Nat.eq_zero_or_pos L.length with h0 | h0
   · have hz : L = [] := List.eq_nil_of_length_eq_zero h0
     subst hz
     have hN : N = -1 := HN.out.symm
     subst hN
     obtain ⟨x0, x1, x2, f0, f1, f2⟩ := three HK2.out
     clear h0
     go_wp2
     obtain ⟨k1, k2, k3⟩ := put3 HK2.out (.int .i64 0) (.slice none 0 0) (.int .i64 (-1))
     refine bodyPost_ret (results_tmp_cell_row rfl _ _ _ _ _ _ rfl k1 Tryz.underlying77 rfl (by kernel_rfl)) rfl ?_
     have h3 := k2 w lR hB2
     exact ⟨none, 0, none, 0, rfl, ownI_nil _ _, own_nil _ _, h3, h3⟩
   · obtain ⟨z, hz⟩ : ∃ z, L[0]? = some z := ⟨_, List.getElem?_eq_getElem h0⟩
     have hv : N = z := by rw [<- HN.out, List.head?_eq_getElem?, hz]; rfl
     subst hv
     obtain ⟨g, rfl, hg1, hg2⟩ := own_addr HOW.out h0
     have hcl := (HOW.out.cellAt 0 (by omega)).trans (iv_get hz)
     obtain ⟨x0, x1, x2, f0, f1, f2⟩ := three HK2.out
     have hne : ¬ (L.length : Int) = 0 := by omega
     have hne2 : ((L.length : Int) == 0) = false := by rw [beq_eq_false_iff_ne]; omega
     clear hz hg1 hg2
     go_wp2
     go_region
     all_goals go_wp2
     obtain ⟨k1, k2, k3⟩ := put3 HK2.out (.int .i64 0) (.slice none 0 0) (.int .i64 N)
     refine bodyPost_ret (results_tmp_cell_row rfl _ _ _ _ _ _ rfl k1.drew Tryz.underlying77 rfl (by kernel_rfl)) rfl ?_
     have h3 := (k2 w lR hB2).drew
     exact ⟨some ⟨g, 0, none⟩, c2, none, 0, rfl, k3 _ _ _ _ _ _ HOW.out (by decide), own_nil _ _, h3, h3⟩
 · rw [if_neg hx, if_neg hx, List.erase_of_not_mem hx]
   have HP := hD (place_no hx)
   clear hx
   go_enter Tryz.func110, Tryz.ntmps110
   go_wp2_with (first
    | (go_at_call 120; refine (place_any _ x (HR.out.below b0) (by unfold maxLen; omega)).mono ?_; rintro e w2 ⟨rfl, rfl⟩; rw [HP.out])
    | (at_builtin
       refine wpList_append_cells (W := w) cellI (.tmp 13) (.tmp 14) rfl (by rfl) rfl (ownI_at b0 (by simp)) rfl (HR.out.below (b0.alloc (by simp) _)) (iv_one _) (by omega) (by omega) (b0.alloc (by simp) _) ?_
       intro A1 c1 w1 hown1 hB1 hg1
       simp only [Nat.zero_add] at hown1
       have HK := hD (((Blk.new w 77 zeroR).alloc (.cells #[] 3)).apart_own (ownI_at (W := w) b0 (by simp)) (by decide) hg1)
       obtain ⟨x0, x1, x2, f0, f1, f2⟩ := three HK.out
       clear hg1)
    | (go_at_call 98; refine (bad_any _ 5).mono ?_; rintro e w3 ⟨rfl, hb3⟩; unfold resV; clear x0 x1 x2 f0 f1 f2; have HK := hD (HK.out.below hb3); obtain ⟨x0, x1, x2, f0, f1, f2⟩ := three HK.out)
    | fail)
   obtain ⟨k1, k2, k3⟩ := put3 HK.out (.int .i64 5) (.slice none 0 0) (.int .i64 0)
   refine bodyPost_ret (results_tmp_cell_row rfl _ _ _ _ _ _ rfl k1 Tryz.underlying77 rfl (by kernel_rfl)) rfl ?_
   have h3 := k2 w lR (hB1.trans (hb3.mono hB1.size))
   exact ⟨A1, c1, none, 0, rfl, k3 _ _ _ _ _ _ (ownsRow_below hown1 hb3) (by decide), own_nil _ _, h3, h3⟩
theorem refFree_any {W w : World} {zs : List Int} {A : Option Addr} {n c B : Nat} (x : Int) (hn : Lim 1 n) (hc : n <= c) (hr : Rd w B A n (iv zs)) (hB : Below W.heap.size W w) :
 Calls Tryz.prog 110 #[.slice A n c, .int .i64 x] w (GotIR W w (zs.erase x) (freeE zs x) (freeN zs x)) :=
 (refFree_raw x hn hc hr).mono fun e w' h => GotIR.of hB h
theorem refOwner_any (w : World) {zs : List Int} {A : Option Addr} {n c B : Nat} (hr : Rd w B A n (iv zs)) :
 Calls Tryz.prog 111 #[.slice A n c] w fun en w' => en = .returned (resV (ownerE zs) none 0 0 (ownerN zs)) /\ Below w.heap.size w w' := by
 obtain rfl : zs.length = n := by have := hr.1; rwa [iv_length] at this
 unfold ownerE ownerN
 rcases Nat.eq_zero_or_pos zs.length with h0 | h0
 · have hz : zs = [] := List.eq_nil_of_length_eq_zero h0
   subst hz
   rw [if_pos h0]
   clear h0 hr
   go_enter Tryz.func111, Tryz.ntmps111
   go_wp2_with (first
    | (go_at_call 98; refine (bad_any _ 5).mono ?_; rintro e w3 ⟨rfl, hb3⟩; unfold resV; have HK := hD ((Blk.new w 77 zeroR).below hb3); obtain ⟨x0, x1, x2, f0, f1, f2⟩ := three HK.out)
    | fail)
   obtain ⟨k1, k2, k3⟩ := put3 HK.out (.int .i64 5) (.slice none 0 0) (.int .i64 0)
   refine bodyPost_ret (results_cell_row rfl _ _ _ _ _ _ _ rfl k1 Tryz.underlying77 rfl (by kernel_rfl)) rfl ?_
   have b0 : Below w.heap.size w (w.alloc (.cells zeroR 77)) := (Below.refl _ _).alloc lR _
   exact ⟨rfl, k2 w lR (b0.trans (hb3.mono b0.size))⟩
 · rw [if_neg (by omega)]
   have hne : ((zs.length : Int) == 0) = false := by rw [beq_eq_false_iff_ne]; omega
   obtain ⟨z, hz⟩ : ∃ z, zs[0]? = some z := ⟨_, List.getElem?_eq_getElem h0⟩
   obtain ⟨b, o, rfl, _⟩ := hr.int_at h0
   have hc := hr.int_cell h0 hz
   have hv : zs.head?.getD 0 = z := by rw [List.head?_eq_getElem?, hz]; rfl
   rw [hv]
   rw [Nat.add_zero] at hc
   have b0 : Below w.heap.size w (w.alloc (.cells zeroR 77)) := (Below.refl _ _).alloc lR _
   have hc0 := (b0.cell (p := ⟨b, o, none⟩) (World.block_lt_of_cell? _ _ hc)).trans hc
   clear hv hz hc hr
   go_enter Tryz.func111, Tryz.ntmps111
   go_wp2
   refine bodyPost_ret (results_cell_row rfl _ _ _ _ _ _ _ rfl (Blk.new w 77 #[.int .i64 0, .slice none 0 0, .int .i64 z]) Tryz.underlying77 rfl (by kernel_rfl)) rfl ?_
   exact ⟨rfl, (Below.refl _ _).alloc lR _⟩
end Go.Proofs.YtmekamgohonffaaGreat
