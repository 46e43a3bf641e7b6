/- SessRef3 MachMath MachBytes ObjsEq -/
import Derived.Test.YtlfkgpllleogoaaMT01
import Derived.Test.YtlfkgpllleogoaaMT02
import Derived.Test.YtlfkgpllleogoaaMT03
import Derived.Test.YtlfkgpllleogoaaMT04
import Derived.Test.YtlfkgpllleogoaaMT05
import Derived.Test.YtlfkgpllleogoaaMT08
import Derived.Test.YtlfkgpllleogoaaMT09
import Derived.BigQuiet
import Derived.Deep.CutBlock
import Derived.Deep.DeepCutAuto
import Derived.Deep.DrawnRows
import Derived.Deep.QuietTactic
import Derived.Deep.RegionHeld3
import Derived.Deep.RegionLaw
import Derived.Deep.RegionWith
import Derived.WalkSmall
namespace Go.Proofs.Ytlfkgpllleogoaa
open Go.RowKit
set_option linter.unusedVariables false
theorem Blk.newAt (w : World) (t : TypeId) (cs : Array Value) {g : Nat} (hg : w.heap.size = g) : Blk (w.alloc (.cells cs t)) g t cs := by subst hg; exact Blk.new w t cs
end Go.Proofs.Ytlfkgpllleogoaa

namespace Go.Proofs.Ytlfkgpllleogoaa
open Go.RowKit
set_option linter.unusedVariables false
/-- an entry: session, number, command -/
structure En where
  s : Int
  q : Int
  c : Cm
end Go.Proofs.Ytlfkgpllleogoaa

namespace Go.Proofs.Ytlfkgpllleogoaa
set_option linter.unusedVariables false
def encQ (qs : List (List Nat)) : List Nat := qs.flatMap Pk.encB
/-- how many -/
def encN (n : Nat) : List Nat := Pk.enc (Pk.held (n : Int))
def En.enc (e : En) : List Nat := Pk.enc (Pk.held e.s) ++ (Pk.enc (Pk.held e.q) ++ (Pk.enc (Pk.held e.c.kind) ++ (Pk.enc (Pk.held e.c.who) ++ (Pk.encB e.c.key ++ (Pk.encB e.c.val ++ Pk.encB e.c.old)))))
theorem encQ_snoc (qs : List (List Nat)) (x : List Nat) : encQ (qs ++ [x]) = encQ qs ++ Pk.encB x := by simp [encQ]
theorem encB_length (x : List Nat) : (Pk.encB x).length ≤ x.length + 9 := by
  unfold Pk.encB; have := (Pk.enc_length x.length).2; simp; omega
theorem encN_length (n : Nat) : (encN n).length ≤ 9 := (Pk.enc_length _).2
/-- an entry that is read -/
def En.get (s : Pk.St) : En × Pk.St :=
  let s1 := Pk.numS s 1073741824
  let s2 := Pk.numS s1 1073741824
  let s3 := Pk.numS s2 1073741824
  let s4 := Pk.numS s3 1073741824
  let s5 := Pk.bytS s4 32
  let s6 := Pk.bytS s5 32
  (⟨Pk.numV s 1073741824, Pk.numV s1 1073741824, ⟨Pk.numV s2 1073741824, Pk.numV s3 1073741824, Pk.bytV s4 32, Pk.bytV s5 32, Pk.bytV s6 32⟩⟩, Pk.bytS s6 32)
def En.zero : En := ⟨0, 0, ⟨0, 0, [], [], []⟩⟩
def En.read (s : Pk.St) : En := if (En.get s).2 = none then En.zero else (En.get s).1
-- back
theorem num_of_enc {n : Nat} {m : Int} {rest : List Nat} (h : n ≤ Pk.top) (hm : n ≤ Pk.held m) : Pk.numV (some (Pk.enc n ++ rest)) m = n ∧ Pk.numS (some (Pk.enc n ++ rest)) m = some rest := Pk.numV_is (Pk.numN_enc h rest m hm)
theorem num_of_encI {z : Int} {m : Int} {rest : List Nat} (h0 : 0 ≤ z) (hm : z ≤ m) (ht : m ≤ 4611686018427387904) : (Pk.numV (some (Pk.enc (Pk.held z) ++ rest)) m : Int) = z ∧ Pk.numS (some (Pk.enc (Pk.held z) ++ rest)) m = some rest := by
  have e : (Pk.held z : Int) = z := by unfold Pk.held Pk.top; omega
  have h1 := num_of_enc (n := Pk.held z) (m := m) (rest := rest) (Pk.held_le z) (by unfold Pk.held Pk.top; omega)
  exact ⟨by rw [h1.1, e], h1.2⟩
theorem byt_of_enc {x : List Nat} {m : Int} {rest : List Nat} (h : (x.length : Int) ≤ m) (ht : m ≤ 1000) : Pk.bytV (some (Pk.encB x ++ rest)) m = x ∧ Pk.bytS (some (Pk.encB x ++ rest)) m = some rest :=
  Pk.bytV_is (Pk.bytN_enc x rest m (by unfold Pk.top; omega) (by unfold Pk.held Pk.top; omega))
end Go.Proofs.Ytlfkgpllleogoaa

namespace Go.Proofs.Ytlfkgpllleogoaa
open Go.RowKit
set_option linter.unusedVariables false
set_option maxHeartbeats 1000000 in
theorem equalI_any (w : World) (A A' : Option Addr) (n c n' c' B B' : Nat) (zs zs' : List Int) (h : Rd w B A n (iv zs)) (h' : Rd w B' A' n' (iv zs')) (hn : n ≤ maxLen) (hn' : n' ≤ maxLen) :
    Calls Try.prog 41 #[.slice A n c, .slice A' n' c'] w fun e w' => e = .returned (.bool (decide (zs = zs'))) ∧ Below w.heap.size w w' := by
  have hl : zs.length = n := by have := h.1; rwa [iv_length] at this
  have hl' : zs'.length = n' := by have := h'.1; rwa [iv_length] at this
  unfold maxLen at hn hn'
  by_cases hne : n = n'
  · subst hne
    have HN : Hid (n ≤ 9223372036854775807) := Lib.hid (by omega)
    have HL := Lib.hid hl
    have HL' := Lib.hid hl'
    have H := Lib.hid h
    have H' := Lib.hid h'
    clear h h' hl hl' hn hn'
    go_enter Try.func41, Try.ntmps41
    go_wp2
    go_loopw [5, 13] (fun _ i wr => ∃ k : Nat, k ≤ n ∧ i = .int .i64 k ∧ (∀ j, j < k → zs[j]? = zs'[j]?) ∧ ∃ m, wr = w.drewN m) (fun _ i _ => n - (intOf i).toNat)
    case atStart => exact ⟨0, Nat.zero_le _, rfl, fun j hj => absurd hj (by omega), 0, rfl⟩
    case round =>
      obtain ⟨k, hk, rfl, hs, m, hm⟩ := hrel
      have hkm : (k : Int) ≤ 9223372036854775806 ∨ k = n := by have := HN.out; omega
      by_cases hlt : k < n
      · obtain ⟨z, hz⟩ : ∃ z, zs[k]? = some z := ⟨_, List.getElem?_eq_getElem (by have := HL.out; omega)⟩
        obtain ⟨z', hz'⟩ : ∃ z, zs'[k]? = some z := ⟨_, List.getElem?_eq_getElem (by have := HL'.out; omega)⟩
        obtain ⟨b, o, rfl, _⟩ := H.out.int_at hlt
        obtain ⟨b', o', rfl, _⟩ := H'.out.int_at hlt
        have hc : wr.cell? ⟨b, o + k, none⟩ = some (.int .i64 z) := by rw [hm]; exact H.out.int_cell hlt hz
        have hc' : wr.cell? ⟨b', o' + k, none⟩ = some (.int .i64 z') := by rw [hm]; exact H'.out.int_cell hlt hz'
        have hv : IntKind.i64.wrap ((k : Int) + 1) = (k : Int) + 1 := IntWalk.i64_in _ (by have := HN.out; omega)
        have HS := Lib.hid hs
        have HZ := Lib.hid hz
        have HZ' := Lib.hid hz'
        have HM := Lib.hid hm
        clear hs hz hz' hm hkm
        by_cases he : z = z'
        · subst he
          go_wp2
          go_quiet (fail)
          go_wp2
          go_roundw
          case rel =>
            refine ⟨k + 1, by omega, by go_num, fun j hj => ?_, m + nq, by rw [HM.out, World.drewN_drewN]⟩
            rcases Nat.lt_or_ge j k with h1 | h1
            · exact HS.out j h1
            · obtain rfl : j = k := by omega
              rw [HZ.out, HZ'.out]
          case measure => simp [intOf]; omega
        · have he' : (z == z') = false := by simpa using he
          have he2 : (z != z') = true := by simpa using he
          have HE := Lib.hid (show decide (zs = zs') = false by
            rw [decide_eq_false_iff_not]
            rintro rfl
            have h1 := HZ.out
            rw [HZ'.out] at h1
            injection h1 with h1
            exact he h1.symm)
          clear he
          go_wp2
          go_quiet (fail)
          go_wp2
          go_ret
          exact ⟨ret_bool HE.out.symm, by rw [HM.out, World.drewN_drewN]; exact belowN_d _⟩
      · have hkn : k = n := by omega
        have HE := Lib.hid (show decide (zs = zs') = true by
          rw [decide_eq_true_iff]
          apply List.ext_getElem?
          intro j
          rcases Nat.lt_or_ge j n with h1 | h1
          · exact hs j (by omega)
          · rw [List.getElem?_eq_none (by have := HL.out; omega), List.getElem?_eq_none (by have := HL'.out; omega)])
        have HM := Lib.hid hm
        clear hs hkn hm hkm
        go_wp2
        go_ret
        exact ⟨ret_bool HE.out.symm, by rw [HM.out]; exact belowN_d m⟩
  · have HE := Lib.hid (show decide (zs = zs') = false by
      rw [decide_eq_false_iff_not]; rintro rfl; omega)
    have hd : ((n : Int) == (n' : Int)) = false := by simp; omega
    have hd2 : ((n : Int) != (n' : Int)) = true := by simp; omega
    clear h h' hl hl' hn hn' hne
    go_enter Try.func41, Try.ntmps41
    go_wp2
    go_ret
    exact ⟨ret_bool HE.out.symm, Below.refl _ _⟩
end Go.Proofs.Ytlfkgpllleogoaa

