/- FramKit -/
import Derived.Test.YtlfkgpllleogoaaMT01
import Derived.Test.YtlfkgpllleogoaaMT04
import Derived.Test.YtlfkgpllleogoaaMT05
import Derived.Test.YtlfkgpllleogoaaMT09
import Derived.Test.YtlfkgpllleogoaaMT26
import Derived.Test.YtlfkgpllleogoaaMT34
import Derived.Test.YtlfkgpllleogoaaMT35
import Derived.Test.YtlfkgpllleogoaaMT38
import Derived.Test.YtlfkgpllleogoaaMT41
import Derived.Test.YtlfkgpllleogoaaMT42
import Derived.Test.YtlfkgpllleogoaaMT43
import Derived.Below
import Derived.BigQuiet
import Derived.Deep.CutBlock
import Derived.Deep.DeepCutAuto
import Derived.IntWalk
import Derived.Laws.BitsAllLaws
import Derived.Laws.OwnMore
import Derived.Lib.Hide
import Derived.Outline
import Derived.OwnWalk
import Derived.ProofKit
import Derived.Test.YtlfkgpllleogoaaRows
import Derived.WalkKit
import Derived.WalkLawsBesides
import Derived.WalkSpells
import Init
namespace Go.Proofs.Ytlfkgpllleogoaa
open Go.RowKit
set_option linter.unusedVariables false
theorem Fr.enc_len {m : Mg} (h : m.ok = true) : m.enc.length ≤ 290 := by
  unfold Mg.enc
  rw [if_pos h]
  unfold Mg.ok at h
  rw [Bool.and_eq_true] at h
  have ht := h.2
  unfold Mg.tailOk at ht
  unfold Mg.head Mg.tail
  have e1 := eI_len m.kind
  have e2 := eI_len m.frm
  have e3 := eI_len m.dst
  have e4 := eI_len m.view
  have e5 := eI_len m.inst
  have e6 := eI_len m.len
  have e7 := eI_len m.has01
  have e8 := eI_len m.mem
  have e9 := eI_len m.src
  have e10 := eI_len m.pos
  have e11 := eI_len m.tot
  have e12 := eI_len m.hop
  have e13 := eI_len m.seq
  have e14 := eI_len m.idx
  have e15 := encB_length m.data
  have e16 := encN_length m.hav.length
  have e17 := encN_length m.nee.length
  simp only [List.length_append]
  split
  · simp only [List.length_append]; omega
  rename_i c2; rw [if_neg c2] at ht
  split
  · simp only [List.length_append]; omega
  rename_i c3; rw [if_neg c3] at ht
  split
  · omega
  rename_i c4; rw [if_neg c4] at ht
  split
  · rename_i c5; rw [if_pos c5] at ht
    simp only [Bool.and_eq_true, decide_eq_true_eq] at ht
    simp only [List.length_append]; omega
  rename_i c5; rw [if_neg c5] at ht
  split
  · rename_i c7; rw [if_pos c7] at ht
    simp only [Bool.and_eq_true] at ht
    have q1 := encs_wis ht.2.2.1
    have q2 := encs_wis ht.2.2.2
    simp only [List.length_append]; omega
  rename_i c7; rw [if_neg c7] at ht
  split
  · rename_i c8; rw [if_pos c8] at ht
    simp only [Bool.and_eq_true] at ht
    have q := En.ok_len' ht.2
    simp only [List.length_append]; omega
  · simp; omega
end Go.Proofs.Ytlfkgpllleogoaa

