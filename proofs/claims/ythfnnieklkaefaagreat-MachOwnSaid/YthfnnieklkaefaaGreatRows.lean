/-
  No cell of these rows narrows 'for every input' (looked for: loops, veiled, ifaces, maps, wideKeys, modest, calm, conditions, laid).
  DERIVED. THE GIVEN ROWS OF THIS SEAT. 5 by the template 'for every input the law returns true; each argument reads behind the call as it read before'; 0 by the template 'total and deterministic' (their statements: YthfnnieklkaefaaGreatTotals.lean).
  GIVEN WITH THE SEED: the statements are not yours to turn. If you find one false, say at which input.
  Laid BY PROGRAM, IN A SANDBOX (cutbox-rows.mjs): the forced cells as the released guide's own fill.sh prints them over the translation 0df70a77262f19d8… (all of the seat's roots in one cut). By AI agents, Wed Nov 11 2026. No macro, syntax, notation, axiom, sorry.
-/
import Derived.Test.YthfnnieklkaefaaGreatChecked
import GoSem.Claim
import GoSem.ClaimJoined
import GoSem.ClaimMapViews
import Derived.JoinedTies
import Derived.KernelRfl
namespace Go.Proofs.YthfnnieklkaefaaGreat
/- THE CELL 'sum', in the pinned program and in every row, IS THE sha256 OF THE DUMP (.gsa) THAT YthfnnieklkaefaaGreatProg.lean LOADS. Nothing in Lean hashes anything: it is a label: what it is worth is what the hold of that sum in a sandbox is worth. -/
noncomputable def Tryz.pinned : Pinned := { name := "ythfnnieklkaefaagreat", sum := "0df70a77262f19d8bde15a09cf0fddaea1ac3d84e1ecd7ad4f0fe6c19dcb3f7d", checked := Tryz.checked }
namespace Rows
def none {H : Type} : Left H := { results := [], args := [] }

/-- 'hocketlaw10.MachOnce': WHATEVER THE INPUT: true; the input reads as it did. -/
def machOnceSpec : ChangeSpec := { name := "machOnce", fn := fun _ => fun
  | [d1, d2, d3] => { results := [.lit (.bool true)], args := [d1, d2, d3] }
  | _ => none }
def machOnceRow : OpenClaim := { program := "ythfnnieklkaefaagreat", sum := "0df70a77262f19d8bde15a09cf0fddaea1ac3d84e1ecd7ad4f0fe6c19dcb3f7d", func := "hocket/hocketlaw10.MachOnce", spec := "machOnce", inPlace := ["internal/bytealg.Compare", "slices.overlaps[hocket/api.Pair]", "slices.overlaps[hocket/api.Last]"], unfollowed := true, recurses := true, apart := false }
def MachOnceSaid : Prop := machOnceRow.holds Tryz.pinned (OpenSpec.ofChange machOnceSpec)

/-- ITS FALSE NEIGHBOUR: 'it returns false'. Refute it at one input. -/
def machOnceWrong : ChangeSpec := { name := "machOnce", fn := fun _ => fun
  | [d1, d2, d3] => { results := [.lit (.bool false)], args := [d1, d2, d3] }
  | _ => none }
def MachOnceWrongFalsely : Prop := machOnceRow.holds Tryz.pinned (OpenSpec.ofChange machOnceWrong)

/-- 'hocketlaw10.MachBounds': WHATEVER THE INPUT: true; the input reads as it did. -/
def machBoundsSpec : ChangeSpec := { name := "machBounds", fn := fun _ => fun
  | [d] => { results := [.lit (.bool true)], args := [d] }
  | _ => none }
def machBoundsRow : OpenClaim := { program := "ythfnnieklkaefaagreat", sum := "0df70a77262f19d8bde15a09cf0fddaea1ac3d84e1ecd7ad4f0fe6c19dcb3f7d", func := "hocket/hocketlaw10.MachBounds", spec := "machBounds", inPlace := ["internal/bytealg.Compare", "slices.overlaps[hocket/api.Pair]", "slices.overlaps[hocket/api.Last]"], unfollowed := true, recurses := true, apart := false }
def MachBoundsSaid : Prop := machBoundsRow.holds Tryz.pinned (OpenSpec.ofChange machBoundsSpec)

/-- ITS FALSE NEIGHBOUR: 'it returns false'. Refute it at one input. -/
def machBoundsWrong : ChangeSpec := { name := "machBounds", fn := fun _ => fun
  | [d] => { results := [.lit (.bool false)], args := [d] }
  | _ => none }
def MachBoundsWrongFalsely : Prop := machBoundsRow.holds Tryz.pinned (OpenSpec.ofChange machBoundsWrong)

/-- 'hocketlaw10.MachOwn': WHATEVER THE INPUT: true; the input reads as it did. -/
def machOwnSpec : ChangeSpec := { name := "machOwn", fn := fun _ => fun
  | [d1, d2] => { results := [.lit (.bool true)], args := [d1, d2] }
  | _ => none }
def machOwnRow : OpenClaim := { program := "ythfnnieklkaefaagreat", sum := "0df70a77262f19d8bde15a09cf0fddaea1ac3d84e1ecd7ad4f0fe6c19dcb3f7d", func := "hocket/hocketlaw10.MachOwn", spec := "machOwn", inPlace := ["internal/bytealg.Compare", "slices.overlaps[hocket/api.Pair]", "slices.overlaps[hocket/api.Last]"], unfollowed := true, recurses := true, apart := false }
def MachOwnSaid : Prop := machOwnRow.holds Tryz.pinned (OpenSpec.ofChange machOwnSpec)

/-- ITS FALSE NEIGHBOUR: 'it returns false'. Refute it at one input. -/
def machOwnWrong : ChangeSpec := { name := "machOwn", fn := fun _ => fun
  | [d1, d2] => { results := [.lit (.bool false)], args := [d1, d2] }
  | _ => none }
def MachOwnWrongFalsely : Prop := machOwnRow.holds Tryz.pinned (OpenSpec.ofChange machOwnWrong)

/-- 'hocketlaw10.MachTells': WHATEVER THE INPUT: true; the input reads as it did. -/
def machTellsSpec : ChangeSpec := { name := "machTells", fn := fun _ => fun
  | [d1, d2, d3, d4, d5] => { results := [.lit (.bool true)], args := [d1, d2, d3, d4, d5] }
  | _ => none }
def machTellsRow : OpenClaim := { program := "ythfnnieklkaefaagreat", sum := "0df70a77262f19d8bde15a09cf0fddaea1ac3d84e1ecd7ad4f0fe6c19dcb3f7d", func := "hocket/hocketlaw10.MachTells", spec := "machTells", inPlace := ["internal/bytealg.Compare", "slices.overlaps[hocket/api.Pair]", "slices.overlaps[hocket/api.Last]"], unfollowed := true, recurses := true, apart := false }
def MachTellsSaid : Prop := machTellsRow.holds Tryz.pinned (OpenSpec.ofChange machTellsSpec)

/-- ITS FALSE NEIGHBOUR: 'it returns false'. Refute it at one input. -/
def machTellsWrong : ChangeSpec := { name := "machTells", fn := fun _ => fun
  | [d1, d2, d3, d4, d5] => { results := [.lit (.bool false)], args := [d1, d2, d3, d4, d5] }
  | _ => none }
def MachTellsWrongFalsely : Prop := machTellsRow.holds Tryz.pinned (OpenSpec.ofChange machTellsWrong)

/-- 'hocketlaw10.MachBack': WHATEVER THE INPUT: true; the input reads as it did. -/
def machBackSpec : ChangeSpec := { name := "machBack", fn := fun _ => fun
  | [d1, d2] => { results := [.lit (.bool true)], args := [d1, d2] }
  | _ => none }
def machBackRow : OpenClaim := { program := "ythfnnieklkaefaagreat", sum := "0df70a77262f19d8bde15a09cf0fddaea1ac3d84e1ecd7ad4f0fe6c19dcb3f7d", func := "hocket/hocketlaw10.MachBack", spec := "machBack", inPlace := ["internal/bytealg.Compare", "slices.overlaps[hocket/api.Pair]", "slices.overlaps[hocket/api.Last]"], unfollowed := true, recurses := true, apart := false }
def MachBackSaid : Prop := machBackRow.holds Tryz.pinned (OpenSpec.ofChange machBackSpec)

/-- ITS FALSE NEIGHBOUR: 'it returns false'. Refute it at one input. -/
def machBackWrong : ChangeSpec := { name := "machBack", fn := fun _ => fun
  | [d1, d2] => { results := [.lit (.bool false)], args := [d1, d2] }
  | _ => none }
def MachBackWrongFalsely : Prop := machBackRow.holds Tryz.pinned (OpenSpec.ofChange machBackWrong)

/- THE SECOND FORM. 'bulk': how many values and letters a reading holds, each counted each time it is reached (what is shared counts as often as it is met; a slice's spare places count too). A statement '..UptoSaid' is the law's where the arguments, and the package variables that the reading takes, are together of bulk at most 1048576: NARROWER than '..Said'. Prove '..Said' where nothing that the law and all that it calls make is longer than what came in: it says more and counts as full. Else prove '..UptoSaid'. A law counts once. -/
mutual
def uptoBulk {H : Type} : DataW H → Nat
  | .lit (.string bytes) => bytes.length + 1
  | .lit _ => 1
  | .nil => 1
  | .ptr d => uptoBulk d + 1
  | .slice elems spare => uptoBulkAll elems + uptoBulkAll spare + 1
  | .agg parts => uptoBulkAll parts + 1
  | .iface _ d => uptoBulk d + 1
  | .map entries => uptoBulkEntries entries + 1
  | .held _ => 1
def uptoBulkAll {H : Type} : List (DataW H) → Nat
  | [] => 0
  | d :: r => uptoBulk d + uptoBulkAll r
def uptoBulkEntries {H : Type} : List (Lit × DataW H) → Nat
  | [] => 0
  | x :: r => uptoBulkEntry x + uptoBulkEntries r
def uptoBulkEntry {H : Type} : Lit × DataW H → Nat
  | (.string bytes, d) => bytes.length + uptoBulk d + 1
  | (_, d) => uptoBulk d + 1
 end
def uptoSmall : (H : Type) → List (DataW H) → Bool := fun _ ds => decide (uptoBulkAll ds ≤ 1048576)
def OpenSpec.upto (s : _root_.Go.ChangeSpec) : _root_.Go.OpenSpec := { _root_.Go.OpenSpec.ofChange s with cond := some uptoSmall }

/-- 'hocketlaw10.MachOnce', WHERE WHAT IT READS IS OF BULK AT MOST 1048576: true; the input reads as it did. -/
def machOnceUptoRow : OpenClaim := { program := "ythfnnieklkaefaagreat", sum := "0df70a77262f19d8bde15a09cf0fddaea1ac3d84e1ecd7ad4f0fe6c19dcb3f7d", func := "hocket/hocketlaw10.MachOnce", spec := "machOnce", inPlace := ["internal/bytealg.Compare", "slices.overlaps[hocket/api.Pair]", "slices.overlaps[hocket/api.Last]"], unfollowed := true, recurses := true, apart := false, narrowed := true }
def MachOnceUptoSaid : Prop := machOnceUptoRow.holds Tryz.pinned (OpenSpec.upto machOnceSpec)

/-- 'hocketlaw10.MachBounds', WHERE WHAT IT READS IS OF BULK AT MOST 1048576: true; the input reads as it did. -/
def machBoundsUptoRow : OpenClaim := { program := "ythfnnieklkaefaagreat", sum := "0df70a77262f19d8bde15a09cf0fddaea1ac3d84e1ecd7ad4f0fe6c19dcb3f7d", func := "hocket/hocketlaw10.MachBounds", spec := "machBounds", inPlace := ["internal/bytealg.Compare", "slices.overlaps[hocket/api.Pair]", "slices.overlaps[hocket/api.Last]"], unfollowed := true, recurses := true, apart := false, narrowed := true }
def MachBoundsUptoSaid : Prop := machBoundsUptoRow.holds Tryz.pinned (OpenSpec.upto machBoundsSpec)

/-- 'hocketlaw10.MachOwn', WHERE WHAT IT READS IS OF BULK AT MOST 1048576: true; the input reads as it did. -/
def machOwnUptoRow : OpenClaim := { program := "ythfnnieklkaefaagreat", sum := "0df70a77262f19d8bde15a09cf0fddaea1ac3d84e1ecd7ad4f0fe6c19dcb3f7d", func := "hocket/hocketlaw10.MachOwn", spec := "machOwn", inPlace := ["internal/bytealg.Compare", "slices.overlaps[hocket/api.Pair]", "slices.overlaps[hocket/api.Last]"], unfollowed := true, recurses := true, apart := false, narrowed := true }
def MachOwnUptoSaid : Prop := machOwnUptoRow.holds Tryz.pinned (OpenSpec.upto machOwnSpec)

/-- 'hocketlaw10.MachTells', WHERE WHAT IT READS IS OF BULK AT MOST 1048576: true; the input reads as it did. -/
def machTellsUptoRow : OpenClaim := { program := "ythfnnieklkaefaagreat", sum := "0df70a77262f19d8bde15a09cf0fddaea1ac3d84e1ecd7ad4f0fe6c19dcb3f7d", func := "hocket/hocketlaw10.MachTells", spec := "machTells", inPlace := ["internal/bytealg.Compare", "slices.overlaps[hocket/api.Pair]", "slices.overlaps[hocket/api.Last]"], unfollowed := true, recurses := true, apart := false, narrowed := true }
def MachTellsUptoSaid : Prop := machTellsUptoRow.holds Tryz.pinned (OpenSpec.upto machTellsSpec)

/-- 'hocketlaw10.MachBack', WHERE WHAT IT READS IS OF BULK AT MOST 1048576: true; the input reads as it did. -/
def machBackUptoRow : OpenClaim := { program := "ythfnnieklkaefaagreat", sum := "0df70a77262f19d8bde15a09cf0fddaea1ac3d84e1ecd7ad4f0fe6c19dcb3f7d", func := "hocket/hocketlaw10.MachBack", spec := "machBack", inPlace := ["internal/bytealg.Compare", "slices.overlaps[hocket/api.Pair]", "slices.overlaps[hocket/api.Last]"], unfollowed := true, recurses := true, apart := false, narrowed := true }
def MachBackUptoSaid : Prop := machBackUptoRow.holds Tryz.pinned (OpenSpec.upto machBackSpec)

end Rows
end Go.Proofs.YthfnnieklkaefaaGreat
