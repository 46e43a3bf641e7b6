/-
  No cell of these rows narrows 'for every input' (looked for: loops, veiled, ifaces, maps, wideKeys, modest, calm, conditions, laid).
  DERIVED. THE GIVEN ROWS OF THIS SEAT. 5 by the template 'for every input the law returns true; each argument reads behind the call as it read before'; 0 by the template 'total and deterministic' (their statements: YtneehnoolhadbaaTotals.lean).
  GIVEN WITH THE SEED: the statements are not yours to turn. If you find one false, say at which input.
  Laid BY PROGRAM, IN A SANDBOX (cutbox-rows.mjs): the forced cells as the released guide's own fill.sh prints them over the translation bf7c4133a160997e… (all of the seat's roots in one cut). By AI agents, Wed Nov 11 2026. No macro, syntax, notation, axiom, sorry.
-/
import Derived.Test.YtneehnoolhadbaaChecked
import GoSem.Claim
import GoSem.ClaimJoined
import GoSem.ClaimMapViews
import Derived.JoinedTies
import Derived.KernelRfl
namespace Go.Proofs.Ytneehnoolhadbaa
/- THE CELL 'sum', in the pinned program and in every row, IS THE sha256 OF THE DUMP (.gsa) THAT YtneehnoolhadbaaProg.lean LOADS. Nothing in Lean hashes anything: it is a label: what it is worth is what the hold of that sum in a sandbox is worth. -/
noncomputable def Try.pinned : Pinned := { name := "ytneehnoolhadbaa", sum := "bf7c4133a160997eea67bdec4943b4b234dde7281ae1d758a3910b0c39f060eb", checked := Try.checked }
namespace Rows
def none {H : Type} : Left H := { results := [], args := [] }

/-- 'hocketlaw18.GathForms': WHATEVER THE INPUT: true; the input reads as it did. -/
def gathFormsSpec : ChangeSpec := { name := "gathForms", fn := fun _ => fun
  | [d1, d2, d3] => { results := [.lit (.bool true)], args := [d1, d2, d3] }
  | _ => none }
def gathFormsRow : OpenClaim := { program := "ytneehnoolhadbaa", sum := "bf7c4133a160997eea67bdec4943b4b234dde7281ae1d758a3910b0c39f060eb", func := "hocket/hocketlaw18.GathForms", spec := "gathForms", apart := false }
def GathFormsSaid : Prop := gathFormsRow.holds Try.pinned (OpenSpec.ofChange gathFormsSpec)

/-- ITS FALSE NEIGHBOUR: 'it returns false'. Refute it at one input. -/
def gathFormsWrong : ChangeSpec := { name := "gathForms", fn := fun _ => fun
  | [d1, d2, d3] => { results := [.lit (.bool false)], args := [d1, d2, d3] }
  | _ => none }
def GathFormsWrongFalsely : Prop := gathFormsRow.holds Try.pinned (OpenSpec.ofChange gathFormsWrong)

/-- 'hocketlaw18.GathReady': WHATEVER THE INPUT: true; the input reads as it did. -/
def gathReadySpec : ChangeSpec := { name := "gathReady", fn := fun _ => fun
  | [d1, d2] => { results := [.lit (.bool true)], args := [d1, d2] }
  | _ => none }
def gathReadyRow : OpenClaim := { program := "ytneehnoolhadbaa", sum := "bf7c4133a160997eea67bdec4943b4b234dde7281ae1d758a3910b0c39f060eb", func := "hocket/hocketlaw18.GathReady", spec := "gathReady", apart := false }
def GathReadySaid : Prop := gathReadyRow.holds Try.pinned (OpenSpec.ofChange gathReadySpec)

/-- ITS FALSE NEIGHBOUR: 'it returns false'. Refute it at one input. -/
def gathReadyWrong : ChangeSpec := { name := "gathReady", fn := fun _ => fun
  | [d1, d2] => { results := [.lit (.bool false)], args := [d1, d2] }
  | _ => none }
def GathReadyWrongFalsely : Prop := gathReadyRow.holds Try.pinned (OpenSpec.ofChange gathReadyWrong)

/-- 'hocketlaw18.GathBlocks': WHATEVER THE INPUT: true; the input reads as it did. -/
def gathBlocksSpec : ChangeSpec := { name := "gathBlocks", fn := fun _ => fun
  | [d1, d2] => { results := [.lit (.bool true)], args := [d1, d2] }
  | _ => none }
def gathBlocksRow : OpenClaim := { program := "ytneehnoolhadbaa", sum := "bf7c4133a160997eea67bdec4943b4b234dde7281ae1d758a3910b0c39f060eb", func := "hocket/hocketlaw18.GathBlocks", spec := "gathBlocks", apart := false }
def GathBlocksSaid : Prop := gathBlocksRow.holds Try.pinned (OpenSpec.ofChange gathBlocksSpec)

/-- ITS FALSE NEIGHBOUR: 'it returns false'. Refute it at one input. -/
def gathBlocksWrong : ChangeSpec := { name := "gathBlocks", fn := fun _ => fun
  | [d1, d2] => { results := [.lit (.bool false)], args := [d1, d2] }
  | _ => none }
def GathBlocksWrongFalsely : Prop := gathBlocksRow.holds Try.pinned (OpenSpec.ofChange gathBlocksWrong)

/-- 'hocketlaw18.GathPlays': WHATEVER THE INPUT: true; the input reads as it did. -/
def gathPlaysSpec : ChangeSpec := { name := "gathPlays", fn := fun _ => fun
  | [d1, d2, d3, d4, d5] => { results := [.lit (.bool true)], args := [d1, d2, d3, d4, d5] }
  | _ => none }
def gathPlaysRow : OpenClaim := { program := "ytneehnoolhadbaa", sum := "bf7c4133a160997eea67bdec4943b4b234dde7281ae1d758a3910b0c39f060eb", func := "hocket/hocketlaw18.GathPlays", spec := "gathPlays", apart := false }
def GathPlaysSaid : Prop := gathPlaysRow.holds Try.pinned (OpenSpec.ofChange gathPlaysSpec)

/-- ITS FALSE NEIGHBOUR: 'it returns false'. Refute it at one input. -/
def gathPlaysWrong : ChangeSpec := { name := "gathPlays", fn := fun _ => fun
  | [d1, d2, d3, d4, d5] => { results := [.lit (.bool false)], args := [d1, d2, d3, d4, d5] }
  | _ => none }
def GathPlaysWrongFalsely : Prop := gathPlaysRow.holds Try.pinned (OpenSpec.ofChange gathPlaysWrong)

/-- 'hocketlaw18.GathOnce': WHATEVER THE INPUT: true; the input reads as it did. -/
def gathOnceSpec : ChangeSpec := { name := "gathOnce", fn := fun _ => fun
  | [d1, d2, d3] => { results := [.lit (.bool true)], args := [d1, d2, d3] }
  | _ => none }
def gathOnceRow : OpenClaim := { program := "ytneehnoolhadbaa", sum := "bf7c4133a160997eea67bdec4943b4b234dde7281ae1d758a3910b0c39f060eb", func := "hocket/hocketlaw18.GathOnce", spec := "gathOnce", apart := false }
def GathOnceSaid : Prop := gathOnceRow.holds Try.pinned (OpenSpec.ofChange gathOnceSpec)

/-- ITS FALSE NEIGHBOUR: 'it returns false'. Refute it at one input. -/
def gathOnceWrong : ChangeSpec := { name := "gathOnce", fn := fun _ => fun
  | [d1, d2, d3] => { results := [.lit (.bool false)], args := [d1, d2, d3] }
  | _ => none }
def GathOnceWrongFalsely : Prop := gathOnceRow.holds Try.pinned (OpenSpec.ofChange gathOnceWrong)

/- THE SECOND FORM. 'bulk': how many values and letters a reading holds, each counted each time it is reached (what is shared counts as often as it is met; a slice's spare places count too). A statement '..UptoSaid' is the law's where the arguments, and the package variables that the reading takes, are together of bulk at most 1048576: NARROWER than '..Said'. Prove '..Said' where nothing that the law and all that it calls make is longer than what came in: it says more and counts as full. Else prove '..UptoSaid'. A law counts once. -/
mutual
def uptoBulk {H : Type} : DataW H → Nat
  | .lit (.string bytes) => bytes.length + 1
  | .lit _ => 1
  | .nil => 1
  | .ptr d => uptoBulk d + 1
  | .slice elems spare => uptoBulkAll elems + uptoBulkAll spare + 1
  | .agg parts => uptoBulkAll parts + 1
  | .iface _ d => uptoBulk d + 1
  | .map entries => uptoBulkEntries entries + 1
  | .held _ => 1
def uptoBulkAll {H : Type} : List (DataW H) → Nat
  | [] => 0
  | d :: r => uptoBulk d + uptoBulkAll r
def uptoBulkEntries {H : Type} : List (Lit × DataW H) → Nat
  | [] => 0
  | x :: r => uptoBulkEntry x + uptoBulkEntries r
def uptoBulkEntry {H : Type} : Lit × DataW H → Nat
  | (.string bytes, d) => bytes.length + uptoBulk d + 1
  | (_, d) => uptoBulk d + 1
 end
def uptoSmall : (H : Type) → List (DataW H) → Bool := fun _ ds => decide (uptoBulkAll ds ≤ 1048576)
def OpenSpec.upto (s : _root_.Go.ChangeSpec) : _root_.Go.OpenSpec := { _root_.Go.OpenSpec.ofChange s with cond := some uptoSmall }

/-- 'hocketlaw18.GathForms', WHERE WHAT IT READS IS OF BULK AT MOST 1048576: true; the input reads as it did. -/
def gathFormsUptoRow : OpenClaim := { program := "ytneehnoolhadbaa", sum := "bf7c4133a160997eea67bdec4943b4b234dde7281ae1d758a3910b0c39f060eb", func := "hocket/hocketlaw18.GathForms", spec := "gathForms", apart := false, narrowed := true }
def GathFormsUptoSaid : Prop := gathFormsUptoRow.holds Try.pinned (OpenSpec.upto gathFormsSpec)

/-- 'hocketlaw18.GathReady', WHERE WHAT IT READS IS OF BULK AT MOST 1048576: true; the input reads as it did. -/
def gathReadyUptoRow : OpenClaim := { program := "ytneehnoolhadbaa", sum := "bf7c4133a160997eea67bdec4943b4b234dde7281ae1d758a3910b0c39f060eb", func := "hocket/hocketlaw18.GathReady", spec := "gathReady", apart := false, narrowed := true }
def GathReadyUptoSaid : Prop := gathReadyUptoRow.holds Try.pinned (OpenSpec.upto gathReadySpec)

/-- 'hocketlaw18.GathBlocks', WHERE WHAT IT READS IS OF BULK AT MOST 1048576: true; the input reads as it did. -/
def gathBlocksUptoRow : OpenClaim := { program := "ytneehnoolhadbaa", sum := "bf7c4133a160997eea67bdec4943b4b234dde7281ae1d758a3910b0c39f060eb", func := "hocket/hocketlaw18.GathBlocks", spec := "gathBlocks", apart := false, narrowed := true }
def GathBlocksUptoSaid : Prop := gathBlocksUptoRow.holds Try.pinned (OpenSpec.upto gathBlocksSpec)

/-- 'hocketlaw18.GathPlays', WHERE WHAT IT READS IS OF BULK AT MOST 1048576: true; the input reads as it did. -/
def gathPlaysUptoRow : OpenClaim := { program := "ytneehnoolhadbaa", sum := "bf7c4133a160997eea67bdec4943b4b234dde7281ae1d758a3910b0c39f060eb", func := "hocket/hocketlaw18.GathPlays", spec := "gathPlays", apart := false, narrowed := true }
def GathPlaysUptoSaid : Prop := gathPlaysUptoRow.holds Try.pinned (OpenSpec.upto gathPlaysSpec)

/-- 'hocketlaw18.GathOnce', WHERE WHAT IT READS IS OF BULK AT MOST 1048576: true; the input reads as it did. -/
def gathOnceUptoRow : OpenClaim := { program := "ytneehnoolhadbaa", sum := "bf7c4133a160997eea67bdec4943b4b234dde7281ae1d758a3910b0c39f060eb", func := "hocket/hocketlaw18.GathOnce", spec := "gathOnce", apart := false, narrowed := true }
def GathOnceUptoSaid : Prop := gathOnceUptoRow.holds Try.pinned (OpenSpec.upto gathOnceSpec)

end Rows
end Go.Proofs.Ytneehnoolhadbaa
