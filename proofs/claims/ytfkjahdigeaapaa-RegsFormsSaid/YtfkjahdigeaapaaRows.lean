/-
  No cell of these rows narrows 'for every input' (looked for: loops, veiled, ifaces, maps, wideKeys, modest, calm, conditions, laid).
  DERIVED. THE GIVEN ROWS OF THIS SEAT. 3 by the template 'for every input the law returns true; each argument reads behind the call as it read before'; 0 by the template 'total and deterministic' (their statements: YtfkjahdigeaapaaTotals.lean).
  GIVEN WITH THE SEED: the statements are not yours to turn. If you find one false, say at which input.
  Laid BY PROGRAM, IN A SANDBOX (cutbox-rows.mjs): the forced cells as the released guide's own fill.sh prints them over the translation a4d7b89c3f2a9243… (all of the seat's roots in one cut). By AI agents, Wed Nov 11 2026. No macro, syntax, notation, axiom, sorry.
-/
import Derived.Test.YtfkjahdigeaapaaChecked
import GoSem.Claim
import GoSem.ClaimJoined
import GoSem.ClaimMapViews
import Derived.JoinedTies
import Derived.KernelRfl
namespace Go.Proofs.Ytfkjahdigeaapaa
/- THE CELL 'sum', in the pinned program and in every row, IS THE sha256 OF THE DUMP (.gsa) THAT YtfkjahdigeaapaaProg.lean LOADS. Nothing in Lean hashes anything: it is a label: what it is worth is what the hold of that sum in a sandbox is worth. -/
noncomputable def Try.pinned : Pinned := { name := "ytfkjahdigeaapaa", sum := "a4d7b89c3f2a92434f7267211fbc4ec1b021a204adb6f66ce177b73238a5ef9a", checked := Try.checked }
namespace Rows
def none {H : Type} : Left H := { results := [], args := [] }

/-- 'hocketlaw4.RegsForms': WHATEVER THE INPUT: true; the input reads as it did. -/
def regsFormsSpec : ChangeSpec := { name := "regsForms", fn := fun _ => fun
  | [d] => { results := [.lit (.bool true)], args := [d] }
  | _ => none }
def regsFormsRow : OpenClaim := { program := "ytfkjahdigeaapaa", sum := "a4d7b89c3f2a92434f7267211fbc4ec1b021a204adb6f66ce177b73238a5ef9a", func := "hocket/hocketlaw4.RegsForms", spec := "regsForms", apart := false }
def RegsFormsSaid : Prop := regsFormsRow.holds Try.pinned (OpenSpec.ofChange regsFormsSpec)

/-- ITS FALSE NEIGHBOUR: 'it returns false'. Refute it at one input. -/
def regsFormsWrong : ChangeSpec := { name := "regsForms", fn := fun _ => fun
  | [d] => { results := [.lit (.bool false)], args := [d] }
  | _ => none }
def RegsFormsWrongFalsely : Prop := regsFormsRow.holds Try.pinned (OpenSpec.ofChange regsFormsWrong)

/-- 'hocketlaw4.RegsTells': WHATEVER THE INPUT: true; the input reads as it did. -/
def regsTellsSpec : ChangeSpec := { name := "regsTells", fn := fun _ => fun
  | [d1, d2, d3, d4] => { results := [.lit (.bool true)], args := [d1, d2, d3, d4] }
  | _ => none }
def regsTellsRow : OpenClaim := { program := "ytfkjahdigeaapaa", sum := "a4d7b89c3f2a92434f7267211fbc4ec1b021a204adb6f66ce177b73238a5ef9a", func := "hocket/hocketlaw4.RegsTells", spec := "regsTells", apart := false }
def RegsTellsSaid : Prop := regsTellsRow.holds Try.pinned (OpenSpec.ofChange regsTellsSpec)

/-- ITS FALSE NEIGHBOUR: 'it returns false'. Refute it at one input. -/
def regsTellsWrong : ChangeSpec := { name := "regsTells", fn := fun _ => fun
  | [d1, d2, d3, d4] => { results := [.lit (.bool false)], args := [d1, d2, d3, d4] }
  | _ => none }
def RegsTellsWrongFalsely : Prop := regsTellsRow.holds Try.pinned (OpenSpec.ofChange regsTellsWrong)

/-- 'hocketlaw4.RegsOnce': WHATEVER THE INPUT: true; the input reads as it did. -/
def regsOnceSpec : ChangeSpec := { name := "regsOnce", fn := fun _ => fun
  | [d1, d2, d3] => { results := [.lit (.bool true)], args := [d1, d2, d3] }
  | _ => none }
def regsOnceRow : OpenClaim := { program := "ytfkjahdigeaapaa", sum := "a4d7b89c3f2a92434f7267211fbc4ec1b021a204adb6f66ce177b73238a5ef9a", func := "hocket/hocketlaw4.RegsOnce", spec := "regsOnce", apart := false }
def RegsOnceSaid : Prop := regsOnceRow.holds Try.pinned (OpenSpec.ofChange regsOnceSpec)

/-- ITS FALSE NEIGHBOUR: 'it returns false'. Refute it at one input. -/
def regsOnceWrong : ChangeSpec := { name := "regsOnce", fn := fun _ => fun
  | [d1, d2, d3] => { results := [.lit (.bool false)], args := [d1, d2, d3] }
  | _ => none }
def RegsOnceWrongFalsely : Prop := regsOnceRow.holds Try.pinned (OpenSpec.ofChange regsOnceWrong)

/- THE SECOND FORM. 'bulk': how many values and letters a reading holds, each counted each time it is reached (what is shared counts as often as it is met; a slice's spare places count too). A statement '..UptoSaid' is the law's where the arguments, and the package variables that the reading takes, are together of bulk at most 1048576: NARROWER than '..Said'. Prove '..Said' where nothing that the law and all that it calls make is longer than what came in: it says more and counts as full. Else prove '..UptoSaid'. A law counts once. -/
mutual
def uptoBulk {H : Type} : DataW H → Nat
  | .lit (.string bytes) => bytes.length + 1
  | .lit _ => 1
  | .nil => 1
  | .ptr d => uptoBulk d + 1
  | .slice elems spare => uptoBulkAll elems + uptoBulkAll spare + 1
  | .agg parts => uptoBulkAll parts + 1
  | .iface _ d => uptoBulk d + 1
  | .map entries => uptoBulkEntries entries + 1
  | .held _ => 1
def uptoBulkAll {H : Type} : List (DataW H) → Nat
  | [] => 0
  | d :: r => uptoBulk d + uptoBulkAll r
def uptoBulkEntries {H : Type} : List (Lit × DataW H) → Nat
  | [] => 0
  | x :: r => uptoBulkEntry x + uptoBulkEntries r
def uptoBulkEntry {H : Type} : Lit × DataW H → Nat
  | (.string bytes, d) => bytes.length + uptoBulk d + 1
  | (_, d) => uptoBulk d + 1
 end
def uptoSmall : (H : Type) → List (DataW H) → Bool := fun _ ds => decide (uptoBulkAll ds ≤ 1048576)
def OpenSpec.upto (s : _root_.Go.ChangeSpec) : _root_.Go.OpenSpec := { _root_.Go.OpenSpec.ofChange s with cond := some uptoSmall }

/-- 'hocketlaw4.RegsForms', WHERE WHAT IT READS IS OF BULK AT MOST 1048576: true; the input reads as it did. -/
def regsFormsUptoRow : OpenClaim := { program := "ytfkjahdigeaapaa", sum := "a4d7b89c3f2a92434f7267211fbc4ec1b021a204adb6f66ce177b73238a5ef9a", func := "hocket/hocketlaw4.RegsForms", spec := "regsForms", apart := false, narrowed := true }
def RegsFormsUptoSaid : Prop := regsFormsUptoRow.holds Try.pinned (OpenSpec.upto regsFormsSpec)

/-- 'hocketlaw4.RegsTells', WHERE WHAT IT READS IS OF BULK AT MOST 1048576: true; the input reads as it did. -/
def regsTellsUptoRow : OpenClaim := { program := "ytfkjahdigeaapaa", sum := "a4d7b89c3f2a92434f7267211fbc4ec1b021a204adb6f66ce177b73238a5ef9a", func := "hocket/hocketlaw4.RegsTells", spec := "regsTells", apart := false, narrowed := true }
def RegsTellsUptoSaid : Prop := regsTellsUptoRow.holds Try.pinned (OpenSpec.upto regsTellsSpec)

/-- 'hocketlaw4.RegsOnce', WHERE WHAT IT READS IS OF BULK AT MOST 1048576: true; the input reads as it did. -/
def regsOnceUptoRow : OpenClaim := { program := "ytfkjahdigeaapaa", sum := "a4d7b89c3f2a92434f7267211fbc4ec1b021a204adb6f66ce177b73238a5ef9a", func := "hocket/hocketlaw4.RegsOnce", spec := "regsOnce", apart := false, narrowed := true }
def RegsOnceUptoSaid : Prop := regsOnceUptoRow.holds Try.pinned (OpenSpec.upto regsOnceSpec)

end Rows
end Go.Proofs.Ytfkjahdigeaapaa
