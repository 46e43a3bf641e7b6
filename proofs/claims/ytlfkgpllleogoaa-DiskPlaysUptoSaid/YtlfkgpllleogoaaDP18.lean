/- PackIn -/
import Derived.Test.YtlfkgpllleogoaaDP17
namespace Go.Proofs.Ytlfkgpllleogoaa
open Go.RowKit
set_option linter.unusedVariables false
theorem rnum_is (w : World) (b : Nat) (s : Pk.St) (most : Int) (h : RdrAt w b s) (v : Nat) (s' : Pk.St) (hv : Pk.numV s most = v) (hs : Pk.numS s most = s') :
    Calls Try.prog 78 #[.pointer (some ⟨b, 0, none⟩), .int .i64 most] w (NumP w b v s') := by
  subst hv hs; exact rnum_any w b s most h
/-- the calls of pack, as a caller that began in W knows them -/
theorem num_in {W w : World} {b : Nat} {s : Pk.St} {most : Int} (h : RdrAt w b s) (hB : Below W.heap.size W w) (hb : W.heap.size ≤ b) {v : Nat} {s' : Pk.St} (hv : Pk.numV s most = v) (hs : Pk.numS s most = s') :
    Calls Try.prog 78 #[.pointer (some ⟨b, 0, none⟩), .int .i64 most] w fun e w' => e = .returned (.int .i64 (v : Int)) ∧ RdrAt w' b s' ∧ Below W.heap.size W w' ∧ Only b w w' :=
  (rnum_is w b s most h v s' hv hs).mono fun e w' ⟨h1, h2, h3⟩ => ⟨h1, h2, below_only hB h3 hb, h3⟩
theorem read_in {W w : World} {l : List Nat} {A : Option Addr} {n c B : Nat} (hn : Lim 40 n) (hl : ∀ x ∈ l, x < 256) (hr : Rd w B A n (bv l)) (hB : Below W.heap.size W w) :
    Calls Try.prog 45 #[.slice A n c] w fun e w' => ∃ b, e = .returned (.pointer (some ⟨b, 0, none⟩)) ∧ RdrAt w' b (some l) ∧ W.heap.size ≤ b ∧ w.heap.size ≤ b ∧ Below W.heap.size W w' ∧ Below w.heap.size w w' :=
  (readP_any l A n c B hn hl w hr).mono fun e w' ⟨b, h1, h2, h3, h4⟩ => ⟨b, h1, h2, Nat.le_trans hB.size h3, h3, hB.trans (h4.mono hB.size), h4⟩
theorem put_in {W w : World} {l l' : List Nat} {A : Option Addr} {n c B : Nat} {N : Int} (hn : Lim 20 n) (hr : Rd w B A n (bv l)) (hB : Below W.heap.size W w) (he : l ++ Pk.enc (Pk.held N) = l') :
    Calls Try.prog 59 #[.slice A n c, .int .i64 N] w fun e w' => ∃ A n c, e = .returned (.slice A n c) ∧ OwnB W w' A n c l' ∧ Below W.heap.size W w' ∧ Below w.heap.size w w' := by
  subst he
  refine (num_any l A n c B N hn w hr).mono ?_
  rintro e w' ⟨A, n, c, h1, h2, h3⟩
  exact ⟨A, n, c, h1, own_base h2 hB.size, hB.trans (h3.mono hB.size), h3⟩
end Go.Proofs.Ytlfkgpllleogoaa

