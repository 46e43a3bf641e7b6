/- How memory reads: a slice of one-cell elements that reads as a list, nil let in. -/
import Derived.Below
import Derived.Laws.OwnMore
import Derived.Deep.AppendLies
import Derived.Deep.Draws
import Derived.WalkKit
import Derived.ProofKit
import Derived.OpenShut
import Derived.Lib.SlBytesConst
namespace Go.Proofs.Ytgijpmhlkmcpdaa
open Go.RowKit

/-- the n elements of the slice at a are vs, one cell each, in a block below B; of a slice without elements the address is left open -/
def Rd (w : World) (B : Nat) (a : Option Addr) (n : Nat) (vs : List Value) : Prop :=
  vs.length = n ∧ (0 < n → ∃ b o, a = some ⟨b, o, none⟩ ∧ b < B ∧ ∀ i, i < n → w.cell? ⟨b, o + i, none⟩ = vs[i]?)
/-- bytes as values -/
def bv (l : List Nat) : List Value := l.map fun (x : Nat) => Value.int .u8 (x : Int)
theorem bv_get {l : List Nat} {k : Nat} (h : k < l.length) : (bv l)[k]? = some (.int .u8 (l[k] : Int)) := by
  unfold bv; rw [List.getElem?_map, List.getElem?_eq_getElem h]; rfl
theorem bv_length (l : List Nat) : (bv l).length = l.length := by simp [bv]
theorem bv_append (l m : List Nat) : bv (l ++ m) = bv l ++ bv m := by simp [bv]
theorem ret_int {k : IntKind} {a b : Int} (h : a = b) : Ending.returned (.int k a) = .returned (.int k b) := by rw [h]
theorem ret_bool {a b : Bool} (h : a = b) : Ending.returned (.bool a) = .returned (.bool b) := by rw [h]

theorem bcell {W w1 : World} (hb : Below W.heap.size W w1) : (∀ b o, b < W.heap.size → w1.cell? ⟨b, o, none⟩ = W.cell? ⟨b, o, none⟩) ∧ (∀ b o, b < W.heap.size → w1.frozen? ⟨b, o, none⟩ = W.frozen? ⟨b, o, none⟩) :=
  ⟨fun b o h => hb.cell (p := ⟨b, o, none⟩) h, fun b o h => hb.frozen (p := ⟨b, o, none⟩) h⟩
section
variable {w w' : World} {B n : Nat} {a : Option Addr} {vs : List Value} {l : List Nat}
theorem Rd.none_ (w : World) (B : Nat) (a : Option Addr) : Rd w B a 0 [] := ⟨rfl, fun h => absurd h (by omega)⟩
theorem Rd.keep {B' : Nat} (h : Rd w B a n vs) (hk : ∀ p : Addr, p.block < B → w'.cell? p = w.cell? p) (hB : B ≤ B') : Rd w' B' a n vs :=
  ⟨h.1, fun hn => by
    obtain ⟨b, o, e, hb, hc⟩ := h.2 hn
    exact ⟨b, o, e, by omega, fun i hi => (hk _ hb).trans (hc i hi)⟩⟩
theorem Rd.more {B' : Nat} (h : Rd w B a n vs) (hB : B ≤ B') : Rd w B' a n vs := h.keep (fun _ _ => rfl) hB
theorem Rd.below (h : Rd w B a n vs) (hb : Below B w w') : Rd w' B a n vs := h.keep (fun _ hp => hb.cell hp) (Nat.le_refl _)
theorem Rd.drew (h : Rd w B a n vs) : Rd w.drew B a n vs := h
theorem Rd.drewN (h : Rd w B a n vs) (k : Nat) : Rd (w.drewN k) B a n vs := h
theorem Rd.alloc (h : Rd w B a n vs) (hB : B ≤ w.heap.size) (o : Obj) : Rd (w.alloc o) B a n vs := h.below ((Below.refl _ _).alloc hB _)
theorem Rd.bytes_at {k : Nat} (h : Rd w B a n (bv l)) (hk : k < n) : ∃ b o, a = some ⟨b, o, none⟩ ∧ ∃ hk' : k < l.length, w.cell? ⟨b, o + k, none⟩ = some (.int .u8 (l[k] : Int)) := by
  obtain ⟨b, o, e, _, hc⟩ := h.2 (by omega)
  have hl : k < l.length := by have := h.1; rw [bv_length] at this; omega
  exact ⟨b, o, e, hl, by rw [hc k hk, bv_get hl]⟩
theorem Rd.length (h : Rd w B a n (bv l)) : l.length = n := by have := h.1; rwa [bv_length] at this
theorem Rd.made (w : World) (cs : Array Value) (t : TypeId) (mark : Nat × Nat) (n : Nat) (hn : cs.size = n) : Rd (w.alloc (.cells cs t mark)) (w.heap.size + 1) (some ⟨w.heap.size, 0, none⟩) n cs.toList :=
  ⟨by simpa using hn, fun _ => ⟨_, _, rfl, by omega, fun i hi => by rw [Nat.zero_add, World.cell?_alloc_mark]; simp⟩⟩
end

/-- the bytes of a string, as numbers -/
def sb (s : ByteArray) : List Nat := s.data.toList.map UInt8.toNat
theorem sb_lt (s : ByteArray) : ∀ x ∈ sb s, x < 256 := by
  intro x hx
  obtain ⟨u, _, rfl⟩ := List.mem_map.1 hx
  exact UInt8.toNat_lt u
theorem Rd.of_string (w : World) (s : ByteArray) (cap : Nat) (t : TypeId) (mark : Nat × Nat) : Rd (w.alloc (.cells (bytesRow s cap) t mark)) (w.heap.size + 1) (some ⟨w.heap.size, 0, none⟩) s.size (bv (sb s)) := by
  have hl : (sb s).length = s.size := by unfold sb; rw [List.length_map, Array.length_toList]; rfl
  refine ⟨by rw [bv_length, hl], fun _ => ⟨_, _, rfl, by omega, fun i hi => ?_⟩⟩
  have e : (w.alloc (.cells (bytesRow s cap) t mark)).cell? ⟨w.heap.size, 0 + i, none⟩ = (bytesRow s cap)[0 + i]? := World.cell?_alloc_mark w _ _ _ _
  rw [e, Nat.zero_add, bytesRow_at s cap i hi, bv_get (by omega)]
  unfold sb
  rw [List.getElem_map, Array.getElem_toList]

/-- what a proof's frame tells of a slice of integers that came in -/
def IsRow (k : IntKind) (w : World) (a : Option Addr) (len cap : Nat) (zs : List Int) : Prop :=
  (a = none ∧ len = 0 ∧ cap = 0 ∧ zs = []) ∨
  ∃ x, a = some x ∧ len ≤ cap ∧ cap ≤ maxLen ∧ zs.length = cap ∧ (∀ i, i < zs.length → w.cell? (x.add i) = some (.int k (zs.getD i 0))) ∧ ∀ n ∈ zs, (Lit.int k n).wf = true
theorem u8_nat {n : Int} (h : (Lit.int .u8 n).wf = true) : ∃ k : Nat, n = k ∧ k < 256 := by
  have := bounds_u8 h
  exact ⟨n.toNat, by omega, by omega⟩
theorem nats_of {zs : List Int} (h : ∀ n ∈ zs, (Lit.int .u8 n).wf = true) : ∃ l : List Nat, (∀ x ∈ l, x < 256) ∧ zs = l.map fun (x : Nat) => (x : Int) := by
  induction zs with
  | nil => exact ⟨[], by simp, rfl⟩
  | cons z zs ih =>
    obtain ⟨l, hl, rfl⟩ := ih fun n hn => h n (by simp [hn])
    obtain ⟨k, rfl, hk⟩ := u8_nat (h z (by simp))
    exact ⟨k :: l, by simpa using ⟨hk, hl⟩, rfl⟩
theorem IsRow.rd {w : World} {a : Option Addr} {len cap : Nat} {zs : List Int} (h : IsRow .u8 w a len cap zs) :
    ∃ l : List Nat, (∀ x ∈ l, x < 256) ∧ Rd w w.heap.size a len (bv l) ∧ len ≤ cap ∧ cap ≤ maxLen := by
  rcases h with ⟨rfl, rfl, rfl, rfl⟩ | ⟨x, rfl, hl, hm, hz, hc, hw⟩
  · exact ⟨[], by simp, Rd.none_ _ _ _, Nat.le_refl _, by decide⟩
  · obtain ⟨l, hb, rfl⟩ := nats_of hw
    have hz' : l.length = cap := by simpa using hz
    refine ⟨l.take len, fun x hx => hb x (List.mem_of_mem_take hx), ⟨by rw [bv_length, List.length_take]; omega, fun hn => ?_⟩, hl, hm⟩
    obtain ⟨b, o, s⟩ := x
    have h0 := hc 0 (by simp; omega)
    have hs : s = none := by simpa [Addr.add] using World.cell?_spot h0
    subst hs
    have hlt : b < w.heap.size := by
      rcases Nat.lt_or_ge b w.heap.size with h' | h'
      · exact h'
      · simp [World.cell?, Addr.add, Array.getElem?_eq_none h'] at h0
    refine ⟨b, o, rfl, hlt, fun i hi => ?_⟩
    have hi' : i < l.length := by omega
    have := hc i (by simpa using hi')
    have e : (⟨b, o, none⟩ : Addr).add i = ⟨b, o + i, none⟩ := by unfold Addr.add; split <;> simp_all
    have g : (List.map (fun (x : Nat) => (x : Int)) l).getD i 0 = ((l[i] : Nat) : Int) := by
      rw [List.getD_eq_getElem?_getD, List.getElem?_map, List.getElem?_eq_getElem hi']; rfl
    rw [e, g] at this
    rw [bv_get (by rw [List.length_take]; omega), this]
    simp
end Go.Proofs.Ytgijpmhlkmcpdaa
