/- TknFormsKit -/
import Derived.Test.YtbgagmpifaakgaaTF04
import Derived.Test.YtbgagmpifaakgaaTF05
import Derived.Test.YtbgagmpifaakgaaTF14
import Derived.Test.YtbgagmpifaakgaaTF23
import Derived.Test.YtbgagmpifaakgaaTF40
import Derived.Test.YtbgagmpifaakgaaTF43
import Derived.Deep.RegionLaw
import Derived.Great.BuildSlice
import Derived.Great.FillDense
namespace Go.Proofs.Ytbgagmpifaakgaa
open Go.RowKit
set_option linter.unusedVariables false
theorem flatT_len {sz : Nat} {es : List (List Value)} (h : ∀ cs ∈ es, cs.length = sz) : es.flatten.length = es.length * sz := by
  induction es with
  | nil => simp
  | cons x t ih =>
    rw [List.flatten_cons, List.length_append, ih (fun cs hc => h cs (List.mem_cons_of_mem _ hc)), h x (by simp), List.length_cons, Nat.add_mul]
    omega
theorem flatT_get {sz : Nat} {es : List (List Value)} (h : ∀ cs ∈ es, cs.length = sz) {k : Nat} {cs : List Value} (hk : es[k]? = some cs) {j : Nat} (hj : j < sz) : es.flatten[k * sz + j]? = cs[j]? := by
  induction es generalizing k with
  | nil => simp at hk
  | cons x t ih =>
    have hx : x.length = sz := h x (by simp)
    rw [List.flatten_cons]
    cases k with
    | zero =>
      simp at hk; subst hk
      rw [List.getElem?_append_left (by omega)]
      congr 1; omega
    | succ k =>
      rw [Nat.add_mul, List.getElem?_append_right (by omega)]
      have := ih (fun cs hc => h cs (List.mem_cons_of_mem _ hc)) (k := k) (by simpa using hk)
      rw [← this]
      congr 1; omega
/-- a literal of several elements -/
theorem wpList_buildT {P : Program} {t e : TypeId} {sz : Nat} (hs0 : 0 < sz) (hu : P.underlying t = some (.slice e)) (hz : ∃ ie z, P.info? e = some ie ∧ ie.zero = some z ∧ ie.size = sz) {ops : Array Oper} {rest : List Oper} {o : Oper} {a : Act} {w : World} {Q : Exit → Act → World → Prop} (hgd : o.guard = none) (n : Nat) (parts : Array (Nat × Operand)) (ho : o.op = .buildSlice t n parts)
    (es : List (List Value)) (hes : ∀ cs ∈ es, cs.length = sz) (hn : es.length = n) (hn0 : 0 < n) (hn9 : n * sz ≤ 10000) (hp : (parts.map fun (i, x) => (i, a.eval x)).toList = (es.map fun cs => Value.agg cs.toArray).zipIdx.map fun x => (x.2, x.1))
    (h : ∀ g w', Below w.heap.size w w' → Blk w' g e es.flatten.toArray → wpList P ops Q rest (a.put o.dst (.slice (some ⟨g, 0, none⟩) n n)) w') : wpList P ops Q (o :: rest) a w := by
  obtain ⟨ie, z, g1, g2, g3⟩ := hz
  obtain ⟨r, hr, hrs, hk⟩ := Great.fill_dense (s := sz) hs0 (es.map fun cs => Value.agg cs.toArray) 0 ((Array.range (n * sz)).map (z.cells[· % z.cells.size]!)) (by
    intro v hv
    obtain ⟨cs, hc, rfl⟩ := List.mem_map.1 hv
    simp [Value.cells, hes cs hc]) (by simp [hn])
  have hsz : r.size = n * sz := by rw [hrs]; simp
  have hre : r = es.flatten.toArray := by
    apply Array.ext_getElem?
    intro k
    rw [hk k, List.length_map, hn]
    by_cases hlt : k < n * sz
    · rw [if_pos (by rw [Nat.zero_mul, Nat.zero_add]; exact ⟨Nat.zero_le _, hlt⟩)]
      have hj : k / sz < es.length := by rw [hn]; exact (Nat.div_lt_iff_lt_mul hs0).2 hlt
      have hg : es[k / sz]? = some es[k / sz] := List.getElem?_eq_getElem hj
      have := flatT_get hes hg (j := k % sz) (Nat.mod_lt _ hs0)
      rw [show k / sz * sz + k % sz = k from Nat.div_add_mod' k sz] at this
      rw [Nat.sub_zero, List.getElem?_map, hg, Option.map_some, Option.bind_some]
      simp [Value.cells, this]
    · rw [if_neg (by rw [Nat.zero_mul, Nat.zero_add]; exact fun h => hlt h.2), Array.getElem?_eq_none (by simp; omega), List.getElem?_toArray, List.getElem?_eq_none (by rw [flatT_len hes, hn]; omega)]
  refine wpList_plain hgd fun K hK => ?_
  have hpos : 0 < n * sz := Nat.mul_pos hn0 hs0
  refine wp_buildSlice t e n parts ho r ie z hu g1 g2 (by rw [g3]; omega) (by rw [g3]; omega) (by rw [g3, hp]; exact hr) ?_
  rw [hre]
  exact hK _ _ (h _ _ ((Below.refl _ _).alloc (Nat.le_refl _) _) (Blk.new _ _ _))
/-- a row of the table -/
structure FT where
  s0 : Int
  hv : List Int
  nv : List Int
  place : Int
  whole : Int
  fresh : Int
  has : List Int
  mis : List Int
  seq : Int
  safe : Int
  room : Int
  have_ : List Int
  need : List Int
  again : List Int
def FT.m (r : FT) : Mg := { Mg.zero with kind := 7, view := 8, hop := 3, seq := r.s0, hav := r.hv, nee := r.nv }
def FT.u (r : FT) : Mg := { Mg.zero with kind := 7, frm := 1, dst := 2, view := 8, hop := 4, seq := r.seq, hav := r.have_, nee := r.need }
def FT.ok (r : FT) : Bool := decide (Tk.pass r.m 1 r.place 2 r.whole r.fresh r.has r.mis = r.u) && (decide (Tk.inn r.nv r.has = r.again) && (decide (Tk.safe r.have_ = r.safe) && (decide (Tk.room r.s0 (Tk.safe r.hv) = r.room) &&
  (decide (r.hv.length ≤ 8 ∧ r.nv.length ≤ 8 ∧ r.has.length ≤ 8 ∧ r.mis.length ≤ 8 ∧ r.have_.length ≤ 8 ∧ r.need.length ≤ 8 ∧ r.again.length ≤ 8) && decide (0 ≤ r.s0 ∧ r.s0 ≤ 1000 ∧ 0 ≤ Tk.safe r.hv ∧ Tk.safe r.hv ≤ 1000 ∧ 0 ≤ r.place ∧ r.place ≤ 1000)))))
def tabT : List FT := [⟨5, [5, 5], [], 0, 5, 0, [], [], 5, 5, 4, [5, 5], [], []⟩,
  ⟨5, [5, 5], [], 0, 7, 2, [], [], 7, 5, 4, [7, 5], [], []⟩,
  ⟨5, [5, 5], [], 1, 9, 9, [], [], 9, 5, 4, [5, 9], [], []⟩,
  ⟨20, [5, 20], [], 1, 20, 3, [], [], 21, 5, 1, [5, 20], [], []⟩,
  ⟨21, [5, 21], [], 1, 21, 3, [], [], 21, 5, 0, [5, 21], [], []⟩,
  ⟨9, [5, 9], [6, 7], 1, 9, 0, [6], [], 9, 5, 4, [5, 9], [7], [6]⟩,
  ⟨9, [5, 9], [6, 7], 0, 9, 0, [], [], 9, 9, 4, [9, 9], [], []⟩,
  ⟨9, [5, 9], [], 0, 6, 0, [], [7, 9], 9, 6, 4, [6, 9], [7, 9], []⟩,
  ⟨9, [5, 9], [7], 0, 6, 0, [], [7, 9], 9, 6, 4, [6, 9], [7, 9], []⟩,
  ⟨30, [20, 30], [21, 22, 23, 24, 25, 26, 27], 0, 20, 0, [], [28, 29], 30, 20, 4, [20, 30], [21, 22, 23, 24, 25, 26, 27, 28], []⟩,
  ⟨5, [5, 5], [], 9, 7, (-3), [], [], 5, 5, 4, [5, 5], [], []⟩,
  ⟨9, [9, 9], [8, 8], 0, 9, 0, [8], [], 9, 9, 4, [9, 9], [], [8, 8]⟩]
theorem tabT_ok : ∀ r ∈ tabT, r.ok = true := by decide
/-- a row's cells -/
def FT.cells (r : FT) (Ah An A1 A2 A3 A4 A5 : Option Addr) (ch cn c1 c2 c3 c4 c5 : Nat) : List Value := .int .i64 7 :: .int .i64 0 :: .int .i64 0 :: .int .i64 8 :: .int .i64 0 :: .int .i64 0 :: .bool false :: .int .i64 0 :: .int .i64 0 :: .int .i64 0 :: .int .i64 0 :: .slice none 0 0 :: .int .i64 3 :: .int .i64 r.s0 :: .slice Ah r.hv.length ch :: .slice An r.nv.length cn :: .int .i64 0 :: .int .i64 0 :: .int .i64 0 :: .int .i64 0 :: .int .i64 0 :: .slice none 0 0 :: .slice none 0 0 :: .slice none 0 0 :: .int .i64 r.place :: .int .i64 r.whole :: .int .i64 r.fresh :: .slice A1 r.has.length c1 :: .slice A2 r.mis.length c2 :: .int .i64 r.seq :: .int .i64 r.safe :: .int .i64 r.room :: .slice A3 r.have_.length c3 :: .slice A4 r.need.length c4 :: .slice A5 r.again.length c5 :: []
/-- a row in memory -/
def FT.At (r : FT) (w : World) (g o : Nat) : Prop := ∃ (Ah An A1 A2 A3 A4 A5 : Option Addr) (ch cn c1 c2 c3 c4 c5 : Nat), w.rangeAt g o (r.cells Ah An A1 A2 A3 A4 A5 ch cn c1 c2 c3 c4 c5) ∧ Rd w w.heap.size Ah r.hv.length (iv r.hv) ∧ Rd w w.heap.size An r.nv.length (iv r.nv) ∧
  Rd w w.heap.size A1 r.has.length (iv r.has) ∧ Rd w w.heap.size A2 r.mis.length (iv r.mis) ∧ Rd w w.heap.size A3 r.have_.length (iv r.have_) ∧ Rd w w.heap.size A4 r.need.length (iv r.need) ∧ Rd w w.heap.size A5 r.again.length (iv r.again) ∧ (r.hv.length ≤ ch ∧ ch ≤ maxLen) ∧ (r.nv.length ≤ cn ∧ cn ≤ maxLen)
theorem blkRowT {w : World} {g : Nat} {t : TypeId} {l : List Value} (h : Blk w g t l.toArray) (k sz : Nat) (cs : List Value) (hc : (l.drop (k * sz)).take sz = cs) : w.rangeAt g (k * sz) cs := fun j v hv => by
  subst hc
  rw [h.cell]
  have hj := (List.getElem?_eq_some_iff.1 hv).1
  rw [List.length_take] at hj
  rw [List.getElem?_take_of_lt (by omega), List.getElem?_drop] at hv
  simpa using hv
/-- the table in memory -/
def TabT (w : World) (g : Nat) : Prop := ∀ (k : Nat) (r : FT), tabT[k]? = some r → r.At w g (k * 35)
/-- rows that lie there -/
structure AccT (w0 w : World) (L : List (Nat × List Int)) : Prop where
  b : Below w0.heap.size w0 w
  r : ∀ x ∈ L, Rd w w.heap.size (some ⟨x.1, 0, none⟩) x.2.length (iv x.2)
theorem AccT.start (w : World) : AccT w w [] := ⟨Below.refl _ _, fun x hx => (by cases hx)⟩
theorem AccT.below {w0 w w' : World} {L : List (Nat × List Int)} (h : AccT w0 w L) (hb : Below w.heap.size w w') : AccT w0 w' L := ⟨h.b.trans (hb.mono h.b.size), fun x hx => ((h.r x hx).below hb).fit⟩
theorem AccT.alloc {w0 w : World} {L : List (Nat × List Int)} (h : AccT w0 w L) (l : List Int) (cs : Array Value) (hc : cs.toList = iv l) {g : Nat} (hg : w.heap.size = g) : AccT w0 (w.alloc (.cells cs 3)) ((g, l) :: L) :=
  ⟨h.b.alloc h.b.size _, fun x hx => by
    rcases List.mem_cons.1 hx with rfl | hx
    · have := rd_new w l cs hc; rw [hg] at this; exact this
    · exact rd_alloc (h.r x hx) _⟩
theorem form17 (w : World) (s : Int) (A A' : Option Addr) (n c n' c' : Nat) : Calls Try.prog 6 #[.int .i64 s, .slice A n c, .slice A' n' c'] w fun e w' => e = .returned (.agg #[.int .i64 7, .int .i64 0, .int .i64 0, .int .i64 8, .int .i64 0, .int .i64 0, .bool false, .int .i64 0, .int .i64 0, .int .i64 0, .int .i64 0, .slice none 0 0, .int .i64 3, .int .i64 s, .slice A n c, .slice A' n' c', .int .i64 0, .int .i64 0, .int .i64 0, .int .i64 0, .int .i64 0, .slice none 0 0, .slice none 0 0, .slice none 0 0]) ∧ Below w.heap.size w w' := by
  go_enter Try.func6, Try.ntmps6
  go_wp2_with (first
    | (refine wpList_store_row rfl 29 (.tmp 6) (.tmp 10) rfl w.heap.size #[.int .i64 7, .int .i64 0, .int .i64 0, .int .i64 8, .int .i64 0, .int .i64 0, .bool false, .int .i64 0, .int .i64 0, .int .i64 0, .int .i64 0, .slice none 0 0, .int .i64 3, .int .i64 s, .slice A n c, .slice A' n' c', .int .i64 0, .int .i64 0, .int .i64 0, .int .i64 0, .int .i64 0, .slice none 0 0, .slice none 0 0, .slice none 0 0] rfl rfl 29 #[.int .i64 0, .int .i64 0, .int .i64 0, .int .i64 0, .int .i64 0, .int .i64 0, .bool false, .int .i64 0, .int .i64 0, .int .i64 0, .int .i64 0, .slice none 0 0, .int .i64 0, .int .i64 0, .slice none 0 0, .slice none 0 0, .int .i64 0, .int .i64 0, .int .i64 0, .int .i64 0, .int .i64 0, .slice none 0 0, .slice none 0 0, .slice none 0 0] (Blk.new w 29 #[.int .i64 0, .int .i64 0, .int .i64 0, .int .i64 0, .int .i64 0, .int .i64 0, .bool false, .int .i64 0, .int .i64 0, .int .i64 0, .int .i64 0, .slice none 0 0, .int .i64 0, .int .i64 0, .slice none 0 0, .slice none 0 0, .int .i64 0, .int .i64 0, .int .i64 0, .int .i64 0, .int .i64 0, .slice none 0 0, .slice none 0 0, .slice none 0 0]) (by kernel_rfl) rfl (by kernel_rfl) ?_)
    | fail)
  refine bodyPost_ret (results_cell_row rfl _ _ _ _ _ _ _ rfl (Blk.row (Blk.new w 29 #[.int .i64 0, .int .i64 0, .int .i64 0, .int .i64 0, .int .i64 0, .int .i64 0, .bool false, .int .i64 0, .int .i64 0, .int .i64 0, .int .i64 0, .slice none 0 0, .int .i64 0, .int .i64 0, .slice none 0 0, .slice none 0 0, .int .i64 0, .int .i64 0, .int .i64 0, .int .i64 0, .int .i64 0, .slice none 0 0, .slice none 0 0, .slice none 0 0]) #[.int .i64 7, .int .i64 0, .int .i64 0, .int .i64 8, .int .i64 0, .int .i64 0, .bool false, .int .i64 0, .int .i64 0, .int .i64 0, .int .i64 0, .slice none 0 0, .int .i64 3, .int .i64 s, .slice A n c, .slice A' n' c', .int .i64 0, .int .i64 0, .int .i64 0, .int .i64 0, .int .i64 0, .slice none 0 0, .slice none 0 0, .slice none 0 0]) Try.underlying29 rfl (by kernel_rfl)) rfl ?_
  exact ⟨rfl, below_setRow ((Below.refl _ _).alloc (Nat.le_refl _) _) (Nat.le_refl _) _⟩
end Go.Proofs.Ytbgagmpifaakgaa

