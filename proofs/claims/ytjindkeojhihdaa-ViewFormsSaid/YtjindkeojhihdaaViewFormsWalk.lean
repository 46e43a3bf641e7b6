/- ViewForms: the walk. -/
import Derived.Test.YtjindkeojhihdaaViewAwake
namespace Go.Proofs.Ytjindkeojhihdaa
open Go.RowKit
set_option linter.unusedVariables false
theorem form1 (w : World) (f i n : Int) (h : Bool) : Calls Try.prog 7 #[.int .i64 f, .int .i64 i, .int .i64 n, .bool h] w fun e w' => e = .returned (.agg (stC 2 f i n h).toArray) ∧ Below w.heap.size w w' := by
  go_enter Try.func7, Try.ntmps7
  go_wp2_with (first
    | (refine wpList_store_row rfl 29 (.tmp 8) (.tmp 13) rfl w.heap.size (stC 2 f i n h).toArray rfl rfl 29 mz (Blk.new w 29 mz) (by kernel_rfl) rfl (all_oneCell_toArray (by intro u hu; unfold stC at hu; simp only [List.mem_cons, List.not_mem_nil, or_false] at hu; rcases hu with rfl | rfl | rfl | rfl | rfl | rfl | rfl | rfl | rfl | rfl | rfl | rfl | rfl | rfl | rfl | rfl | rfl | rfl | rfl | rfl | rfl | rfl | rfl | rfl <;> rfl)) ?_)
    | fail)
  refine bodyPost_ret (results_cell_row rfl _ _ w.heap.size 29 (stC 2 f i n h).toArray (0, 0) _ rfl ((Blk.new w 29 mz).put_ _) Try.underlying29 rfl (by kernel_rfl)) rfl ?_
  exact ⟨rfl, below_setRow ((Below.refl _ _).alloc (Nat.le_refl _) _) (Nat.le_refl _) _⟩
/-- rows that lie there -/
structure Acc (w0 w : World) (L : List (Nat × List (List Value))) : Prop where
  b : Below w0.heap.size w0 w
  r : ∀ x ∈ L, RdV w w.heap.size (some ⟨x.1, 0, none⟩) x.2.length x.2
theorem Acc.start (w : World) : Acc w w [] := ⟨Below.refl _ _, fun x hx => (by cases hx)⟩
theorem Acc.below {w0 w w' : World} {L : List (Nat × List (List Value))} (h : Acc w0 w L) (hb : Below w.heap.size w w') : Acc w0 w' L := ⟨h.b.trans (hb.mono h.b.size), fun x hx => ((h.r x hx).below hb).fit⟩
theorem Acc.more {w0 w w' : World} {L : List (Nat × List (List Value))} {g : Nat} {es : List (List Value)} (h : Acc w0 w L) (hb : Below w.heap.size w w') (hr : RdV w' w'.heap.size (some ⟨g, 0, none⟩) es.length es) : Acc w0 w' ((g, es) :: L) :=
  ⟨h.b.trans (hb.mono h.b.size), fun x hx => by
    rcases List.mem_cons.1 hx with rfl | hx
    · exact hr
    · exact ((h.r x hx).below hb).fit⟩
theorem wpList_buildW {ops : Array Oper} {rest : List Oper} {o : Oper} {a : Act} {w : World} {Q : Exit → Act → World → Prop} (hgd : o.guard = none) (n : Nat) (parts : Array (Nat × Operand)) (ho : o.op = .buildSlice 31 n parts)
    (es : List (List Value)) (hes : ∀ cs ∈ es, Ms cs) (hn : es.length = n) (hn0 : 0 < n) (hn9 : n ≤ 100) (hp : (parts.map fun (i, x) => (i, a.eval x)).toList = (es.map fun cs => Value.agg cs.toArray).zipIdx.map fun x => (x.2, x.1))
    (h : ∀ g w', Below w.heap.size w w' → RdV w' w'.heap.size (some ⟨g, 0, none⟩) es.length es → wpList Try.prog ops Q rest (a.put o.dst (.slice (some ⟨g, 0, none⟩) n n)) w') : wpList Try.prog ops Q (o :: rest) a w :=
  wpList_buildV hgd n parts ho es (fun cs hc => (hes cs hc).len) hn hn0 hn9 hp (h _ _ ((Below.refl _ _).alloc (Nat.le_refl _) _) (litV w es hes).fit)
theorem flatN_len {sz : Nat} {es : List (List Value)} (h : ∀ cs ∈ es, cs.length = sz) : es.flatten.length = es.length * sz := by
  induction es with
  | nil => simp
  | cons x t ih =>
    rw [List.flatten_cons, List.length_append, ih (fun cs hc => h cs (List.mem_cons_of_mem _ hc)), h x (by simp), List.length_cons, Nat.add_mul]
    omega
theorem flatN_get {sz : Nat} {es : List (List Value)} (h : ∀ cs ∈ es, cs.length = sz) {k : Nat} {cs : List Value} (hk : es[k]? = some cs) {j : Nat} (hj : j < sz) : es.flatten[k * sz + j]? = cs[j]? := by
  induction es generalizing k with
  | nil => simp at hk
  | cons x t ih =>
    have hx : x.length = sz := h x (by simp)
    rw [List.flatten_cons]
    cases k with
    | zero =>
      simp at hk; subst hk
      rw [List.getElem?_append_left (by omega)]
      congr 1; omega
    | succ k =>
      rw [Nat.add_mul, List.getElem?_append_right (by omega)]
      have := ih (fun cs hc => h cs (List.mem_cons_of_mem _ hc)) (k := k) (by simpa using hk)
      rw [← this]
      congr 1; omega
/-- a literal of several elements -/
theorem wpList_buildN {P : Program} {t e : TypeId} {sz : Nat} (hs0 : 0 < sz) (hu : P.underlying t = some (.slice e)) (hz : ∃ ie z, P.info? e = some ie ∧ ie.zero = some z ∧ ie.size = sz) {ops : Array Oper} {rest : List Oper} {o : Oper} {a : Act} {w : World} {Q : Exit → Act → World → Prop} (hgd : o.guard = none) (n : Nat) (parts : Array (Nat × Operand)) (ho : o.op = .buildSlice t n parts)
    (es : List (List Value)) (hes : ∀ cs ∈ es, cs.length = sz) (hn : es.length = n) (hn0 : 0 < n) (hn9 : n * sz ≤ 10000) (hp : (parts.map fun (i, x) => (i, a.eval x)).toList = (es.map fun cs => Value.agg cs.toArray).zipIdx.map fun x => (x.2, x.1))
    (h : ∀ g w', Below w.heap.size w w' → Blk w' g e es.flatten.toArray → wpList P ops Q rest (a.put o.dst (.slice (some ⟨g, 0, none⟩) n n)) w') : wpList P ops Q (o :: rest) a w := by
  obtain ⟨ie, z, g1, g2, g3⟩ := hz
  obtain ⟨r, hr, hrs, hk⟩ := Great.fill_dense (s := sz) hs0 (es.map fun cs => Value.agg cs.toArray) 0 ((Array.range (n * sz)).map (z.cells[· % z.cells.size]!)) (by
    intro v hv
    obtain ⟨cs, hc, rfl⟩ := List.mem_map.1 hv
    simp [Value.cells, hes cs hc]) (by simp [hn])
  have hsz : r.size = n * sz := by rw [hrs]; simp
  have hre : r = es.flatten.toArray := by
    apply Array.ext_getElem?
    intro k
    rw [hk k, List.length_map, hn]
    by_cases hlt : k < n * sz
    · rw [if_pos (by rw [Nat.zero_mul, Nat.zero_add]; exact ⟨Nat.zero_le _, hlt⟩)]
      have hj : k / sz < es.length := by rw [hn]; exact (Nat.div_lt_iff_lt_mul hs0).2 hlt
      have hg : es[k / sz]? = some es[k / sz] := List.getElem?_eq_getElem hj
      have := flatN_get hes hg (j := k % sz) (Nat.mod_lt _ hs0)
      rw [show k / sz * sz + k % sz = k from Nat.div_add_mod' k sz] at this
      rw [Nat.sub_zero, List.getElem?_map, hg, Option.map_some, Option.bind_some]
      simp [Value.cells, this]
    · rw [if_neg (by rw [Nat.zero_mul, Nat.zero_add]; exact fun h => hlt h.2), Array.getElem?_eq_none (by simp; omega), List.getElem?_toArray, List.getElem?_eq_none (by rw [flatN_len hes, hn]; omega)]
  refine wpList_plain hgd fun K hK => ?_
  have hpos : 0 < n * sz := Nat.mul_pos hn0 hs0
  refine wp_buildSlice t e n parts ho r ie z hu g1 g2 (by rw [g3]; omega) (by rw [g3]; omega) (by rw [g3, hp]; exact hr) ?_
  rw [hre]
  exact hK _ _ (h _ _ ((Below.refl _ _).alloc (Nat.le_refl _) _) (Blk.new _ _ _))
def isBuildOp : Op → Bool
  | .buildSlice t _ _ => t == 31
  | _ => false
theorem wpList_isBuild {P : Program} {ops : Array Oper} {rest : List Oper} {o : Oper} {a : Act} {w : World} {Q : Exit → Act → World → Prop} (ho : isBuildOp o.op = true) (h : wpList P ops Q (o :: rest) a w) : wpList P ops Q (o :: rest) a w := h
/-- a row of the table -/
structure FR where
  es : List (List Value)
  m : Int
  s : Int
  n : Int
  ok : Bool
def tabF : List FR := [⟨[], 0, 0, 0, false⟩,
  ⟨[stC 2 0 0 0 true, stC 2 1 0 0 true], 0, 0, 0, false⟩,
  ⟨[stC 2 0 0 0 true, stC 2 1 0 0 true, stC 2 4 0 0 true], 19, 0, 0, true⟩,
  ⟨[stC 2 0 0 9 true, stC 2 1 8 2 true, stC 2 4 0 0 true], 19, 1, 2, true⟩,
  ⟨[stC 2 0 0 9 true, stC 2 1 8 0 false, stC 2 4 0 0 true], 0, 0, 0, false⟩,
  ⟨[stC 2 2 8 3 true, stC 2 1 8 3 true, stC 2 4 8 2 true], 22, 1, 3, true⟩,
  ⟨[stC 2 2 8 3 true, stC 2 1 8 9 false, stC 2 4 8 4 true], 22, 4, 4, true⟩,
  ⟨[stC 2 2 8 3 true, stC 2 2 16 9 true, stC 2 1 8 1 true, stC 2 4 8 4 true], 22, 4, 4, true⟩,
  ⟨[stC 2 2 8 3 true, stC 2 5 99 9 true, stC 2 1 8 1 true, stC 2 4 8 4 true], 22, 4, 4, true⟩,
  ⟨[stC 2 0 8 3 true, stC 2 1 8 3 true, stC 2 2 8 3 true, stC 2 3 8 3 true, stC 2 4 8 3 true], 31, 0, 3, true⟩,
  ⟨[stC 2 0 8 3 true, stC 6 1 0 0 false, stC 2 2 8 3 true], 0, 0, 0, false⟩]
theorem tabF_ok : ∀ (k : Nat) (r : FR), tabF[k]? = some r → Vw.choose (r.es.map svOf) 5 = (r.m, r.s, r.n, r.ok) ∧ r.es.length ≤ 1000 ∧ ∀ cs ∈ r.es, Ms cs := by
  intro k r hr
  have hk : k < 11 := (List.getElem?_eq_some_iff.1 hr).1
  rcases (show k = 0 ∨ k = 1 ∨ k = 2 ∨ k = 3 ∨ k = 4 ∨ k = 5 ∨ k = 6 ∨ k = 7 ∨ k = 8 ∨ k = 9 ∨ k = 10 by omega) with rfl | rfl | rfl | rfl | rfl | rfl | rfl | rfl | rfl | rfl | rfl
  all_goals
    injection hr with hr
    subst hr
    refine ⟨by kernel_rfl, by decide, ?_⟩
    intro cs hc
    simp only [List.mem_cons, List.not_mem_nil, or_false] at hc <;> first
      | (rcases hc with rfl | rfl <;> exact stC_ms (by decide))
      | (rcases hc with rfl | rfl | rfl <;> exact stC_ms (by decide))
      | (rcases hc with rfl | rfl | rfl | rfl <;> exact stC_ms (by decide))
      | (rcases hc with rfl | rfl | rfl | rfl | rfl <;> exact stC_ms (by decide))
      | exact hc.elim
theorem blkRow {w : World} {g : Nat} {t : TypeId} {l : List Value} (h : Blk w g t l.toArray) (k sz : Nat) (cs : List Value) (hc : (l.drop (k * sz)).take sz = cs) : w.rangeAt g (k * sz) cs := fun j v hv => by
  subst hc
  rw [h.cell]
  have hj := (List.getElem?_eq_some_iff.1 hv).1
  rw [List.length_take] at hj
  rw [List.getElem?_take_of_lt (by omega), List.getElem?_drop] at hv
  simpa using hv
/-- the table in memory -/
def TabF (w : World) (g : Nat) : Prop := ∀ (k : Nat) (r : FR), tabF[k]? = some r → ∃ A c, w.rangeAt g (k * 5) [.slice A r.es.length c, .int .i64 r.m, .int .i64 r.s, .int .i64 r.n, .bool r.ok] ∧ RdV w w.heap.size A r.es.length r.es
theorem wp_region_app' {P : Program} {id : Nat} {l m n : List Oper} {Q : Exit → Act → World → Prop} {a : Act} {w : World} (hn : l.append m = n) (h : wpList P n.toArray Q n a w) : (Code.region id (l.append m).toArray false).wp P Q a w := by
  rw [hn]; exact wp_region_lit h
theorem tabMs {es : List (List Value)} (k : Nat) (r : FR) (hr : tabF[k]? = some r) (he : r.es = es) : ∀ cs ∈ es, Ms cs := by subst he; exact (tabF_ok k r hr).2.2
set_option maxHeartbeats 4000000 in
set_option maxRecDepth 100000 in
theorem viewForms_walk (a0 : Int) (w : World) (w0 : (Lit.int .i64 a0).wf = true) :
    Calls Try.prog 3 #[.int .i64 a0] w fun e w' => e = .returned (.bool true) ∧ Below w.heap.size w w' := by
  have c255 := and_255 a0
  go_enter Try.func3, Try.ntmps3
  go_upto_region 2 with fail
  have HA := Lib.hid (Acc.start w)
  go_cut [4] from 10 to 96 (fun s4 wx => ∃ gt, s4 = .slice (some ⟨gt, 0, none⟩) 11 11 ∧ Hid (TabF wx gt) ∧ Hid (Below w.heap.size w wx))
  case first =>
    refine wp_region_app' (by simp only [List.append_eq, List.cons_append, List.nil_append]; exact rfl) ?_
    go_wp2_with (first
      | (go_at_call 7; refine (form1 _ _ _ _ _).mono ?_; rintro e w1 ⟨rfl, hb⟩; replace HA := Lib.hid (HA.out.below hb); clear hb)
      | (refine wpList_isBuild rfl ?_; first
          | (refine wpList_buildW rfl 2 #[(0, .tmp 12), (1, .tmp 14)] rfl [stC 2 0 0 0 true, stC 2 1 0 0 true] (tabMs 1 _ rfl rfl) rfl (by decide) (by decide) (by kernel_rfl) ?_; intro g1 w1 hb hr; replace HA := Lib.hid (HA.out.more hb hr); clear hb hr)
          | (refine wpList_buildW rfl 3 #[(0, .tmp 18), (1, .tmp 20), (2, .tmp 22)] rfl [stC 2 0 0 0 true, stC 2 1 0 0 true, stC 2 4 0 0 true] (tabMs 2 _ rfl rfl) rfl (by decide) (by decide) (by kernel_rfl) ?_; intro g2 w1 hb hr; replace HA := Lib.hid (HA.out.more hb hr); clear hb hr)
          | (refine wpList_buildW rfl 3 #[(0, .tmp 26), (1, .tmp 28), (2, .tmp 30)] rfl [stC 2 0 0 9 true, stC 2 1 8 2 true, stC 2 4 0 0 true] (tabMs 3 _ rfl rfl) rfl (by decide) (by decide) (by kernel_rfl) ?_; intro g3 w1 hb hr; replace HA := Lib.hid (HA.out.more hb hr); clear hb hr)
          | (refine wpList_buildW rfl 3 #[(0, .tmp 34), (1, .tmp 36), (2, .tmp 38)] rfl [stC 2 0 0 9 true, stC 2 1 8 0 false, stC 2 4 0 0 true] (tabMs 4 _ rfl rfl) rfl (by decide) (by decide) (by kernel_rfl) ?_; intro g4 w1 hb hr; replace HA := Lib.hid (HA.out.more hb hr); clear hb hr)
          | (refine wpList_buildW rfl 3 #[(0, .tmp 42), (1, .tmp 44), (2, .tmp 46)] rfl [stC 2 2 8 3 true, stC 2 1 8 3 true, stC 2 4 8 2 true] (tabMs 5 _ rfl rfl) rfl (by decide) (by decide) (by kernel_rfl) ?_; intro g5 w1 hb hr; replace HA := Lib.hid (HA.out.more hb hr); clear hb hr)
          | (refine wpList_buildW rfl 3 #[(0, .tmp 50), (1, .tmp 52), (2, .tmp 54)] rfl [stC 2 2 8 3 true, stC 2 1 8 9 false, stC 2 4 8 4 true] (tabMs 6 _ rfl rfl) rfl (by decide) (by decide) (by kernel_rfl) ?_; intro g6 w1 hb hr; replace HA := Lib.hid (HA.out.more hb hr); clear hb hr)
          | (refine wpList_buildW rfl 4 #[(0, .tmp 58), (1, .tmp 60), (2, .tmp 62), (3, .tmp 64)] rfl [stC 2 2 8 3 true, stC 2 2 16 9 true, stC 2 1 8 1 true, stC 2 4 8 4 true] (tabMs 7 _ rfl rfl) rfl (by decide) (by decide) (by kernel_rfl) ?_; intro g7 w1 hb hr; replace HA := Lib.hid (HA.out.more hb hr); clear hb hr)
          | (refine wpList_buildW rfl 4 #[(0, .tmp 68), (1, .tmp 70), (2, .tmp 72), (3, .tmp 74)] rfl [stC 2 2 8 3 true, stC 2 5 99 9 true, stC 2 1 8 1 true, stC 2 4 8 4 true] (tabMs 8 _ rfl rfl) rfl (by decide) (by decide) (by kernel_rfl) ?_; intro g8 w1 hb hr; replace HA := Lib.hid (HA.out.more hb hr); clear hb hr)
          | (refine wpList_buildW rfl 5 #[(0, .tmp 78), (1, .tmp 80), (2, .tmp 82), (3, .tmp 84), (4, .tmp 86)] rfl [stC 2 0 8 3 true, stC 2 1 8 3 true, stC 2 2 8 3 true, stC 2 3 8 3 true, stC 2 4 8 3 true] (tabMs 9 _ rfl rfl) rfl (by decide) (by decide) (by kernel_rfl) ?_; intro g9 w1 hb hr; replace HA := Lib.hid (HA.out.more hb hr); clear hb hr)
          | (refine wpList_buildW rfl 3 #[(0, .tmp 90), (1, .tmp 91), (2, .tmp 93)] rfl [stC 2 0 8 3 true, stC 6 1 0 0 false, stC 2 2 8 3 true] (tabMs 10 _ rfl rfl) rfl (by decide) (by decide) (by kernel_rfl) ?_; intro g10 w1 hb hr; replace HA := Lib.hid (HA.out.more hb hr); clear hb hr)
          | fail)
      | (refine wpList_buildN (t := 33) (e := 32) (sz := 5) (by decide) Try.underlying33 ⟨_, _, rfl, rfl, by kernel_rfl⟩ rfl 11 #[(0, .tmp 10), (1, .tmp 16), (2, .tmp 24), (3, .tmp 32), (4, .tmp 40), (5, .tmp 48), (6, .tmp 56), (7, .tmp 66), (8, .tmp 76), (9, .tmp 88), (10, .tmp 95)] rfl [[.slice none 0 0, .int .i64 0, .int .i64 0, .int .i64 0, .bool false], [.slice (some ⟨g1, 0, none⟩) 2 2, .int .i64 0, .int .i64 0, .int .i64 0, .bool false], [.slice (some ⟨g2, 0, none⟩) 3 3, .int .i64 19, .int .i64 0, .int .i64 0, .bool true], [.slice (some ⟨g3, 0, none⟩) 3 3, .int .i64 19, .int .i64 1, .int .i64 2, .bool true], [.slice (some ⟨g4, 0, none⟩) 3 3, .int .i64 0, .int .i64 0, .int .i64 0, .bool false], [.slice (some ⟨g5, 0, none⟩) 3 3, .int .i64 22, .int .i64 1, .int .i64 3, .bool true], [.slice (some ⟨g6, 0, none⟩) 3 3, .int .i64 22, .int .i64 4, .int .i64 4, .bool true], [.slice (some ⟨g7, 0, none⟩) 4 4, .int .i64 22, .int .i64 4, .int .i64 4, .bool true], [.slice (some ⟨g8, 0, none⟩) 4 4, .int .i64 22, .int .i64 4, .int .i64 4, .bool true], [.slice (some ⟨g9, 0, none⟩) 5 5, .int .i64 31, .int .i64 0, .int .i64 3, .bool true], [.slice (some ⟨g10, 0, none⟩) 3 3, .int .i64 0, .int .i64 0, .int .i64 0, .bool false]] (by intro cs hc; simp only [List.mem_cons, List.not_mem_nil, or_false] at hc; rcases hc with rfl | rfl | rfl | rfl | rfl | rfl | rfl | rfl | rfl | rfl | rfl <;> rfl) rfl (by decide) (by decide) (by kernel_rfl) ?_; intro gt w1 hb hk; replace HA := Lib.hid (HA.out.below hb); have HTB := Lib.hid hk; clear hb hk)
      | fail)
    go_meet
    refine ⟨gt, rfl, Lib.hid ?_, Lib.hid HA.out.b⟩
    intro k r hr
    have hk : k < 11 := (List.getElem?_eq_some_iff.1 hr).1
    rcases (show k = 0 ∨ k = 1 ∨ k = 2 ∨ k = 3 ∨ k = 4 ∨ k = 5 ∨ k = 6 ∨ k = 7 ∨ k = 8 ∨ k = 9 ∨ k = 10 by omega) with rfl | rfl | rfl | rfl | rfl | rfl | rfl | rfl | rfl | rfl | rfl
    all_goals
      injection hr with hr
      subst hr
    · exact ⟨none, 0, blkRow HTB.out 0 5 _ rfl, RdV.nil _ _ _⟩
    · exact ⟨_, 2, blkRow HTB.out 1 5 _ rfl, HA.out.r (g1, [stC 2 0 0 0 true, stC 2 1 0 0 true]) (by simp)⟩
    · exact ⟨_, 3, blkRow HTB.out 2 5 _ rfl, HA.out.r (g2, [stC 2 0 0 0 true, stC 2 1 0 0 true, stC 2 4 0 0 true]) (by simp)⟩
    · exact ⟨_, 3, blkRow HTB.out 3 5 _ rfl, HA.out.r (g3, [stC 2 0 0 9 true, stC 2 1 8 2 true, stC 2 4 0 0 true]) (by simp)⟩
    · exact ⟨_, 3, blkRow HTB.out 4 5 _ rfl, HA.out.r (g4, [stC 2 0 0 9 true, stC 2 1 8 0 false, stC 2 4 0 0 true]) (by simp)⟩
    · exact ⟨_, 3, blkRow HTB.out 5 5 _ rfl, HA.out.r (g5, [stC 2 2 8 3 true, stC 2 1 8 3 true, stC 2 4 8 2 true]) (by simp)⟩
    · exact ⟨_, 3, blkRow HTB.out 6 5 _ rfl, HA.out.r (g6, [stC 2 2 8 3 true, stC 2 1 8 9 false, stC 2 4 8 4 true]) (by simp)⟩
    · exact ⟨_, 4, blkRow HTB.out 7 5 _ rfl, HA.out.r (g7, [stC 2 2 8 3 true, stC 2 2 16 9 true, stC 2 1 8 1 true, stC 2 4 8 4 true]) (by simp)⟩
    · exact ⟨_, 4, blkRow HTB.out 8 5 _ rfl, HA.out.r (g8, [stC 2 2 8 3 true, stC 2 5 99 9 true, stC 2 1 8 1 true, stC 2 4 8 4 true]) (by simp)⟩
    · exact ⟨_, 5, blkRow HTB.out 9 5 _ rfl, HA.out.r (g9, [stC 2 0 8 3 true, stC 2 1 8 3 true, stC 2 2 8 3 true, stC 2 3 8 3 true, stC 2 4 8 3 true]) (by simp)⟩
    · exact ⟨_, 3, blkRow HTB.out 10 5 _ rfl, HA.out.r (g10, [stC 2 0 8 3 true, stC 6 1 0 0 false, stC 2 2 8 3 true]) (by simp)⟩
  case rest =>
    clear HA
    obtain ⟨gt, rfl, HT, HB⟩ := hcut
    obtain ⟨k, hk0, hk⟩ : ∃ k : Nat, a0 % 256 % 11 = (k : Int) ∧ k < 11 := ⟨(a0 % 256 % 11).toNat, by omega, by omega⟩
    obtain ⟨r, hr⟩ : ∃ r, tabF[k]? = some r := ⟨_, List.getElem?_eq_getElem hk⟩
    obtain ⟨A, c, hrg, hrd⟩ := HT.out k r hr
    obtain ⟨hch, hl, _⟩ := tabF_ok k r hr
    have HRG := Lib.hid hrg
    have HRD := Lib.hid hrd
    have HCH := Lib.hid hch
    clear hrg hrd hch hr HT
    rcases r with ⟨es, m, s, n, ok⟩
    simp only at HRG HRD HCH hl
    rename World => wa
    go_upto_region 4 with (first
      | (refine wpList_load_mid rfl 32 (.tmp 103) rfl gt (k * 5) rfl [.slice A es.length c, .int .i64 m, .int .i64 s, .int .i64 n, .bool ok] _ HRG.out Try.underlying32 rfl (by kernel_rfl) ?_)
      | fail)
    obtain ⟨gx, wb, hgE, hwE, hkE, hbE⟩ : ∃ gx wb, wa.heap.size = gx ∧ wa.alloc (.cells #[.slice A es.length c, .int .i64 m, .int .i64 s, .int .i64 n, .bool ok] 32) = wb ∧ Blk wb gx 32 #[.slice A es.length c, .int .i64 m, .int .i64 s, .int .i64 n, .bool ok] ∧ Below wa.heap.size wa wb := ⟨_, _, rfl, rfl, Blk.new _ _ _, (Below.refl _ _).alloc (Nat.le_refl _) _⟩
    rw [hgE, hwE]
    have HK := Lib.hid hkE
    have HBb := Lib.hid (HB.out.trans (hbE.mono HB.out.size))
    have HRb := Lib.hid (HRD.out.below hbE)
    have b0 : wb.cell? ⟨gx, 0, none⟩ = some (.slice A es.length c) := hkE.cell 0
    clear hgE hwE hkE hbE HRG HRD HB
    go_upto_region 5 with (first
      | (go_at_call 8; refine (choose14 (r := (m, s, n, ok)) 5 HCH.out ⟨by decide, by decide⟩ hl HRb.out).mono ?_; unfold chV; simp only []; rintro e wc ⟨rfl, hb⟩
         have HBc := Lib.hid (HBb.out.trans (hb.mono HBb.out.size))
         have hkc := HK.out.below hb
         clear hb)
      | fail)
    have d1 : wc.cell? ⟨gx, 1, none⟩ = some (.int .i64 m) := hkc.cell 1
    have d2 : wc.cell? ⟨gx, 2, none⟩ = some (.int .i64 s) := hkc.cell 2
    have d3 : wc.cell? ⟨gx, 3, none⟩ = some (.int .i64 n) := hkc.cell 3
    have d4 : wc.cell? ⟨gx, 4, none⟩ = some (.bool ok) := hkc.cell 4
    clear hkc b0
    go_wp2_with (first
      | (go_at_call 9; refine (awake14 _).mono ?_; rintro e wd ⟨rfl, hb⟩
         have HBd := Lib.hid (HBc.out.trans (hb.mono HBc.out.size))
         clear hb)
      | fail)
    go_ret
    exact ⟨rfl, HBd.out⟩
end Go.Proofs.Ytjindkeojhihdaa
