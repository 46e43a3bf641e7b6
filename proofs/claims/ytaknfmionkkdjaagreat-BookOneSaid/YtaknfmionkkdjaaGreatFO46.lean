/- DoneKit BookCode4 -/
import Derived.Test.YtaknfmionkkdjaaGreatFO28
import Derived.Test.YtaknfmionkkdjaaGreatFO42
import Derived.Test.YtaknfmionkkdjaaGreatFO45
namespace Go.Proofs.YtaknfmionkkdjaaGreat
open Go.RowKit
set_option linter.unusedVariables false
/-- its eleven cells -/
def doneL (a : CA) (A : Option Addr) (c : Nat) (d : Bk.Dn) : List Value := [.int .i64 d.i, .int .i64 d.e.s, .int .i64 d.e.q, .int .i64 d.e.c.kind, .int .i64 d.e.c.who, .slice a.Ak d.e.c.key.length a.ck, .slice a.Av d.e.c.val.length a.cv, .slice a.Ao d.e.c.old.length a.co, .int .i64 d.r.e, .slice A d.r.v.length c, .int .i64 d.r.n]
abbrev doneZ : Array Value := #[.int .i64 0, .int .i64 0, .int .i64 0, .int .i64 0, .int .i64 0, .slice none 0 0, .slice none 0 0, .slice none 0 0, .int .i64 0, .slice none 0 0, .int .i64 0]
theorem doneL_length (a : CA) (A : Option Addr) (c : Nat) (d : Bk.Dn) : (doneL a A c d).length = 11 := rfl
theorem doneL_one (a : CA) (A : Option Addr) (c : Nat) (d : Bk.Dn) : ∀ u ∈ doneL a A c d, u.oneCell' = true := by
  intro u hu
  unfold doneL at hu
  simp only [List.mem_cons, List.not_mem_nil, or_false] at hu
  rcases hu with rfl | rfl | rfl | rfl | rfl | rfl | rfl | rfl | rfl | rfl | rfl <;> rfl
theorem doneL_lt {a : CA} {A : Option Addr} {c : Nat} {d : Bk.Dn} {j : Nat} {v : Value} (h : (doneL a A c d)[j]? = some v) : j < 11 := by
  rcases Nat.lt_or_ge j 11 with h' | h'
  · exact h'
  · rw [List.getElem?_eq_none (by rw [doneL_length]; exact h')] at h; cases h
theorem cellD : CellS Tryz.prog 43 49 (.agg doneZ) 11 152 := ⟨Tryz.underlying43, by kernel_rfl, rfl, by omega⟩
/-- the cells vs, eleven a piece -/
structure CellsD (R : CA → Cm → Prop) (R' : Option Addr → Nat → List Nat → Prop) (vs : List Value) (ds : List Bk.Dn) : Prop where
  len : vs.length = ds.length * 11
  cell : ∀ (i : Nat) (d : Bk.Dn), ds[i]? = some d → ∃ a A c, (∀ j v, (doneL a A c d)[j]? = some v → vs[i * 11 + j]? = some v) ∧ R a d.e.c ∧ R' A c d.r.v
section
variable {R S : CA → Cm → Prop} {R' S' : Option Addr → Nat → List Nat → Prop} {vs ws : List Value} {ds es : List Bk.Dn}
theorem CellsD.imp (h : CellsD R R' vs ds) (hR : ∀ a c, R a c → S a c) (hR' : ∀ A c l, R' A c l → S' A c l) : CellsD S S' vs ds :=
  ⟨h.len, fun i d hd => by obtain ⟨a, A, c, h1, h2, h3⟩ := h.cell i d hd; exact ⟨a, A, c, h1, hR _ _ h2, hR' _ _ _ h3⟩⟩
theorem CellsD.nil : CellsD R R' [] [] := ⟨rfl, fun i e h => by simp at h⟩
theorem CellsD.one {a : CA} {A : Option Addr} {c : Nat} {d : Bk.Dn} (h : R a d.e.c) (h' : R' A c d.r.v) : CellsD R R' (doneL a A c d) [d] :=
  ⟨rfl, fun i e' he => by
    cases i with
    | zero => simp at he; subst he; exact ⟨a, A, c, fun j v hv => by simpa using hv, h, h'⟩
    | succ i => simp at he⟩
theorem CellsD.append (h : CellsD R R' vs ds) (h' : CellsD R R' ws es) : CellsD R R' (vs ++ ws) (ds ++ es) := by
  refine ⟨by rw [List.length_append, List.length_append, h.len, h'.len, Nat.add_mul], fun i d hd => ?_⟩
  by_cases hi : i < ds.length
  · rw [List.getElem?_append_left hi] at hd
    obtain ⟨a, A, c, h1, h2⟩ := h.cell i d hd
    refine ⟨a, A, c, fun j v hv => ?_, h2⟩
    have hj := doneL_lt hv
    rw [List.getElem?_append_left (by rw [h.len]; omega)]
    exact h1 j v hv
  · rw [List.getElem?_append_right (by omega)] at hd
    obtain ⟨a, A, c, h1, h2⟩ := h'.cell _ d hd
    refine ⟨a, A, c, fun j v hv => ?_, h2⟩
    rw [List.getElem?_append_right (by rw [h.len]; omega), h.len, show i * 11 + j - ds.length * 11 = (i - ds.length) * 11 + j by omega]
    exact h1 j v hv
theorem CellsD.oneCell (h : CellsD R R' vs ds) : ∀ u ∈ vs, u.oneCell' = true := by
  intro u hu
  obtain ⟨k, hk, e⟩ := List.getElem_of_mem hu
  have hlt : k / 11 < ds.length := by have := h.len; omega
  obtain ⟨a, A, c, h1, _⟩ := h.cell (k / 11) ds[k / 11] (List.getElem?_eq_getElem hlt)
  have hm : k % 11 < 11 := Nat.mod_lt _ (by omega)
  obtain ⟨v, hv⟩ : ∃ v, (doneL a A c ds[k / 11])[k % 11]? = some v := ⟨(doneL a A c ds[k / 11])[k % 11]'(by rw [doneL_length]; exact hm), List.getElem?_eq_getElem (by rw [doneL_length]; exact hm)⟩
  have h3 := h1 _ v hv
  rw [show k / 11 * 11 + k % 11 = k by omega, List.getElem?_eq_getElem hk, e] at h3
  injection h3 with h3
  subst h3
  exact doneL_one _ _ _ _ _ (List.mem_of_getElem? hv)
end
/-- a row of them that reads -/
def RdD9 (w : World) (A : Option Addr) (n : Nat) (ds : List Bk.Dn) : Prop := ∃ vs, Rd w w.heap.size A (n * 11) vs ∧ CellsD (fun a c => RdC w w.heap.size a c) (fun A _ l => Rd w w.heap.size A l.length (bv l)) vs ds
/-- a row of the call's own -/
def OwnDs (W w : World) (A : Option Addr) (n c : Nat) (ds : List Bk.Dn) : Prop := ∃ vs, w.ownsRow W.heap.size 49 11 (.slice A n c) n vs ∧ CellsD (fun a k => OwnC W w a k) (fun A c l => OwnB W w A l.length c l) vs ds
section
variable {W w w' : World} {A : Option Addr} {n c : Nat} {ds : List Bk.Dn}
theorem OwnC.below9 {a : CA} {k : Cm} (h : OwnC W w a k) (hb : Below w.heap.size w w') : OwnC W w' a k := ⟨ownsRow_below h.k hb, ownsRow_below h.v hb, ownsRow_below h.o hb⟩
theorem OwnC.keeps9 {S : Nat → Prop} {T : List TypeId} {a : CA} {k : Cm} (h : OwnC W w a k) (hk : Keeps S w w') (ho : Of S T w) (h1 : 5 ∉ T) : OwnC W w' a k := ⟨ownsRow_keeps h.k hk ho h1, ownsRow_keeps h.v hk ho h1, ownsRow_keeps h.o hk ho h1⟩
theorem OwnDs.nil (W w : World) : OwnDs W w none 0 0 [] := ⟨[], ⟨rfl, .inl ⟨rfl, rfl⟩⟩, CellsD.nil⟩
theorem OwnDs.below (h : OwnDs W w A n c ds) (hb : Below w.heap.size w w') : OwnDs W w' A n c ds := by
  obtain ⟨vs, h1, h2⟩ := h
  exact ⟨vs, ownsRow_below h1 hb, h2.imp (fun _ _ h => h.below9 hb) (fun _ _ _ h => ownsRow_below h hb)⟩
theorem OwnDs.of (hs : W.heap.size ≤ w.heap.size) (h : OwnDs w w' A n c ds) : OwnDs W w' A n c ds := by
  obtain ⟨vs, h1, h2⟩ := h
  exact ⟨vs, more_ hs h1, h2.imp (fun _ _ h => h.of9 hs) (fun _ _ _ h => more_ hs h)⟩
theorem OwnDs.keeps {S : Nat → Prop} {T : List TypeId} (h : OwnDs W w A n c ds) (hk : Keeps S w w') (ho : Of S T w) (h1 : 5 ∉ T) (h2 : 49 ∉ T) : OwnDs W w' A n c ds := by
  obtain ⟨vs, q1, q2⟩ := h
  exact ⟨vs, ownsRow_keeps q1 hk ho h2, q2.imp (fun _ _ h => h.keeps9 hk ho h1) (fun _ _ _ h => ownsRow_keeps h hk ho h1)⟩
theorem OwnDs.rd (h : OwnDs W w A n c ds) : RdD9 w A n ds := by
  obtain ⟨vs, h1, h2⟩ := h
  exact ⟨vs, Rd.ownS h1 (by omega), h2.imp (fun _ _ h => h.rd) (fun _ _ _ h => Rd.own_ h)⟩
theorem RdD9.length (h : RdD9 w A n ds) : ds.length = n := by
  obtain ⟨vs, h1, h2⟩ := h
  have := h2.len
  rw [h1.1] at this
  omega
theorem RdD9.below (h : RdD9 w A n ds) (hb : Below w.heap.size w w') : RdD9 w' A n ds := by
  obtain ⟨vs, h1, h2⟩ := h
  exact ⟨vs, (h1.below hb).fit, h2.imp (fun _ _ h => h.below' hb) (fun _ _ _ h => (h.below hb).fit)⟩
/-- one more -/
theorem OwnDs.snoc {A2 : Option Addr} {c2 : Nat} {vs : List Value} {a : CA} {A1 : Option Addr} {c1 : Nat} {d : Bk.Dn} (ho : w.ownsRow W.heap.size 49 11 (.slice A n c) n vs) (hc : CellsD (fun a k => OwnC W w a k) (fun A c l => OwnB W w A l.length c l) vs ds) (hr : OwnC W w a d.e.c) (hv : OwnB W w A1 d.r.v.length c1 d.r.v)
    (hg : w.grownBy w' (Value.slice A n c).ownBlock) (ho2 : w'.ownsRow W.heap.size 49 11 (.slice A2 (n + 1) c2) (n + 1) (vs ++ doneL a A1 c1 d)) : OwnDs W w' A2 (n + 1) c2 (ds ++ [d]) := by
  have hk : ∀ {a : CA} {k : Cm}, OwnC W w a k → OwnC W w' a k := fun h => ⟨own_grown_t h.k ho (by decide) hg, own_grown_t h.v ho (by decide) hg, own_grown_t h.o ho (by decide) hg⟩
  have hk2 : ∀ {A : Option Addr} {c : Nat} {l : List Nat}, OwnB W w A l.length c l → OwnB W w' A l.length c l := fun h => own_grown_t h ho (by decide) hg
  exact ⟨vs ++ doneL a A1 c1 d, ho2, (hc.imp (fun _ _ h => hk h) (fun _ _ _ h => hk2 h)).append (CellsD.one (R := fun a k => OwnC W w' a k) (R' := fun A c l => OwnB W w' A l.length c l) (hk hr) (hk2 hv))⟩
end
theorem Rd.doneAt (w : World) (a : CA) (A : Option Addr) (c : Nat) (d : Bk.Dn) (t : TypeId) {g : Nat} (hg : w.heap.size = g) : Rd (w.alloc (.cells (doneL a A c d).toArray t)) (g + 1) (some ⟨g, 0, none⟩) (1 * 11) (doneL a A c d) := by
  subst hg; exact Rd.made w (doneL a A c d).toArray t (0, 0) 11 rfl
/-- one, of the call's own -/
def GotDn (W w : World) (d : Bk.Dn) (en : Ending) (w' : World) : Prop := ∃ ca A c, en = .returned (.agg (doneL ca A c d).toArray) ∧ OwnC W w' ca d.e.c ∧ OwnB W w' A d.r.v.length c d.r.v
end Go.Proofs.YtaknfmionkkdjaaGreat

namespace Go.Proofs.YtaknfmionkkdjaaGreat
open Go.RowKit
set_option linter.unusedVariables false
/-- what a step leaves in two variables -/
structure StC (w0 wx : World) (g6 g7 : Nat) (a2 : MA) (A2 : Option Addr) (c2 : Nat) (r : MAns) : Prop where
  k6 : Blk wx g6 33 #[.slice a2.o.A0 r.m.o.reg.length a2.o.c0, .slice a2.o.A1 r.m.o.q.length a2.o.c1, .slice a2.o.A2 r.m.o.lk.length a2.o.c2, .slice a2.o.A3 r.m.o.mp.length a2.o.c3, .slice a2.At r.m.t.length a2.ct]
  k7 : Blk wx g7 47 #[.int .i64 r.e, .slice A2 r.v.length c2, .int .i64 r.n]
  own : OwnM w0 wx a2 r.m
  res : OwnB w0 wx A2 r.v.length c2 r.v
  bel : Below w0.heap.size w0 wx
theorem StC.mk2 {w0 w5 : World} {g6 g7 : Nat} {a2 : MA} {A2 : Option Addr} {c2 : Nat} {r : MAns} (h6 : Blk w5 g6 33 #[.slice none 0 0, .slice none 0 0, .slice none 0 0, .slice none 0 0, .slice none 0 0]) (h7 : Blk w5 g7 47 #[.int .i64 0, .slice none 0 0, .int .i64 0]) (ho : OwnM w0 w5 a2 r.m) (hv : OwnB w0 w5 A2 r.v.length c2 r.v) (hb : Below w0.heap.size w0 w5) (q6 : w0.heap.size ≤ g6) (q7 : w0.heap.size ≤ g7) :
    Blk (w5.setRow g6 #[.slice a2.o.A0 r.m.o.reg.length a2.o.c0, .slice a2.o.A1 r.m.o.q.length a2.o.c1, .slice a2.o.A2 r.m.o.lk.length a2.o.c2, .slice a2.o.A3 r.m.o.mp.length a2.o.c3, .slice a2.At r.m.t.length a2.ct]) g7 47 #[.int .i64 0, .slice none 0 0, .int .i64 0] ∧ Below w0.heap.size w0 (w5.setRow g6 #[.slice a2.o.A0 r.m.o.reg.length a2.o.c0, .slice a2.o.A1 r.m.o.q.length a2.o.c1, .slice a2.o.A2 r.m.o.lk.length a2.o.c2, .slice a2.o.A3 r.m.o.mp.length a2.o.c3, .slice a2.At r.m.t.length a2.ct]) ∧ StC w0 ((w5.setRow g6 #[.slice a2.o.A0 r.m.o.reg.length a2.o.c0, .slice a2.o.A1 r.m.o.q.length a2.o.c1, .slice a2.o.A2 r.m.o.lk.length a2.o.c2, .slice a2.o.A3 r.m.o.mp.length a2.o.c3, .slice a2.At r.m.t.length a2.ct]).setRow g7 #[.int .i64 r.e, .slice A2 r.v.length c2, .int .i64 r.n]) g6 g7 a2 A2 c2 r := by
  have hne : g6 ≠ g7 := h6.apart h7 (by decide)
  have k7 := h7.row_other (Ne.symm hne) #[.slice a2.o.A0 r.m.o.reg.length a2.o.c0, .slice a2.o.A1 r.m.o.q.length a2.o.c1, .slice a2.o.A2 r.m.o.lk.length a2.o.c2, .slice a2.o.A3 r.m.o.mp.length a2.o.c3, .slice a2.At r.m.t.length a2.ct]
  have kp6 : Keeps (fun q => q = g6) w5 (w5.setRow g6 #[.slice a2.o.A0 r.m.o.reg.length a2.o.c0, .slice a2.o.A1 r.m.o.q.length a2.o.c1, .slice a2.o.A2 r.m.o.lk.length a2.o.c2, .slice a2.o.A3 r.m.o.mp.length a2.o.c3, .slice a2.At r.m.t.length a2.ct]) := Keeps.of_only (only_row w5 g6 _) rfl
  have kp7 : Keeps (fun q => q = g7) (w5.setRow g6 #[.slice a2.o.A0 r.m.o.reg.length a2.o.c0, .slice a2.o.A1 r.m.o.q.length a2.o.c1, .slice a2.o.A2 r.m.o.lk.length a2.o.c2, .slice a2.o.A3 r.m.o.mp.length a2.o.c3, .slice a2.At r.m.t.length a2.ct]) ((w5.setRow g6 #[.slice a2.o.A0 r.m.o.reg.length a2.o.c0, .slice a2.o.A1 r.m.o.q.length a2.o.c1, .slice a2.o.A2 r.m.o.lk.length a2.o.c2, .slice a2.o.A3 r.m.o.mp.length a2.o.c3, .slice a2.At r.m.t.length a2.ct]).setRow g7 #[.int .i64 r.e, .slice A2 r.v.length c2, .int .i64 r.n]) := Keeps.of_only (only_row _ g7 _) rfl
  have o6 : Of (fun q => q = g6) [33] w5 := fun q hq _ => by subst hq; exact ⟨_, _, _, h6, by simp⟩
  have o7 : Of (fun q => q = g7) [47] (w5.setRow g6 #[.slice a2.o.A0 r.m.o.reg.length a2.o.c0, .slice a2.o.A1 r.m.o.q.length a2.o.c1, .slice a2.o.A2 r.m.o.lk.length a2.o.c2, .slice a2.o.A3 r.m.o.mp.length a2.o.c3, .slice a2.At r.m.t.length a2.ct]) := fun q hq _ => by subst hq; exact ⟨_, _, _, k7, by simp⟩
  refine ⟨k7, below_setRow hb q6 _, ⟨(h6.row _).row_other hne _, k7.row _, ?_, ?_, below_setRow (below_setRow hb q6 _) q7 _⟩⟩
  · exact (ho.keeps kp6 o6 (by decide) (by decide) (by decide) (by decide) (by decide)).keeps kp7 o7 (by decide) (by decide) (by decide) (by decide) (by decide)
  · exact ownsRow_keeps (ownsRow_keeps hv kp6 o6 (by decide)) kp7 o7 (by decide)
theorem range5 {w : World} {b : Nat} {t : TypeId} {x0 x1 x2 x3 x4 x5 : Value} (h : Blk w b t #[x0, x1, x2, x3, x4, x5]) : w.rangeAt b 0 [x0, x1, x2, x3, x4] := fun q v hv => by
  rw [h.cell]
  match q with
  | 0 => simpa using hv
  | 1 => simpa using hv
  | 2 => simpa using hv
  | 3 => simpa using hv
  | 4 => simpa using hv
  | q + 5 => simp at hv
theorem range7 {w : World} {b : Nat} {t : TypeId} {x0 x1 x2 x3 x4 x5 x6 : Value} (h : Blk w b t #[x0, x1, x2, x3, x4, x5, x6]) : w.rangeAt b 0 [x0, x1, x2, x3, x4, x5, x6] := fun q v hv => by
  rw [h.cell]
  match q with
  | 0 => simpa using hv
  | 1 => simpa using hv
  | 2 => simpa using hv
  | 3 => simpa using hv
  | 4 => simpa using hv
  | 5 => simpa using hv
  | 6 => simpa using hv
  | q + 7 => simp at hv
/-- the first five cells of six are stored -/
theorem blk_five {w : World} {b : Nat} {t : TypeId} {y0 y1 y2 y3 y4 x5 : Value} (h : Blk w b t #[y0, y1, y2, y3, y4, x5]) (x0 x1 x2 x3 x4 : Value) : Blk (w.setCells b 0 [x0, x1, x2, x3, x4]) b t #[x0, x1, x2, x3, x4, x5] ∧ w.there b 0 5 := by
  refine ⟨?_, fun j hj => ⟨?_, h.frozen _⟩⟩
  · have := ((((h.set_ 0 x0).set_ 1 x1).set_ 2 x2).set_ 3 x3).set_ 4 x4
    simpa [World.setCells] using this
  · rw [h.cell]
    match j with
    | 0 => rfl
    | 1 => rfl
    | 2 => rfl
    | 3 => rfl
    | 4 => rfl
    | j + 5 => omega
section
variable (w : World) {b g fr wh n c : Nat} {aM : MA} {A : Option Addr} {ss : List (Option VE)} {k : Bk}
set_option maxHeartbeats 8000000 in
set_option maxRecDepth 100000 in
theorem bkNextM (h : BkM w b aM g fr wh A n c ss k) (hlt : fr < wh) (h40 : wh ≤ 1099511627776) {e : En} {r : MAns} (he : (k.f (k.pos + 1)).getD En.zero = e) (hr : k.m.step e = r) :
    Calls Tryz.prog 36 #[.pointer (some ⟨b, 0, none⟩)] w fun en w' => GotDn w w ⟨k.pos + 1, e, r⟩ en w' ∧ GotBk (bkS b g A) w b ⟨r.m, k.pos + 1, Bk.cut k.f (k.pos + 1), k.wh⟩ w' := by
  have hfit := h.win.fit.out
  have hle := Wd.lead_le ss
  have hlen := h.win.len
  have hlead := h.lead
  have hpos := h.pos
  have hok := h.ok
  have hw1 : IntKind.i64.wrap ((fr : Int) + 1) = (fr : Int) + 1 := IntWalk.i64_in _ (by omega)
  have HFit : Hid (e.c.Fits) := Lib.hid (by
    rw [← he]
    cases q : k.f (k.pos + 1) with
    | none => exact En.zero_fits
    | some e' => exact hok.c _ _ q)
  rw [hpos] at he ⊢
  have HMF : Hid (r.m.Ok) := Lib.hid (by rw [← hr]; exact h.mok.step HFit.out)
  have HGet := Lib.hid (fun w1 (hb : Below w.heap.size w w1) => bkGetM w1 (h.below hb) ((fr : Int) + 1) rfl)
  have HAt := Lib.hid (fun w1 (hb : Below w.heap.size w w1) => bkAtM w1 (h.below hb))
  obtain ⟨okf, hokf⟩ : ∃ o, (k.f ((fr : Int) + 1)).isSome = o := ⟨_, rfl⟩
  unfold GotE16 at HGet
  rw [he, hokf] at HGet
  have H := Lib.hid h
  have HR := Lib.hid hr
  have HL := Lib.hid (And.intro (And.intro hlt h40) (And.intro hfit (And.intro hle (And.intro hlen (And.intro hlead hpos)))))
  clear h hlt h40 he hr hok hfit hle hlen hlead hpos hokf
  go_enter Tryz.func36, Tryz.ntmps36
  go_upto_region 1 with fail
  obtain ⟨g2, w1, hgE, hwE, hbE, hkE⟩ := alloced w doneZ 49
  rw [hgE, hwE]
  have HB1 := Lib.hid hbE
  have HK2 := Lib.hid hkE
  have HG2 := Lib.hid hgE
  clear hgE hwE hbE hkE
  go_upto_region 2 with (first
    | (go_at_call 26; refine (HAt.out w1 HB1.out).mono ?_; rintro en w2 ⟨rfl, rfl⟩)
    | fail)
  go_upto_region 3 with (first
    | (go_at_call 23; refine (HGet.out w1 HB1.out).mono ?_; rintro en w2 ⟨ca, rfl, hoc, hb2⟩
       have HOC := Lib.hid hoc
       have HB2 := Lib.hid hb2
       clear hoc hb2)
    | (refine wpList_store_row rfl 40 (.tmp 4) (.tmp 15) rfl w2.heap.size (entC ca e) rfl rfl 40 #[.int .i64 0, .int .i64 0, .int .i64 0, .int .i64 0, .slice none 0 0, .slice none 0 0, .slice none 0 0] (Blk.new w2 40 #[.int .i64 0, .int .i64 0, .int .i64 0, .int .i64 0, .slice none 0 0, .slice none 0 0, .slice none 0 0]) (by kernel_rfl) rfl (by kernel_rfl) ?_)
    | fail)
  obtain ⟨g4, w3, hg4, hw3, hb3, hk3⟩ := boxed w2 #[.int .i64 0, .int .i64 0, .int .i64 0, .int .i64 0, .slice none 0 0, .slice none 0 0, .slice none 0 0] (entC ca e) 40
  rw [hg4, hw3]
  have HB3 := Lib.hid (HB1.out.trans ((HB2.out.trans (hb3.mono HB2.out.size)).mono HB1.out.size))
  have HK23 := Lib.hid (HK2.out.below (HB2.out.trans (hb3.mono HB2.out.size)))
  have HK4 := Lib.hid hk3
  have HOC3 := Lib.hid (HOC.out.below9 hb3)
  have HGB := Lib.hid (And.intro HB1.out.size (Nat.le_trans HB2.out.size hb3.size))
  clear hg4 hw3 hb3 hk3 HB2 HK2 HOC HGet HAt
  have H3 := Lib.hid (H.out.below HB3.out)
  obtain ⟨W0, hW0⟩ := H3.out.mac
  have HM3 := Lib.hid hW0
  clear hW0
  obtain ⟨m, hm⟩ : ∃ m, k.m = m := ⟨_, rfl⟩
  have HST : Hid (∀ wx, Below w3.drew.heap.size w3.drew wx → Calls Tryz.prog 53 #[.agg #[.slice aM.o.A0 m.o.reg.length aM.o.c0, .slice aM.o.A1 m.o.q.length aM.o.c1, .slice aM.o.A2 m.o.lk.length aM.o.c2, .slice aM.o.A3 m.o.mp.length aM.o.c3, .slice aM.At m.t.length aM.ct], .agg #[.int .i64 e.s, .int .i64 e.q, .int .i64 e.c.kind, .int .i64 e.c.who, .slice ca.Ak e.c.key.length ca.ck, .slice ca.Av e.c.val.length ca.cv, .slice ca.Ao e.c.old.length ca.co]] wx (GotM w3.drew wx r)) := Lib.hid (fun wx hb => by
    subst hm
    have hb' : Below w3.heap.size w3 wx := (Below.refl w3.heap.size w3).drew.trans (hb.mono (Nat.le_refl _))
    have := StepC10.is step10 (W := w3.drew) (w := wx) HR.out H.out.mok HFit.out ((HM3.out.below hb').rd) ((HOC3.out.below9 hb').rd) hb
    exact this)
  have HKB := Lib.hid H3.out.blk
  have HRB0 := Lib.hid HKB.out
  rw [hm] at HRB0
  go_cut [6, 7] from 17 to 25 (fun s6 s7 wx => ∃ (g6 g7 : Nat) (a2 : MA) (A2 : Option Addr) (c2 : Nat), s6 = .pointer (some ⟨g6, 0, none⟩) ∧ s7 = .pointer (some ⟨g7, 0, none⟩) ∧ Hid (StC w3.drew wx g6 g7 a2 A2 c2 r))
  case first =>
    obtain ⟨w4, hw4⟩ : ∃ w4, w4 = w3.drew := ⟨_, rfl⟩
    rw [← hw4] at HST
    have HW4 := Lib.hid hw4
    have HRB : Hid (∀ wx, Below w4.heap.size w4 wx → wx.rangeAt b 0 [.slice aM.o.A0 m.o.reg.length aM.o.c0, .slice aM.o.A1 m.o.q.length aM.o.c1, .slice aM.o.A2 m.o.lk.length aM.o.c2, .slice aM.o.A3 m.o.mp.length aM.o.c3, .slice aM.At m.t.length aM.ct]) := Lib.hid (fun wx hb => range5 (Blk.below (by rw [hw4]; exact HRB0.out.drew) hb))
    have HRE : Hid (∀ wx, Below w4.heap.size w4 wx → wx.rangeAt g4 0 [.int .i64 e.s, .int .i64 e.q, .int .i64 e.c.kind, .int .i64 e.c.who, .slice ca.Ak e.c.key.length ca.ck, .slice ca.Av e.c.val.length ca.cv, .slice ca.Ao e.c.old.length ca.co]) := Lib.hid (fun wx hb => range7 (Blk.below (by rw [hw4]; exact HK4.out.drew) hb))
    have hS := Lib.hid (Below.refl w4.heap.size w4)
    refine wp_region_held_drew (S := fun wq => Below w4.heap.size w4 wq) (by kernel_rfl) (by rw [← hw4]; exact hS.out) (fun _ => ?_)
    rw [← hw4]
    clear hw4 H H3 HKB HK23 HRB0 HK4
    refine wpAnyH_take (i := 0) (v := .pointer (some ⟨b, 0, none⟩)) rfl (by kernel_rfl) (by kernel_rfl) (by kernel_rfl) (fun _ _ _ h => h) (Or.inl ⟨by kernel_rfl, fun w _ => by go_simp⟩) hS.out ?_
    refine wpAnyH_take (i := 1) (v := .pointer (some ⟨b, 0, none⟩)) rfl (by kernel_rfl) (by kernel_rfl) (by kernel_rfl) (fun _ _ _ h => h) (Or.inl ⟨by kernel_rfl, fun w _ => by go_simp⟩) hS.out ?_
    refine wpAnyH_take (i := 2) (v := .pointer (some ⟨b, 0, none⟩)) rfl (by kernel_rfl) (by kernel_rfl) (by kernel_rfl) (fun _ _ _ h => h) (Or.inl ⟨by kernel_rfl, fun w _ => by go_simp⟩) hS.out ?_
    refine wpAnyH_take (i := 3) (v := .agg #[.slice aM.o.A0 m.o.reg.length aM.o.c0, .slice aM.o.A1 m.o.q.length aM.o.c1, .slice aM.o.A2 m.o.lk.length aM.o.c2, .slice aM.o.A3 m.o.mp.length aM.o.c3, .slice aM.At m.t.length aM.ct]) rfl (by kernel_rfl) (by kernel_rfl) (by kernel_rfl) (fun _ _ _ h => h) (yieldsIf_load_mid (by kernel_rfl) 33 (.tmp 20) rfl b 0 rfl [.slice aM.o.A0 m.o.reg.length aM.o.c0, .slice aM.o.A1 m.o.q.length aM.o.c1, .slice aM.o.A2 m.o.lk.length aM.o.c2, .slice aM.o.A3 m.o.mp.length aM.o.c3, .slice aM.At m.t.length aM.ct] _ (fun _ h => HRB.out _ h) Tryz.underlying33 rfl (by kernel_rfl)) hS.out ?_
    refine wpAnyH_take (i := 4) (v := .agg #[.int .i64 e.s, .int .i64 e.q, .int .i64 e.c.kind, .int .i64 e.c.who, .slice ca.Ak e.c.key.length ca.ck, .slice ca.Av e.c.val.length ca.cv, .slice ca.Ao e.c.old.length ca.co]) rfl (by kernel_rfl) (by kernel_rfl) (by kernel_rfl) (fun _ _ _ h => h) (yieldsIf_load_mid (by kernel_rfl) 40 (.tmp 4) rfl g4 0 rfl [.int .i64 e.s, .int .i64 e.q, .int .i64 e.c.kind, .int .i64 e.c.who, .slice ca.Ak e.c.key.length ca.ck, .slice ca.Av e.c.val.length ca.cv, .slice ca.Ao e.c.old.length ca.co] _ (fun _ h => HRE.out _ h) Tryz.underlying40 rfl (by kernel_rfl)) hS.out ?_
    refine wpAnyH_ready (rs := [5, 9, 10]) (by kernel_rfl) (by simp) ?_
    refine AllReadyH.cons rfl (fun K hK => ?_) (AllReadyH.cons rfl (fun K hK => ?_) (AllReadyH.cons rfl (fun K hK => ?_) AllReadyH.nil))
    · go_simp
      refine (HST.out _ hS.out).mono ?_
      rintro en w5 ⟨a2, A2, c2, rfl, hm5, hv5, hB5, hb5⟩
      unfold machV machC resV
      have hS := Lib.hid (hS.out.trans (hb5.mono hS.out.size))
      go_simp
      refine hK.out _ _ hS.out (fun _ => ?_)
      clear hK K
      refine wpAnyH_take (i := 6) (v := .tuple #[.agg #[.slice a2.o.A0 r.m.o.reg.length a2.o.c0, .slice a2.o.A1 r.m.o.q.length a2.o.c1, .slice a2.o.A2 r.m.o.lk.length a2.o.c2, .slice a2.o.A3 r.m.o.mp.length a2.o.c3, .slice a2.At r.m.t.length a2.ct], .agg #[.int .i64 r.e, .slice A2 r.v.length c2, .int .i64 r.n]]) rfl (by kernel_rfl) (by kernel_rfl) (by kernel_rfl) (fun _ _ _ h => h) (Or.inl ⟨by kernel_rfl, fun w _ => by go_simp⟩) hS.out ?_
      refine wpAnyH_take (i := 7) (v := .agg #[.slice a2.o.A0 r.m.o.reg.length a2.o.c0, .slice a2.o.A1 r.m.o.q.length a2.o.c1, .slice a2.o.A2 r.m.o.lk.length a2.o.c2, .slice a2.o.A3 r.m.o.mp.length a2.o.c3, .slice a2.At r.m.t.length a2.ct]) rfl (by kernel_rfl) (by kernel_rfl) (by kernel_rfl) (fun _ _ _ h => h) (Or.inl ⟨by kernel_rfl, fun w _ => by go_simp⟩) hS.out ?_
      refine wpAnyH_take (i := 8) (v := .agg #[.int .i64 r.e, .slice A2 r.v.length c2, .int .i64 r.n]) rfl (by kernel_rfl) (by kernel_rfl) (by kernel_rfl) (fun _ _ _ h => h) (Or.inl ⟨by kernel_rfl, fun w _ => by go_simp⟩) hS.out ?_
      refine wpAnyH_ready (rs := [9, 10]) (by kernel_rfl) (by simp) ?_
      refine AllReadyH.cons rfl (fun K hK => ?_) (AllReadyH.cons rfl (fun K hK => ?_) AllReadyH.nil)
      · go_simp
        obtain ⟨g6, wa9, hg6, hwa6, hbn, hk6⟩ := alloced w5 #[.slice none 0 0, .slice none 0 0, .slice none 0 0, .slice none 0 0, .slice none 0 0] 33
        have hq6 : w4.heap.size ≤ g6 := by rw [← hg6]; exact hS.out.size
        rw [hg6, hwa6]
        have hS := Lib.hid (hS.out.trans (hbn.mono hS.out.size))
        have hm5 := hm5.below hbn
        have hv5 := own_below hv5 hbn
        clear hg6 hwa6 hbn
        refine hK.out _ _ hS.out (fun _ => ?_)
        clear hK K
        refine wpAnyH_ready (rs := [10]) (by kernel_rfl) (by simp) ?_
        refine AllReadyH.cons rfl (fun K hK => ?_) AllReadyH.nil
        · go_simp
          obtain ⟨g7, wa10, hg7, hwa7, hbn, hk7⟩ := alloced wa9 #[.int .i64 0, .slice none 0 0, .int .i64 0] 47
          have hq7 : w4.heap.size ≤ g7 := by rw [← hg7]; exact hS.out.size
          rw [hg7, hwa7]
          have hS := Lib.hid (hS.out.trans (hbn.mono hS.out.size))
          have hm5 := hm5.below hbn
          have hv5 := own_below hv5 hbn
          have hk6 := hk6.below hbn
          clear hg7 hwa7 hbn
          refine hK.out _ _ hS.out (fun _ => ?_)
          clear hK K
          obtain ⟨z7, zb, zs⟩ := StC.mk2 hk6 hk7 hm5 hv5 hS.out hq6 hq7
          refine wpAnyH_ready (rs := [11]) (by kernel_rfl) (by simp) ?_
          refine AllReadyH.cons rfl (fun K hK => ?_) AllReadyH.nil
          refine wp_store_row 33 (.tmp 6) (.tmp 24) rfl g6 #[.slice a2.o.A0 r.m.o.reg.length a2.o.c0, .slice a2.o.A1 r.m.o.q.length a2.o.c1, .slice a2.o.A2 r.m.o.lk.length a2.o.c2, .slice a2.o.A3 r.m.o.mp.length a2.o.c3, .slice a2.At r.m.t.length a2.ct] rfl rfl 33 #[.slice none 0 0, .slice none 0 0, .slice none 0 0, .slice none 0 0, .slice none 0 0] hk6 (by kernel_rfl) rfl (by kernel_rfl) ?_
          refine hK.out _ _ zb (fun _ => ?_)
          clear hK K
          refine wpAnyH_ready (rs := [12]) (by kernel_rfl) (by simp) ?_
          refine AllReadyH.cons rfl (fun K hK => ?_) AllReadyH.nil
          refine wp_store_row 47 (.tmp 7) (.tmp 25) rfl g7 #[.int .i64 r.e, .slice A2 r.v.length c2, .int .i64 r.n] rfl rfl 47 #[.int .i64 0, .slice none 0 0, .int .i64 0] z7 (by kernel_rfl) rfl (by kernel_rfl) ?_
          refine hK.out _ _ zs.bel (fun _ => ?_)
          clear hK K
          refine wpAnyH_done (by kernel_rfl) ?_ _
          go_simp
          go_wp2_with fail
          go_meet
          exact ⟨g6, g7, a2, A2, c2, rfl, rfl, Lib.hid (by rw [← HW4.out]; exact zs)⟩
      · go_simp
        obtain ⟨g7, wa10, hg7, hwa7, hbn, hk7⟩ := alloced w5 #[.int .i64 0, .slice none 0 0, .int .i64 0] 47
        have hq7 : w4.heap.size ≤ g7 := by rw [← hg7]; exact hS.out.size
        rw [hg7, hwa7]
        have hS := Lib.hid (hS.out.trans (hbn.mono hS.out.size))
        have hm5 := hm5.below hbn
        have hv5 := own_below hv5 hbn
        clear hg7 hwa7 hbn
        refine hK.out _ _ hS.out (fun _ => ?_)
        clear hK K
        refine wpAnyH_ready (rs := [9]) (by kernel_rfl) (by simp) ?_
        refine AllReadyH.cons rfl (fun K hK => ?_) AllReadyH.nil
        · go_simp
          obtain ⟨g6, wa9, hg6, hwa6, hbn, hk6⟩ := alloced wa10 #[.slice none 0 0, .slice none 0 0, .slice none 0 0, .slice none 0 0, .slice none 0 0] 33
          have hq6 : w4.heap.size ≤ g6 := by rw [← hg6]; exact hS.out.size
          rw [hg6, hwa6]
          have hS := Lib.hid (hS.out.trans (hbn.mono hS.out.size))
          have hm5 := hm5.below hbn
          have hv5 := own_below hv5 hbn
          have hk7 := hk7.below hbn
          clear hg6 hwa6 hbn
          refine hK.out _ _ hS.out (fun _ => ?_)
          clear hK K
          obtain ⟨z7, zb, zs⟩ := StC.mk2 hk6 hk7 hm5 hv5 hS.out hq6 hq7
          refine wpAnyH_ready (rs := [11]) (by kernel_rfl) (by simp) ?_
          refine AllReadyH.cons rfl (fun K hK => ?_) AllReadyH.nil
          refine wp_store_row 33 (.tmp 6) (.tmp 24) rfl g6 #[.slice a2.o.A0 r.m.o.reg.length a2.o.c0, .slice a2.o.A1 r.m.o.q.length a2.o.c1, .slice a2.o.A2 r.m.o.lk.length a2.o.c2, .slice a2.o.A3 r.m.o.mp.length a2.o.c3, .slice a2.At r.m.t.length a2.ct] rfl rfl 33 #[.slice none 0 0, .slice none 0 0, .slice none 0 0, .slice none 0 0, .slice none 0 0] hk6 (by kernel_rfl) rfl (by kernel_rfl) ?_
          refine hK.out _ _ zb (fun _ => ?_)
          clear hK K
          refine wpAnyH_ready (rs := [12]) (by kernel_rfl) (by simp) ?_
          refine AllReadyH.cons rfl (fun K hK => ?_) AllReadyH.nil
          refine wp_store_row 47 (.tmp 7) (.tmp 25) rfl g7 #[.int .i64 r.e, .slice A2 r.v.length c2, .int .i64 r.n] rfl rfl 47 #[.int .i64 0, .slice none 0 0, .int .i64 0] z7 (by kernel_rfl) rfl (by kernel_rfl) ?_
          refine hK.out _ _ zs.bel (fun _ => ?_)
          clear hK K
          refine wpAnyH_done (by kernel_rfl) ?_ _
          go_simp
          go_wp2_with fail
          go_meet
          exact ⟨g6, g7, a2, A2, c2, rfl, rfl, Lib.hid (by rw [← HW4.out]; exact zs)⟩
    · go_simp
      obtain ⟨g6, wa9, hg6, hwa6, hbn, hk6⟩ := alloced w4 #[.slice none 0 0, .slice none 0 0, .slice none 0 0, .slice none 0 0, .slice none 0 0] 33
      have hq6 : w4.heap.size ≤ g6 := by rw [← hg6]; exact hS.out.size
      rw [hg6, hwa6]
      have hS := Lib.hid (hS.out.trans (hbn.mono hS.out.size))
      clear hg6 hwa6 hbn
      refine hK.out _ _ hS.out (fun _ => ?_)
      clear hK K
      refine wpAnyH_ready (rs := [5, 10]) (by kernel_rfl) (by simp) ?_
      refine AllReadyH.cons rfl (fun K hK => ?_) (AllReadyH.cons rfl (fun K hK => ?_) AllReadyH.nil)
      · go_simp
        refine (HST.out _ hS.out).mono ?_
        rintro en w5 ⟨a2, A2, c2, rfl, hm5, hv5, hB5, hb5⟩
        unfold machV machC resV
        have hS := Lib.hid (hS.out.trans (hb5.mono hS.out.size))
        have hk6 := hk6.below hb5
        go_simp
        refine hK.out _ _ hS.out (fun _ => ?_)
        clear hK K
        refine wpAnyH_take (i := 6) (v := .tuple #[.agg #[.slice a2.o.A0 r.m.o.reg.length a2.o.c0, .slice a2.o.A1 r.m.o.q.length a2.o.c1, .slice a2.o.A2 r.m.o.lk.length a2.o.c2, .slice a2.o.A3 r.m.o.mp.length a2.o.c3, .slice a2.At r.m.t.length a2.ct], .agg #[.int .i64 r.e, .slice A2 r.v.length c2, .int .i64 r.n]]) rfl (by kernel_rfl) (by kernel_rfl) (by kernel_rfl) (fun _ _ _ h => h) (Or.inl ⟨by kernel_rfl, fun w _ => by go_simp⟩) hS.out ?_
        refine wpAnyH_take (i := 7) (v := .agg #[.slice a2.o.A0 r.m.o.reg.length a2.o.c0, .slice a2.o.A1 r.m.o.q.length a2.o.c1, .slice a2.o.A2 r.m.o.lk.length a2.o.c2, .slice a2.o.A3 r.m.o.mp.length a2.o.c3, .slice a2.At r.m.t.length a2.ct]) rfl (by kernel_rfl) (by kernel_rfl) (by kernel_rfl) (fun _ _ _ h => h) (Or.inl ⟨by kernel_rfl, fun w _ => by go_simp⟩) hS.out ?_
        refine wpAnyH_take (i := 8) (v := .agg #[.int .i64 r.e, .slice A2 r.v.length c2, .int .i64 r.n]) rfl (by kernel_rfl) (by kernel_rfl) (by kernel_rfl) (fun _ _ _ h => h) (Or.inl ⟨by kernel_rfl, fun w _ => by go_simp⟩) hS.out ?_
        refine wpAnyH_ready (rs := [10]) (by kernel_rfl) (by simp) ?_
        refine AllReadyH.cons rfl (fun K hK => ?_) AllReadyH.nil
        · go_simp
          obtain ⟨g7, wa10, hg7, hwa7, hbn, hk7⟩ := alloced w5 #[.int .i64 0, .slice none 0 0, .int .i64 0] 47
          have hq7 : w4.heap.size ≤ g7 := by rw [← hg7]; exact hS.out.size
          rw [hg7, hwa7]
          have hS := Lib.hid (hS.out.trans (hbn.mono hS.out.size))
          have hm5 := hm5.below hbn
          have hv5 := own_below hv5 hbn
          have hk6 := hk6.below hbn
          clear hg7 hwa7 hbn
          refine hK.out _ _ hS.out (fun _ => ?_)
          clear hK K
          obtain ⟨z7, zb, zs⟩ := StC.mk2 hk6 hk7 hm5 hv5 hS.out hq6 hq7
          refine wpAnyH_ready (rs := [11]) (by kernel_rfl) (by simp) ?_
          refine AllReadyH.cons rfl (fun K hK => ?_) AllReadyH.nil
          refine wp_store_row 33 (.tmp 6) (.tmp 24) rfl g6 #[.slice a2.o.A0 r.m.o.reg.length a2.o.c0, .slice a2.o.A1 r.m.o.q.length a2.o.c1, .slice a2.o.A2 r.m.o.lk.length a2.o.c2, .slice a2.o.A3 r.m.o.mp.length a2.o.c3, .slice a2.At r.m.t.length a2.ct] rfl rfl 33 #[.slice none 0 0, .slice none 0 0, .slice none 0 0, .slice none 0 0, .slice none 0 0] hk6 (by kernel_rfl) rfl (by kernel_rfl) ?_
          refine hK.out _ _ zb (fun _ => ?_)
          clear hK K
          refine wpAnyH_ready (rs := [12]) (by kernel_rfl) (by simp) ?_
          refine AllReadyH.cons rfl (fun K hK => ?_) AllReadyH.nil
          refine wp_store_row 47 (.tmp 7) (.tmp 25) rfl g7 #[.int .i64 r.e, .slice A2 r.v.length c2, .int .i64 r.n] rfl rfl 47 #[.int .i64 0, .slice none 0 0, .int .i64 0] z7 (by kernel_rfl) rfl (by kernel_rfl) ?_
          refine hK.out _ _ zs.bel (fun _ => ?_)
          clear hK K
          refine wpAnyH_done (by kernel_rfl) ?_ _
          go_simp
          go_wp2_with fail
          go_meet
          exact ⟨g6, g7, a2, A2, c2, rfl, rfl, Lib.hid (by rw [← HW4.out]; exact zs)⟩
      · go_simp
        obtain ⟨g7, wa10, hg7, hwa7, hbn, hk7⟩ := alloced wa9 #[.int .i64 0, .slice none 0 0, .int .i64 0] 47
        have hq7 : w4.heap.size ≤ g7 := by rw [← hg7]; exact hS.out.size
        rw [hg7, hwa7]
        have hS := Lib.hid (hS.out.trans (hbn.mono hS.out.size))
        have hk6 := hk6.below hbn
        clear hg7 hwa7 hbn
        refine hK.out _ _ hS.out (fun _ => ?_)
        clear hK K
        refine wpAnyH_ready (rs := [5]) (by kernel_rfl) (by simp) ?_
        refine AllReadyH.cons rfl (fun K hK => ?_) AllReadyH.nil
        · go_simp
          refine (HST.out _ hS.out).mono ?_
          rintro en w5 ⟨a2, A2, c2, rfl, hm5, hv5, hB5, hb5⟩
          unfold machV machC resV
          have hS := Lib.hid (hS.out.trans (hb5.mono hS.out.size))
          have hk6 := hk6.below hb5
          have hk7 := hk7.below hb5
          go_simp
          refine hK.out _ _ hS.out (fun _ => ?_)
          clear hK K
          refine wpAnyH_take (i := 6) (v := .tuple #[.agg #[.slice a2.o.A0 r.m.o.reg.length a2.o.c0, .slice a2.o.A1 r.m.o.q.length a2.o.c1, .slice a2.o.A2 r.m.o.lk.length a2.o.c2, .slice a2.o.A3 r.m.o.mp.length a2.o.c3, .slice a2.At r.m.t.length a2.ct], .agg #[.int .i64 r.e, .slice A2 r.v.length c2, .int .i64 r.n]]) rfl (by kernel_rfl) (by kernel_rfl) (by kernel_rfl) (fun _ _ _ h => h) (Or.inl ⟨by kernel_rfl, fun w _ => by go_simp⟩) hS.out ?_
          refine wpAnyH_take (i := 7) (v := .agg #[.slice a2.o.A0 r.m.o.reg.length a2.o.c0, .slice a2.o.A1 r.m.o.q.length a2.o.c1, .slice a2.o.A2 r.m.o.lk.length a2.o.c2, .slice a2.o.A3 r.m.o.mp.length a2.o.c3, .slice a2.At r.m.t.length a2.ct]) rfl (by kernel_rfl) (by kernel_rfl) (by kernel_rfl) (fun _ _ _ h => h) (Or.inl ⟨by kernel_rfl, fun w _ => by go_simp⟩) hS.out ?_
          refine wpAnyH_take (i := 8) (v := .agg #[.int .i64 r.e, .slice A2 r.v.length c2, .int .i64 r.n]) rfl (by kernel_rfl) (by kernel_rfl) (by kernel_rfl) (fun _ _ _ h => h) (Or.inl ⟨by kernel_rfl, fun w _ => by go_simp⟩) hS.out ?_
          obtain ⟨z7, zb, zs⟩ := StC.mk2 hk6 hk7 hm5 hv5 hS.out hq6 hq7
          refine wpAnyH_ready (rs := [11]) (by kernel_rfl) (by simp) ?_
          refine AllReadyH.cons rfl (fun K hK => ?_) AllReadyH.nil
          refine wp_store_row 33 (.tmp 6) (.tmp 24) rfl g6 #[.slice a2.o.A0 r.m.o.reg.length a2.o.c0, .slice a2.o.A1 r.m.o.q.length a2.o.c1, .slice a2.o.A2 r.m.o.lk.length a2.o.c2, .slice a2.o.A3 r.m.o.mp.length a2.o.c3, .slice a2.At r.m.t.length a2.ct] rfl rfl 33 #[.slice none 0 0, .slice none 0 0, .slice none 0 0, .slice none 0 0, .slice none 0 0] hk6 (by kernel_rfl) rfl (by kernel_rfl) ?_
          refine hK.out _ _ zb (fun _ => ?_)
          clear hK K
          refine wpAnyH_ready (rs := [12]) (by kernel_rfl) (by simp) ?_
          refine AllReadyH.cons rfl (fun K hK => ?_) AllReadyH.nil
          refine wp_store_row 47 (.tmp 7) (.tmp 25) rfl g7 #[.int .i64 r.e, .slice A2 r.v.length c2, .int .i64 r.n] rfl rfl 47 #[.int .i64 0, .slice none 0 0, .int .i64 0] z7 (by kernel_rfl) rfl (by kernel_rfl) ?_
          refine hK.out _ _ zs.bel (fun _ => ?_)
          clear hK K
          refine wpAnyH_done (by kernel_rfl) ?_ _
          go_simp
          go_wp2_with fail
          go_meet
          exact ⟨g6, g7, a2, A2, c2, rfl, rfl, Lib.hid (by rw [← HW4.out]; exact zs)⟩
    · go_simp
      obtain ⟨g7, wa10, hg7, hwa7, hbn, hk7⟩ := alloced w4 #[.int .i64 0, .slice none 0 0, .int .i64 0] 47
      have hq7 : w4.heap.size ≤ g7 := by rw [← hg7]; exact hS.out.size
      rw [hg7, hwa7]
      have hS := Lib.hid (hS.out.trans (hbn.mono hS.out.size))
      clear hg7 hwa7 hbn
      refine hK.out _ _ hS.out (fun _ => ?_)
      clear hK K
      refine wpAnyH_ready (rs := [5, 9]) (by kernel_rfl) (by simp) ?_
      refine AllReadyH.cons rfl (fun K hK => ?_) (AllReadyH.cons rfl (fun K hK => ?_) AllReadyH.nil)
      · go_simp
        refine (HST.out _ hS.out).mono ?_
        rintro en w5 ⟨a2, A2, c2, rfl, hm5, hv5, hB5, hb5⟩
        unfold machV machC resV
        have hS := Lib.hid (hS.out.trans (hb5.mono hS.out.size))
        have hk7 := hk7.below hb5
        go_simp
        refine hK.out _ _ hS.out (fun _ => ?_)
        clear hK K
        refine wpAnyH_take (i := 6) (v := .tuple #[.agg #[.slice a2.o.A0 r.m.o.reg.length a2.o.c0, .slice a2.o.A1 r.m.o.q.length a2.o.c1, .slice a2.o.A2 r.m.o.lk.length a2.o.c2, .slice a2.o.A3 r.m.o.mp.length a2.o.c3, .slice a2.At r.m.t.length a2.ct], .agg #[.int .i64 r.e, .slice A2 r.v.length c2, .int .i64 r.n]]) rfl (by kernel_rfl) (by kernel_rfl) (by kernel_rfl) (fun _ _ _ h => h) (Or.inl ⟨by kernel_rfl, fun w _ => by go_simp⟩) hS.out ?_
        refine wpAnyH_take (i := 7) (v := .agg #[.slice a2.o.A0 r.m.o.reg.length a2.o.c0, .slice a2.o.A1 r.m.o.q.length a2.o.c1, .slice a2.o.A2 r.m.o.lk.length a2.o.c2, .slice a2.o.A3 r.m.o.mp.length a2.o.c3, .slice a2.At r.m.t.length a2.ct]) rfl (by kernel_rfl) (by kernel_rfl) (by kernel_rfl) (fun _ _ _ h => h) (Or.inl ⟨by kernel_rfl, fun w _ => by go_simp⟩) hS.out ?_
        refine wpAnyH_take (i := 8) (v := .agg #[.int .i64 r.e, .slice A2 r.v.length c2, .int .i64 r.n]) rfl (by kernel_rfl) (by kernel_rfl) (by kernel_rfl) (fun _ _ _ h => h) (Or.inl ⟨by kernel_rfl, fun w _ => by go_simp⟩) hS.out ?_
        refine wpAnyH_ready (rs := [9]) (by kernel_rfl) (by simp) ?_
        refine AllReadyH.cons rfl (fun K hK => ?_) AllReadyH.nil
        · go_simp
          obtain ⟨g6, wa9, hg6, hwa6, hbn, hk6⟩ := alloced w5 #[.slice none 0 0, .slice none 0 0, .slice none 0 0, .slice none 0 0, .slice none 0 0] 33
          have hq6 : w4.heap.size ≤ g6 := by rw [← hg6]; exact hS.out.size
          rw [hg6, hwa6]
          have hS := Lib.hid (hS.out.trans (hbn.mono hS.out.size))
          have hm5 := hm5.below hbn
          have hv5 := own_below hv5 hbn
          have hk7 := hk7.below hbn
          clear hg6 hwa6 hbn
          refine hK.out _ _ hS.out (fun _ => ?_)
          clear hK K
          obtain ⟨z7, zb, zs⟩ := StC.mk2 hk6 hk7 hm5 hv5 hS.out hq6 hq7
          refine wpAnyH_ready (rs := [11]) (by kernel_rfl) (by simp) ?_
          refine AllReadyH.cons rfl (fun K hK => ?_) AllReadyH.nil
          refine wp_store_row 33 (.tmp 6) (.tmp 24) rfl g6 #[.slice a2.o.A0 r.m.o.reg.length a2.o.c0, .slice a2.o.A1 r.m.o.q.length a2.o.c1, .slice a2.o.A2 r.m.o.lk.length a2.o.c2, .slice a2.o.A3 r.m.o.mp.length a2.o.c3, .slice a2.At r.m.t.length a2.ct] rfl rfl 33 #[.slice none 0 0, .slice none 0 0, .slice none 0 0, .slice none 0 0, .slice none 0 0] hk6 (by kernel_rfl) rfl (by kernel_rfl) ?_
          refine hK.out _ _ zb (fun _ => ?_)
          clear hK K
          refine wpAnyH_ready (rs := [12]) (by kernel_rfl) (by simp) ?_
          refine AllReadyH.cons rfl (fun K hK => ?_) AllReadyH.nil
          refine wp_store_row 47 (.tmp 7) (.tmp 25) rfl g7 #[.int .i64 r.e, .slice A2 r.v.length c2, .int .i64 r.n] rfl rfl 47 #[.int .i64 0, .slice none 0 0, .int .i64 0] z7 (by kernel_rfl) rfl (by kernel_rfl) ?_
          refine hK.out _ _ zs.bel (fun _ => ?_)
          clear hK K
          refine wpAnyH_done (by kernel_rfl) ?_ _
          go_simp
          go_wp2_with fail
          go_meet
          exact ⟨g6, g7, a2, A2, c2, rfl, rfl, Lib.hid (by rw [← HW4.out]; exact zs)⟩
      · go_simp
        obtain ⟨g6, wa9, hg6, hwa6, hbn, hk6⟩ := alloced wa10 #[.slice none 0 0, .slice none 0 0, .slice none 0 0, .slice none 0 0, .slice none 0 0] 33
        have hq6 : w4.heap.size ≤ g6 := by rw [← hg6]; exact hS.out.size
        rw [hg6, hwa6]
        have hS := Lib.hid (hS.out.trans (hbn.mono hS.out.size))
        have hk7 := hk7.below hbn
        clear hg6 hwa6 hbn
        refine hK.out _ _ hS.out (fun _ => ?_)
        clear hK K
        refine wpAnyH_ready (rs := [5]) (by kernel_rfl) (by simp) ?_
        refine AllReadyH.cons rfl (fun K hK => ?_) AllReadyH.nil
        · go_simp
          refine (HST.out _ hS.out).mono ?_
          rintro en w5 ⟨a2, A2, c2, rfl, hm5, hv5, hB5, hb5⟩
          unfold machV machC resV
          have hS := Lib.hid (hS.out.trans (hb5.mono hS.out.size))
          have hk7 := hk7.below hb5
          have hk6 := hk6.below hb5
          go_simp
          refine hK.out _ _ hS.out (fun _ => ?_)
          clear hK K
          refine wpAnyH_take (i := 6) (v := .tuple #[.agg #[.slice a2.o.A0 r.m.o.reg.length a2.o.c0, .slice a2.o.A1 r.m.o.q.length a2.o.c1, .slice a2.o.A2 r.m.o.lk.length a2.o.c2, .slice a2.o.A3 r.m.o.mp.length a2.o.c3, .slice a2.At r.m.t.length a2.ct], .agg #[.int .i64 r.e, .slice A2 r.v.length c2, .int .i64 r.n]]) rfl (by kernel_rfl) (by kernel_rfl) (by kernel_rfl) (fun _ _ _ h => h) (Or.inl ⟨by kernel_rfl, fun w _ => by go_simp⟩) hS.out ?_
          refine wpAnyH_take (i := 7) (v := .agg #[.slice a2.o.A0 r.m.o.reg.length a2.o.c0, .slice a2.o.A1 r.m.o.q.length a2.o.c1, .slice a2.o.A2 r.m.o.lk.length a2.o.c2, .slice a2.o.A3 r.m.o.mp.length a2.o.c3, .slice a2.At r.m.t.length a2.ct]) rfl (by kernel_rfl) (by kernel_rfl) (by kernel_rfl) (fun _ _ _ h => h) (Or.inl ⟨by kernel_rfl, fun w _ => by go_simp⟩) hS.out ?_
          refine wpAnyH_take (i := 8) (v := .agg #[.int .i64 r.e, .slice A2 r.v.length c2, .int .i64 r.n]) rfl (by kernel_rfl) (by kernel_rfl) (by kernel_rfl) (fun _ _ _ h => h) (Or.inl ⟨by kernel_rfl, fun w _ => by go_simp⟩) hS.out ?_
          obtain ⟨z7, zb, zs⟩ := StC.mk2 hk6 hk7 hm5 hv5 hS.out hq6 hq7
          refine wpAnyH_ready (rs := [11]) (by kernel_rfl) (by simp) ?_
          refine AllReadyH.cons rfl (fun K hK => ?_) AllReadyH.nil
          refine wp_store_row 33 (.tmp 6) (.tmp 24) rfl g6 #[.slice a2.o.A0 r.m.o.reg.length a2.o.c0, .slice a2.o.A1 r.m.o.q.length a2.o.c1, .slice a2.o.A2 r.m.o.lk.length a2.o.c2, .slice a2.o.A3 r.m.o.mp.length a2.o.c3, .slice a2.At r.m.t.length a2.ct] rfl rfl 33 #[.slice none 0 0, .slice none 0 0, .slice none 0 0, .slice none 0 0, .slice none 0 0] hk6 (by kernel_rfl) rfl (by kernel_rfl) ?_
          refine hK.out _ _ zb (fun _ => ?_)
          clear hK K
          refine wpAnyH_ready (rs := [12]) (by kernel_rfl) (by simp) ?_
          refine AllReadyH.cons rfl (fun K hK => ?_) AllReadyH.nil
          refine wp_store_row 47 (.tmp 7) (.tmp 25) rfl g7 #[.int .i64 r.e, .slice A2 r.v.length c2, .int .i64 r.n] rfl rfl 47 #[.int .i64 0, .slice none 0 0, .int .i64 0] z7 (by kernel_rfl) rfl (by kernel_rfl) ?_
          refine hK.out _ _ zs.bel (fun _ => ?_)
          clear hK K
          refine wpAnyH_done (by kernel_rfl) ?_ _
          go_simp
          go_wp2_with fail
          go_meet
          exact ⟨g6, g7, a2, A2, c2, rfl, rfl, Lib.hid (by rw [← HW4.out]; exact zs)⟩
  case rest =>
    obtain ⟨g6, g7, a2, A2, c2, rfl, rfl, HC⟩ := hcut
    have hbc : Below w3.heap.size w3 wc := (Below.refl w3.heap.size w3).drew.trans HC.out.bel
    have HCB := Lib.hid (H3.out.below hbc)
    have HK2c := Lib.hid (HK23.out.below hbc)
    have HK4c := Lib.hid (HK4.out.below hbc)
    have HOCc := Lib.hid (HOC3.out.below9 hbc)
    have HBc := Lib.hid (HB3.out.trans (hbc.mono HB3.out.size))
    clear hbc HB3 HK23 HK4 HOC3 HST HRB0 HKB H3 HM3
    obtain ⟨s1, th⟩ := blk_five HCB.out.blk (.slice a2.o.A0 r.m.o.reg.length a2.o.c0) (.slice a2.o.A1 r.m.o.q.length a2.o.c1) (.slice a2.o.A2 r.m.o.lk.length a2.o.c2) (.slice a2.o.A3 r.m.o.mp.length a2.o.c3) (.slice a2.At r.m.t.length a2.ct)
    have hgs := grown_setCells b [.slice a2.o.A0 r.m.o.reg.length a2.o.c0, .slice a2.o.A1 r.m.o.q.length a2.o.c1, .slice a2.o.A2 r.m.o.lk.length a2.o.c2, .slice a2.o.A3 r.m.o.mp.length a2.o.c3, .slice a2.At r.m.t.length a2.ct] 0 wc
    have HS1 := Lib.hid s1
    have HTH := Lib.hid th
    have HGS := Lib.hid hgs
    clear s1 th hgs
    go_upto_region 5 with (first
      | (refine wpList_load_row rfl 33 (.tmp 6) rfl g6 rfl 33 #[.slice a2.o.A0 r.m.o.reg.length a2.o.c0, .slice a2.o.A1 r.m.o.q.length a2.o.c1, .slice a2.o.A2 r.m.o.lk.length a2.o.c2, .slice a2.o.A3 r.m.o.mp.length a2.o.c3, .slice a2.At r.m.t.length a2.ct] (0, 0) _ HC.out.k6 Tryz.underlying33 rfl (by kernel_rfl) ?_)
      | (refine wpList_store_mid rfl 33 (.tmp 29) (.tmp 27) rfl b 0 #[.slice a2.o.A0 r.m.o.reg.length a2.o.c0, .slice a2.o.A1 r.m.o.q.length a2.o.c1, .slice a2.o.A2 r.m.o.lk.length a2.o.c2, .slice a2.o.A3 r.m.o.mp.length a2.o.c3, .slice a2.At r.m.t.length a2.ct] rfl rfl HTH.out (by kernel_rfl) (by kernel_rfl) ?_)
      | fail)
    obtain ⟨w5, hw5⟩ : ∃ x, wc.setCells b 0 [.slice a2.o.A0 r.m.o.reg.length a2.o.c0, .slice a2.o.A1 r.m.o.q.length a2.o.c1, .slice a2.o.A2 r.m.o.lk.length a2.o.c2, .slice a2.o.A3 r.m.o.mp.length a2.o.c3, .slice a2.At r.m.t.length a2.ct] = x := ⟨_, rfl⟩
    rw [hw5] at HS1 HGS
    show Code.wp _ _ _ _ (wc.setCells b 0 [.slice a2.o.A0 r.m.o.reg.length a2.o.c0, .slice a2.o.A1 r.m.o.q.length a2.o.c1, .slice a2.o.A2 r.m.o.lk.length a2.o.c2, .slice a2.o.A3 r.m.o.mp.length a2.o.c3, .slice a2.At r.m.t.length a2.ct])
    rw [hw5]
    clear hw5 HTH
    have kb : Keeps (fun q => q = b) wc w5 := Keeps.of_grown HGS.out (fun q e => by injection e with e; exact e.symm)
    have ob : Of (fun q => q = b) [80] wc := fun q hq _ => by subst hq; exact ⟨_, _, _, HCB.out.blk, by simp⟩
    have hnb : ∀ q, winS g A q → ¬ q = b := by
      rintro q hq rfl
      rcases hq with e1 | ⟨q2, o2, e1, e2⟩
      · exact HCB.out.blk.apart HCB.out.win.blk (by decide) e1
      · subst e1
        obtain ⟨cur, hgb⟩ := HCB.out.win.row.blkAt
        exact HCB.out.blk.apart hgb (by decide) e2
    have hb5 : BkM w5 b a2 g fr wh A n c ss ⟨r.m, k.pos, k.f, k.wh⟩ :=
      ⟨HS1.out, ⟨w3.drew, HC.out.own.keeps kb ob (by decide) (by decide) (by decide) (by decide) (by decide)⟩, HCB.out.win.keeps kb ob (by decide) hnb, HCB.out.lead, HCB.out.few, HCB.out.pos, HCB.out.whole, HCB.out.f, HMF.out, HCB.out.fits, HCB.out.p1⟩
    have HK2d := Lib.hid (HK2c.out.keeps kb (ob.not HK2c.out (by decide)))
    have HK4d := Lib.hid (HK4c.out.keeps kb (ob.not HK4c.out (by decide)))
    have HK7d := Lib.hid (HC.out.k7.keeps kb (ob.not HC.out.k7 (by decide)))
    have HOCd := Lib.hid (HOCc.out.keeps9 kb ob (by decide))
    have HRVd := Lib.hid (ownsRow_keeps HC.out.res kb ob (by decide))
    have HKP5 : Hid (Keeps (bkS b g A) w w5) := Lib.hid ((Keeps.of_below HBc.out : Keeps (bkS b g A) w wc).trans kb (fun q hq _ => .inl hq))
    have H5 := Lib.hid hb5
    have HSZ := Lib.hid (show w.heap.size ≤ w3.drew.heap.size ∧ w3.heap.size ≤ w5.heap.size from ⟨Nat.le_trans HGB.out.1 (by exact HGB.out.2), Nat.le_trans HC.out.bel.size kb.size⟩)
    clear kb ob hnb hb5 HK2c HK4c HOCc HC HCB HBc HGS HS1
    have hlead1 : 1 ≤ Wd.lead ss := by have h1 := HL.out.1.1; have h2 := HL.out.2.2.2.2.1; omega
    have HCut := Lib.hid (winCut w5 H5.out.win H5.out.lead 1 hlead1 (by omega))
    rw [show ((fr : Int) + ((1 : Nat) : Int)) = (fr : Int) + 1 from rfl] at HCut
    have x5 := H5.out.blk.cell 5
    simp at x5
    go_upto_region 6 with (first
      | (go_at_call 54; refine HCut.out.mono ?_; rintro en w6 ⟨A6, n6, c6, rfl, hn6, hw6, ha6⟩
         have HW6 := Lib.hid (And.intro hn6 (And.intro hw6 ha6))
         clear hn6 hw6 ha6)
      | fail)
    clear x5 HCut
    obtain ⟨hn6, hw6, ha6⟩ := HW6.out
    have ho5 := H5.out.win.of
    have HK2e := Lib.hid (ha6.blk ho5 HK2d.out (by decide))
    have HK4e := Lib.hid (ha6.blk ho5 HK4d.out (by decide))
    have HK7e := Lib.hid (ha6.blk ho5 HK7d.out (by decide))
    have HOCe := Lib.hid (HOCd.out.keeps9 ha6.keeps ho5 (by decide))
    have HRVe := Lib.hid (ownsRow_keeps HRVd.out ha6.keeps ho5 (by decide))
    have HB6 := Lib.hid (H5.out.inWin (k' := ⟨r.m, (fr : Int) + 1, Bk.cut k.f ((fr : Int) + 1), k.wh⟩) hw6 ha6 rfl (by rw [Wd.lead_drop hlead1]; have h2 := HL.out.2.2.2.2.1; omega) (by rw [Wd.lead_drop hlead1]; have h3 := H5.out.few; have h4 := hw6.len; rw [List.length_drop] at h4; have h5 := H5.out.win.len; omega) (by show (fr : Int) + 1 = ((fr + 1 : Nat) : Int); omega) H5.out.whole (fun i => by
      show Bk.cut k.f ((fr : Int) + 1) i = _
      rw [winAt_drop]
      unfold Bk.cut
      rw [show ((fr : Int) + ((1 : Nat) : Int)) = (fr : Int) + 1 from rfl]
      split
      · rfl
      · exact H5.out.f i) (fun a e' he => H5.out.fits a e' (List.mem_of_mem_drop he)) (by have h1 := HL.out.1; omega))
    clear ho5 hn6 hw6 ha6 HW6 HK2d HK4d HK7d HOCd HRVd H5
    go_wp2_with (first
      | (refine wpList_load_row rfl 40 (.tmp 4) rfl g4 rfl 40 #[.int .i64 e.s, .int .i64 e.q, .int .i64 e.c.kind, .int .i64 e.c.who, .slice ca.Ak e.c.key.length ca.ck, .slice ca.Av e.c.val.length ca.cv, .slice ca.Ao e.c.old.length ca.co] (0, 0) _ HK4e.out Tryz.underlying40 rfl (by kernel_rfl) ?_)
      | (refine wpList_load_row rfl 47 (.tmp 7) rfl g7 rfl 47 #[.int .i64 r.e, .slice A2 r.v.length c2, .int .i64 r.n] (0, 0) _ HK7e.out Tryz.underlying47 rfl (by kernel_rfl) ?_)
      | (refine wpList_store_row rfl 49 (.tmp 2) (.tmp 39) rfl g2 (doneL ca A2 c2 ⟨(fr : Int) + 1, e, r⟩).toArray rfl rfl 49 doneZ HK2e.out (by kernel_rfl) rfl (by kernel_rfl) ?_)
      | fail)
    refine bodyPost_ret (results_cell_row rfl _ _ _ _ _ _ _ rfl (Blk.row HK2e.out (doneL ca A2 c2 ⟨(fr : Int) + 1, e, r⟩).toArray) Tryz.underlying49 rfl (by kernel_rfl)) rfl ?_
    have k2 : Keeps (fun q => q = g2) w6 (w6.setRow g2 (doneL ca A2 c2 ⟨(fr : Int) + 1, e, r⟩).toArray) := Keeps.of_only (only_row w6 g2 _) rfl
    have o2 : Of (fun q => q = g2) [49] w6 := fun q hq _ => by subst hq; exact ⟨_, _, _, HK2e.out, by simp⟩
    have hn2 : ∀ q, bkS b g A6 q → ¬ q = g2 := by
      rintro q hq rfl
      exact HB6.out.1.of.not HK2e.out (by decide) hq
    have hsz2 : w.heap.size ≤ g2 := by have := HG2.out; omega
    refine ⟨⟨ca, A2, c2, rfl, (HOCe.out.keeps9 k2 o2 (by decide)).of9 HB1.out.size, more_ HSZ.out.1 (ownsRow_keeps HRVe.out k2 o2 (by decide))⟩, bkS b g A6, ⟨a2, g, fr + 1, wh, A6, n6, c6, ss.drop 1, HB6.out.1.keeps k2 o2 (by decide) (by decide) (by decide) (by decide) (by decide) hn2, rfl⟩, ?_, ?_⟩
    · exact (HKP5.out.trans HB6.out.2.keeps (fun q hq _ => hq)).trans k2 (fun q hq hlt => by subst hq; omega)
    · intro q hq
      rcases HB6.out.2.grow q hq with h1 | h1
      · exact .inl h1
      · exact .inr (Nat.le_trans HSZ.out.1 (Nat.le_trans (show w3.drew.heap.size ≤ w5.heap.size from HSZ.out.2) h1))
end
end Go.Proofs.YtaknfmionkkdjaaGreat

