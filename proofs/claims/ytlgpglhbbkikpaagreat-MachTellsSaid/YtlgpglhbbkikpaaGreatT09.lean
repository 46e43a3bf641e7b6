/- MachEntry OnlyKit PackWalks PackRdr PackIn PackRef -/
import Derived.Test.YtlgpglhbbkikpaaGreatT00
import Derived.Test.YtlgpglhbbkikpaaGreatT01
import Derived.Test.YtlgpglhbbkikpaaGreatT03
import Derived.Test.YtlgpglhbbkikpaaGreatT06
import Derived.Test.YtlgpglhbbkikpaaGreatT08
import Derived.Below
import Derived.Deep.RegionWith
import Derived.IntWalk
import Derived.Laws.BitsAllLaws
import Derived.Outline
import Derived.OwnWalk
import Derived.ProofKit
import Derived.WalkKit
import Derived.WalkLawsBesides
import Derived.WalkSpells
import Derived.RegionTactic
import Derived.Deep.RegionHeld3
namespace Go.Proofs.YtlgpglhbbkikpaaGreat
open Go.RowKit
set_option linter.unusedVariables false
def NoByte (cs : Array Value) : Prop := ∀ (j x : Nat), cs[j]? ≠ some (.int .u8 (x : Int))
theorem NoByte.set {cs : Array Value} (h : NoByte cs) (i : Nat) {u : Value} (hu : ∀ x : Nat, u ≠ .int .u8 (x : Int)) : NoByte (cs.setIfInBounds i u) := by
 intro j x
 rw [Array.getElem?_setIfInBounds]
 split
 · split
   · intro h2; injection h2 with h2; exact hu x h2
   · simp
 · exact h j x
theorem Rd.setK {w : World} {B : Nat} {A : Option Addr} {n b i : Nat} {u : Value} {t : TypeId} {cs : Array Value} {l : List Nat} (h : Rd w B A n (bv l)) (hb : Blk w b t cs) (hk : NoByte cs) : Rd (w.setCell ⟨b, i, none⟩ u) (w.setCell ⟨b, i, none⟩ u).heap.size A n (bv l) := by
 rcases Nat.eq_zero_or_pos n with rfl | hn
 · exact ⟨h.1, fun h0 => absurd h0 (by omega)⟩
 · obtain ⟨g, o, rfl, hg, hc⟩ := h.2 hn
   refine h.set_ne ?_
   rintro rfl
   have h0 := hc 0 hn
   rw [hb.cell] at h0
   have hl : 0 < l.length := by have := h.1; rw [bv_length] at this; omega
   have h1 : (bv l)[0]? = some (.int .u8 (l[0] : Nat)) := by unfold bv; simp [List.getElem?_eq_getElem hl]
   rw [h1] at h0
   exact hk _ _ h0
theorem RdC.setK {w : World} {B b i : Nat} {u : Value} {t : TypeId} {cs : Array Value} {a : CA} {c : Cm} (h : RdC w B a c) (hb : Blk w b t cs) (hk : NoByte cs) : RdC (w.setCell ⟨b, i, none⟩ u) (w.setCell ⟨b, i, none⟩ u).heap.size a c :=
 ⟨h.rk.setK hb hk, h.rv.setK hb hk, h.ro.setK hb hk⟩
theorem noInt (z : Int) : ∀ x : Nat, Value.int .i64 z ≠ .int .u8 (x : Int) := fun x h => by cases h
theorem noSlice (A : Option Addr) (n c : Nat) : ∀ x : Nat, Value.slice A n c ≠ .int .u8 (x : Int) := fun x h => by cases h
theorem noByte_ent (s q k w : Int) (A A' A'' : Option Addr) (n c n' c' n'' c'' : Nat) : NoByte #[.int .i64 s, .int .i64 q, .int .i64 k, .int .i64 w, .slice A n c, .slice A' n' c', .slice A'' n'' c''] := by
 intro j x h
 match j with
 | 0 => simp at h
 | 1 => simp at h
 | 2 => simp at h
 | 3 => simp at h
 | 4 => simp at h
 | 5 => simp at h
 | 6 => simp at h
 | j + 7 => simp at h
set_option maxHeartbeats 1000000 in
theorem put7 {w : World} {b : Nat} {x0 x1 x2 x3 : Int} {A A' A'' : Option Addr} {n c n' c' n'' c'' : Nat} (hk : Blk w b 29 #[.int .i64 x0, .int .i64 x1, .int .i64 x2, .int .i64 x3, .slice A n c, .slice A' n' c', .slice A'' n'' c'']) (a : CA) (e : En) {B : Nat} (hr : RdC w B a e.c) :
 let wy := (((((((w.setCell ⟨b, 0, none⟩ (.int .i64 e.s)).setCell ⟨b, 1, none⟩ (.int .i64 e.q)).setCell ⟨b, 2, none⟩ (.int .i64 e.c.kind)).setCell ⟨b, 3, none⟩ (.int .i64 e.c.who)).setCell ⟨b, 4, none⟩ (.slice a.Ak e.c.key.length a.ck)).setCell ⟨b, 5, none⟩ (.slice a.Av e.c.val.length a.cv)).setCell ⟨b, 6, none⟩ (.slice a.Ao e.c.old.length a.co))
 Blk wy b 29 (entC a e) /\ RdC wy wy.heap.size a e.c /\ ∀ W, W.heap.size <= b -> Below W.heap.size W w -> Below W.heap.size W wy := by
 intro wy
 have k0 := noByte_ent x0 x1 x2 x3 A A' A'' n c n' c' n'' c''
 have b1 := hk.set_ 0 (.int .i64 e.s); have k1 := k0.set 0 (noInt e.s)
 have b2 := b1.set_ 1 (.int .i64 e.q); have k2 := k1.set 1 (noInt e.q)
 have b3 := b2.set_ 2 (.int .i64 e.c.kind); have k3 := k2.set 2 (noInt e.c.kind)
 have b4 := b3.set_ 3 (.int .i64 e.c.who); have k4 := k3.set 3 (noInt e.c.who)
 have b5 := b4.set_ 4 (.slice a.Ak e.c.key.length a.ck); have k5 := k4.set 4 (noSlice a.Ak e.c.key.length a.ck)
 have b6 := b5.set_ 5 (.slice a.Av e.c.val.length a.cv); have k6 := k5.set 5 (noSlice a.Av e.c.val.length a.cv)
 have b7 := b6.set_ 6 (.slice a.Ao e.c.old.length a.co)
 have r1 := hr.setK (i := 0) (u := .int .i64 e.s) hk k0
 have r2 := r1.setK (i := 1) (u := .int .i64 e.q) b1 k1
 have r3 := r2.setK (i := 2) (u := .int .i64 e.c.kind) b2 k2
 have r4 := r3.setK (i := 3) (u := .int .i64 e.c.who) b3 k3
 have r5 := r4.setK (i := 4) (u := .slice a.Ak e.c.key.length a.ck) b4 k4
 have r6 := r5.setK (i := 5) (u := .slice a.Av e.c.val.length a.cv) b5 k5
 have r7 := r6.setK (i := 6) (u := .slice a.Ao e.c.old.length a.co) b6 k6
 exact ⟨b7, r7, fun W h1 h2 => ((((((h2.setCell h1 _).setCell h1 _).setCell h1 _).setCell h1 _).setCell h1 _).setCell h1 _).setCell h1 _⟩
theorem entryZ_any (n : Int) (i : Nat) (hi : i <= 100) (w : World) : Calls Tryz.prog 5 #[.int .i64 n, .int .i64 (i : Int)] w fun e w' => ∃ ca en, e = .returned (entV ca en) /\ en.c.Fits /\ RdC w' w'.heap.size ca en.c /\ ca.Z /\ Below w.heap.size w w' := by
 have hb0 : Below w.heap.size w (w.alloc (.cells #[.int .i64 0, .int .i64 0, .int .i64 0, .int .i64 0, .slice none 0 0, .slice none 0 0, .slice none 0 0] 29)) := (Below.refl _ _).alloc lR _
 have HB0 := hD hb0
 have HK := hD (Blk.new w 29 #[.int .i64 0, .int .i64 0, .int .i64 0, .int .i64 0, .slice none 0 0, .slice none 0 0, .slice none 0 0])
 clear hb0
 go_enter Tryz.func5, Tryz.ntmps5
 go_wp2_with fail
 refine (cmdZ_any n _).mono ?_
 rintro e w1 ⟨ca, c, rfl, hf, hr, hz, hb⟩
 have HZ := hD hz
 clear hz
 have HK1 := hD (HK.out.below hb)
 have HB1 := hD (HB0.out.trans (hb.mono HB0.out.size))
 have HR := hD hr
 have HF := hD hf
 clear hb hr hf HK HB0
 obtain ⟨x0, x1, x2, x3, x4, x5, x6⟩ := seven HK1.out
 have f0 := HK1.out.frozen 0
 have f1 := HK1.out.frozen 1
 have f2 := HK1.out.frozen 2
 have f3 := HK1.out.frozen 3
 have f4 := HK1.out.frozen 4
 have f5 := HK1.out.frozen 5
 have f6 := HK1.out.frozen 6
 unfold cmdV cmdC
 go_wp2_with fail
 obtain ⟨p1, p2, p3⟩ := put7 HK1.out ca ⟨_, _, c⟩ HR.out
 refine bodyPost_ret (results_cell_row rfl _ _ _ _ _ _ _ rfl p1 Tryz.underlying29 rfl (by kernel_rfl)) rfl ?_
 exact ⟨ca, ⟨_, _, c⟩, rfl, HF.out, p2, HZ.out, p3 w lR HB1.out⟩
theorem entry_any (n : Int) (i : Nat) (hi : i <= 100) (w : World) : Calls Tryz.prog 5 #[.int .i64 n, .int .i64 (i : Int)] w fun e w' => ∃ ca en, e = .returned (entV ca en) /\ en.c.Fits /\ RdC w' w'.heap.size ca en.c /\ Below w.heap.size w w' :=
 (entryZ_any n i hi w).mono fun e w' ⟨ca, en, h1, h2, h3, _, h5⟩ => ⟨ca, en, h1, h2, h3, h5⟩
def Old (W : World) (row : Option Nat) : Prop := ∀ k, row = some k -> k < W.heap.size
section
variable {W w w' : World} {row : Option Nat}
theorem Old.some {b : Nat} (h : b < W.heap.size) : Old W (some b) := fun k hk => by injection hk with hk; omega
theorem own_old {e : TypeId} {size n : Nat} {v : Value} {xs : List Value} (h : w.ownsRow W.heap.size e size v n xs) (hg : w.grownBy w' row) (ho : Old W row) : w'.ownsRow W.heap.size e size v n xs := by
 refine h.kept hg ?_
 rcases he : v.ownBlock with _ | k
 · exact .inl rfl
 · right
   intro h2
   have h3 := ho k h2.symm
   have := (h.lt k he).1
   omega
theorem Owns.old {vs : List Value} {qs : List (List Nat)} (h : Owns W w vs qs) (hg : w.grownBy w' row) (ho : Old W row) : Owns W w' vs qs :=
 ⟨h.len, fun i l hl => by obtain ⟨A, c, e, hq⟩ := h.cell i l hl; exact ⟨A, c, e, own_old hq hg ho⟩⟩
theorem OwnQ.old {A : Option Addr} {n c : Nat} {qs : List (List Nat)} (h : OwnQ W w A n c qs) (hg : w.grownBy w' row) (ho : Old W row) : OwnQ W w' A n c qs := by
 obtain ⟨vs, h1, h2⟩ := h; exact ⟨vs, own_old h1 hg ho, h2.old hg ho⟩
theorem OwnP.old {A : Option Addr} {n c : Nat} {ps : List Pr} (h : OwnP W w A n c ps) (hg : w.grownBy w' row) (ho : Old W row) : OwnP W w' A n c ps := by
 obtain ⟨vs, h1, h2⟩ := h; exact ⟨vs, own_old h1 hg ho, h2.old hg ho⟩
theorem OwnsL.old {vs : List Value} {ls : List Ls} (h : OwnsL W w vs ls) (hg : w.grownBy w' row) (ho : Old W row) : OwnsL W w' vs ls := h.imp fun _ _ _ h => own_old h hg ho
theorem OwnL.old {A : Option Addr} {n c : Nat} {ls : List Ls} (h : OwnL W w A n c ls) (hg : w.grownBy w' row) (ho : Old W row) : OwnL W w' A n c ls := by
 obtain ⟨vs, h1, h2⟩ := h; exact ⟨vs, own_old h1 hg ho, OwnsL.old h2 hg ho⟩
theorem OwnO.old {a : OA} {s : Ob} (h : OwnO W w a s) (hg : w.grownBy w' row) (ho : Old W row) : OwnO W w' a s := ⟨own_old h.o0 hg ho, h.o1.old hg ho, own_old h.o2 hg ho, h.o3.old hg ho⟩
theorem OwnM.old {a : MA} {m : Mc} (h : OwnM W w a m) (hg : w.grownBy w' row) (ho : Old W row) : OwnM W w' a m := ⟨h.o.old hg ho, h.t.old hg ho⟩
theorem own_row_old {W1 : World} {e : TypeId} {size n : Nat} {v : Value} {xs : List Value} (h : w.ownsRow W1.heap.size e size v n xs) (hs : w.heap.size <= W.heap.size) : Old W v.ownBlock := fun k hk => by have := (h.lt k hk).2; omega
end
theorem cellB : CellT Tryz.prog 24 5 (.int .u8 0) 1 := ⟨Tryz.underlying24, by kernel_rfl, rfl⟩
theorem bv_one (l : List Nat) : ∀ u ∈ bv l, u.oneCell' = true := by
 intro u hu
 unfold bv at hu
 obtain ⟨x, _, rfl⟩ := List.mem_map.1 hu
 rfl
theorem bv_app (l m : List Nat) : bv (l ++ m) = bv l ++ bv m := by simp [bv]
theorem run_max0 {P : Program} (w : World) (ts : Array TypeId) (t : TypeId) (n : Int) :
 (Builtin.max_ ts t #[.int .i64 n, .int .i64 0]).run P w = .ok (.int .i64 (max n 0)) w := by
 have e : max n 0 = if (n : Int) < 0 then 0 else n := by omega
 rw [e]
 simp [Builtin.max_, Builtin.max2]
theorem run_min_top {P : Program} (w : World) (ts : Array TypeId) (t : TypeId) (n : Int) :
 (Builtin.min_ ts t #[.int .i64 (max n 0), .int .i64 4611686018427387904]).run P w = .ok (.int .i64 (Pk.held n : Nat)) w := by
 have e : ((Pk.held n : Nat) : Int) = if (4611686018427387904 : Int) < max n 0 then 4611686018427387904 else max n 0 := by unfold Pk.held Pk.top; omega
 rw [e]
 simp [Builtin.min_, Builtin.min2]
theorem held_any (n : Int) (w : World) :
 Calls Tryz.prog 124 #[.int .i64 n] w fun e w' => e = .returned (.int .i64 (Pk.held n : Nat)) /\ w = w' := by
 have h1 := fun (w : World) ts t => run_max0 (P := Tryz.prog) w ts t n
 have h2 := fun (w : World) ts t => run_min_top (P := Tryz.prog) w ts t n
 go_enter Tryz.func124, Tryz.ntmps124
 go_wp2
 go_ret
 exact ⟨rfl, rfl⟩
theorem wpList_make_room {P : Program} {t e : TypeId} {W w : World} (hT : ByteT P t e) {ops : Array Oper} {rest : List Oper} {o : Oper} {a : Act} {Q : Exit -> Act -> World -> Prop} (hg : o.guard = none) (l c : Operand)
 (hop : o.op = Op.makeSlice t l c) {C : Int} (hl : a.eval l = .int .i64 0) (hc : a.eval c = .int .i64 C) (n : Nat) (hC : C = (n : Int)) (hn : n <= 2199023255552) (hB : Below W.heap.size W w)
 (h : ∀ w2, w2.ownsRow W.heap.size e 1 (.slice (some ⟨w.heap.size, 0, none⟩) 0 n) 0 (bv []) -> Below W.heap.size W w2 -> wpList P ops Q rest (a.put o.dst (.slice (some ⟨w.heap.size, 0, none⟩) 0 n)) w2) :
 wpList P ops Q (o :: rest) a w := by
 obtain ⟨i, hi, hz, hsz, hby⟩ := info_parts hT.info
 refine wpList_make_own w hg l c t hop W.heap.size e i (.int .u8 0) 1 hT.under hi hz hsz .i64 .i64 C n hl hc hC (by rw [hby]; omega) (by unfold maxLen; omega) hB.size ?_
 intro w2 h2 h3
 exact h w2 h2 (hB.grown h3 hB.size (fun k hk => by cases hk))
theorem withRoom_any (l : List Nat) (A : Option Addr) (n c B : Nat) (room : Int) (hn : Lim 0 n) (h0 : 0 <= room) (hm : room <= 1099511627776) (w : World) (hr : Rd w B A n (bv l)) :
 Calls Tryz.prog 39 #[.slice A n c, .int .i64 room] w (GotB w l) := by
 obtain ⟨room, rfl⟩ := Int.eq_ofNat_of_zero_le h0
 clear h0
 have hn := hn.out
 have H := hD hr.fit
 clear hr
 have hB0 : Below w.heap.size w w := Below.refl _ _
 go_enter Tryz.func39, Tryz.ntmps39
 go_wp2_with (first
  | (at_make
     refine wpList_make_room (W := w) byteT rfl _ _ rfl rfl rfl (n + room) (by omega) (by omega) hB0 ?_
     intro w1 hown1 hB1)
  | (at_builtin
     refine wpList_append_bytes (W := w) byteT (.tmp 9) (.tmp 10) rfl (by rfl) rfl hown1 rfl (H.out.below hB1) (by omega) hB1 ?_
     intro A2 c2 w2 hown2 hr2 hB2
     simp only [Nat.zero_add, List.nil_append] at hown2 hr2)
  | fail)
 go_ret
 exact ⟨_, _, _, rfl, hown2, hB2⟩
def PutT (n : Nat) : Prop := n <= Pk.top
set_option maxRecDepth 100000 in
theorem put_any (l : List Nat) (A : Option Addr) (n c : Nat) (N : Int) (hn : Lim 20 n) (W w : World) (hown : OwnB W w A n c l) (hB : Below W.heap.size W w) :
 Calls Tryz.prog 149 #[.slice A n c, .int .i64 N] w (GotB W (l ++ Pk.enc (Pk.held N))) := by
 have hT : PutT (Pk.held N) := Pk.held_le N
 have HL := hD (Pk.enc_length (Pk.held N))
 have HO := hD hown
 clear hown
 go_enter Tryz.func149, Tryz.ntmps149
 go_wp2_with (go_at_call 124; refine (held_any _ _).mono ?_; rintro e w' ⟨rfl, rfl⟩)
 go_loopw [0, 1] (fun s0 s1 wr => ∃ (m : Nat) (A' : Option Addr) (n' c' : Nat) (l' : List Nat), PutT m /\ s1 = .int .i64 m /\ s0 = .slice A' n' c' /\ OwnB W wr A' n' c' l' /\ Below W.heap.size W wr /\ Hid (l' ++ Pk.enc m = l ++ Pk.enc (Pk.held N)) /\ n' <= n + 9)
  (fun _ s1 _ => (intOf s1).toNat)
 case atStart => exact ⟨_, _, _, _, l, hT, rfl, rfl, HO.out, hB, hD rfl, by omega⟩
 case round =>
  obtain ⟨m, A', n', c', l', hm, rfl, rfl, hown, hB', hl, hn'⟩ := hrel
  by_cases hlt : 128 <= m
  · have hm2 : (m : Int) <= 4611686018427387904 := by have : m <= Pk.top := hm; unfold Pk.top at this; omega
    have HE := hD (Pk.enc_big hlt hm)
    have hq : PutT (m / 128) := by have : m <= Pk.top := hm; exact Nat.le_trans (Nat.div_le_self _ _) this
    have HB := hD (Pk.enc_length (m / 128))
    go_wp2_with (first
     | (at_builtin
        refine wpList_append_bytes (W := W) byteT (.tmp 9) (.tmp 14) rfl (by rfl) rfl (hown.alloc _) rfl (Rd.oneI wr (x := m % 128 + 128) (by omega) 5) (by have := hn.out; omega) (hB'.alloc hB'.size _) ?_
        intro A1 c1 w1 hown1 hr1 hB1)
     | fail)
    go_roundw
    case rel =>
     have HL' := hD (congrArg List.length hl.out)
     refine ⟨m / 128, A1, n' + 1, c1, l' ++ [m % 128 + 128], hq, by go_num, rfl, hown1, hB1, hD ?_, ?_⟩
     · have := hl.out
       rw [HE.out] at this
       rw [<- this, List.append_assoc]; rfl
     · have h1 := HL'.out
       have h2 := HL.out
       have h3 := own_len hown
       have h4 := own_len HO.out
       have h5 := HB.out
       rw [HE.out] at h1
       simp only [List.length_append, List.length_cons] at h1
       omega
    case measure => simp [intOf]; omega
  · have HE := hD (Pk.enc_small (n := m) (by omega))
    have hi : (m : Int) < 128 := by omega
    go_wp2_with (first
     | (at_builtin
        refine wpList_append_bytes (W := W) byteT (.tmp 18) (.tmp 21) rfl (by rfl) rfl (hown.alloc _) rfl (Rd.oneI wr (x := m) (by omega) 5) (by have := hn.out; omega) (hB'.alloc hB'.size _) ?_
        intro A1 c1 w1 hown1 hr1 hB1)
     | fail)
    go_ret
    have h1 := hl.out
    rw [HE.out] at h1
    rw [h1] at hown1
    exact ⟨_, _, _, rfl, hown1, hB1⟩
theorem num_any (l : List Nat) (A : Option Addr) (n c B : Nat) (N : Int) (hn : Lim 20 n) (w : World) (hr : Rd w B A n (bv l)) :
 Calls Tryz.prog 121 #[.slice A n c, .int .i64 N] w (GotB w (l ++ Pk.enc (Pk.held N))) := by
 have hl := hr.length
 have H := hD hr
 have HL := hD hl
 clear hr hl
 go_enter Tryz.func121, Tryz.ntmps121
 go_wp2_with fail
 refine (withRoom_any l A n c B 9 (by have := hn.out; unfold Lim; omega) (by omega) (by omega) _ H.out).mono ?_
 rintro e w1 ⟨A1, n1, c1, rfl, hown1, hB1⟩
 have hn1 : Lim 20 n1 := by have := own_len hown1; have := HL.out; have := hn.out; unfold Lim; omega
 go_wp2_with fail
 refine (put_any l A1 n1 c1 N hn1 w w1 hown1 hB1).mono ?_
 rintro e w2 ⟨A2, n2, c2, rfl, hown2, hB2⟩
 go_wp2
 go_ret
 exact ⟨_, _, _, rfl, hown2, hB2⟩
theorem held_len {n : Nat} (h : Lim 20 n) : Pk.held (n : Int) = n := Pk.held_of (by have := h.out; unfold Pk.top; omega)
theorem bytes_any (l x : List Nat) (A : Option Addr) (n c B : Nat) (A' : Option Addr) (n' c' B' : Nat) (hn : Lim 20 n) (hn' : Lim 20 n') (hs : Lim 20 (n + n')) (w : World) (hr : Rd w B A n (bv l)) (hr' : Rd w B' A' n' (bv x)) :
 Calls Tryz.prog 122 #[.slice A n c, .slice A' n' c'] w (GotB w (l ++ Pk.encB x)) := by
 have HL := hD hr.length
 have HX := hD hr'.length
 have H := hD hr
 have H' := hD hr'.fit
 have HE := hD (Pk.enc_length n')
 have HD := hD (held_len hn')
 have hb : (n' : Int) <= 1099511627756 := by have := hn'.out; omega
 clear hr hr'
 go_enter Tryz.func122, Tryz.ntmps122
 go_wp2_with fail
 refine (withRoom_any l A n c B (9 + n') (by have := hn.out; unfold Lim; omega) (by omega) (by omega) _ H.out).mono ?_
 rintro e w1 ⟨A1, n1, c1, rfl, hown1, hB1⟩
 have hn1 : Lim 20 n1 := by have := own_len hown1; have := HL.out; have := hn.out; unfold Lim; omega
 have HN1 := hD (show n1 = n by have := own_len hown1; have := HL.out; omega)
 go_wp2_with fail
 refine (put_any l A1 n1 c1 n' hn1 w w1 hown1 hB1).mono ?_
 rintro e w2 ⟨A2, n2, c2, rfl, hown2, hB2⟩
 have HN2 := hD (own_len hown2)
 go_wp2_with (first
  | (at_builtin
     refine wpList_append_bytes (W := w) byteT (.tmp 12) (.tmp 13) rfl (by rfl) rfl hown2 rfl (H'.out.below hB2) (by
      have h1 := HN2.out; have h2 := HN1.out; have h3 := HL.out; have h4 := HE.out; have h5 := hs.out
      rw [HD.out, List.length_append] at h1; omega) hB2 ?_
     intro A3 c3 w3 hown3 hr3 hB3)
  | fail)
 go_ret
 refine ⟨_, _, _, rfl, ?_, hB3⟩
 have h6 := hown3
 rw [HD.out] at h6
 unfold Pk.encB
 rw [HX.out, <- List.append_assoc]
 exact h6
def RdrAt (w : World) (b : Nat) (s : Pk.St) : Prop := ∃ A n c, Blk w b 76 #[.slice A n c, .bool s.isNone] /\ n <= c /\ c <= maxLen /\ Lim 40 n /\ RdT w 5 A n (bv (s.getD [])) /\ ∀ x ∈ s.getD [], x < 256
theorem RdrAt.below {w w' : World} {b : Nat} {s : Pk.St} (h : RdrAt w b s) (hb : Below w.heap.size w w') : RdrAt w' b s := by
 obtain ⟨A, n, c, h1, h2, h3, h4, h5, h6⟩ := h
 exact ⟨A, n, c, h1.below hb, h2, h3, h4, h5.below hb, h6⟩
theorem RdrAt.lt {w : World} {b : Nat} {s : Pk.St} (h : RdrAt w b s) : b < w.heap.size := by
 obtain ⟨A, n, c, h1, _⟩ := h
 exact h1.lt
theorem RdrAt.grown {w w' : World} {b b' : Nat} {s : Pk.St} {t : TypeId} {cs : Array Value} (h : RdrAt w b s) (hg : w.grownBy w' (some b')) (hb : Blk w b' t cs) (ht : 5 ≠ t) (hne : b ≠ b') : RdrAt w' b s := by
 obtain ⟨A, n, c, h1, h2, h3, h4, h5, h6⟩ := h
 exact ⟨A, n, c, h1.grown hg (by intro he; injection he with he; exact hne he), h2, h3, h4, h5.grown hg hb ht, h6⟩
def GotRd (W : World) (l : List Nat) (e : Ending) (w' : World) : Prop := ∃ b, e = .returned (.pointer (some ⟨b, 0, none⟩)) /\ RdrAt w' b (some l) /\ W.heap.size <= b /\ Below W.heap.size W w'
theorem readP_any (l : List Nat) (A : Option Addr) (n c B : Nat) (hn : Lim 40 n) (hl : ∀ x ∈ l, x < 256) (w : World) (hr : Rd w B A n (bv l)) :
 Calls Tryz.prog 12 #[.slice A n c] w (GotRd w l) := by
 have HL := hD hr.length
 have H := hD hr
 have HX := hD hl
 clear hr hl
 go_enter Tryz.func12, Tryz.ntmps12
 go_wp2_with fail
 refine (withRoom_any l A n c B 0 (by have := hn.out; unfold Lim; omega) (by omega) (by omega) _ H.out).mono ?_
 rintro e w1 ⟨A1, n1, c1, rfl, hown1, hB1⟩
 have hn1 : Lim 40 n1 := by have := own_len hown1; have := HL.out; have := hn.out; unfold Lim; omega
 go_wp2
 go_ret
 exact ⟨w1.heap.size, rfl, ⟨A1, n1, c1, Blk.new _ _ _, (own_cap hown1).1, (own_cap hown1).2, hn1, (RdT.own hown1).alloc _, HX.out⟩, hB1.size, hB1.alloc hB1.size _⟩
theorem run_min9 {P : Program} (w : World) (ts : Array TypeId) (t : TypeId) (n : Nat) :
 (Builtin.min_ ts t #[.int .i64 (n : Int), .int .i64 9]).run P w = .ok (.int .i64 ((min n 9 : Nat) : Int)) w := by
 have e : ((min n 9 : Nat) : Int) = if (9 : Int) < (n : Int) then 9 else (n : Int) := by omega
 rw [e]
 simp [Builtin.min_, Builtin.min2]
theorem i64_or_nat (a b : Nat) (ha : a < 9223372036854775808) (hb : b < 9223372036854775808) : bits .or .i64 (a : Int) (b : Int) = ((a ||| b : Nat) : Int) := by
 show IntKind.i64.wrap ((BitVec.ofInt 64 a ||| BitVec.ofInt 64 b).toNat : Int) = _
 have hlt : a ||| b < 2 ^ 63 := Nat.or_lt_two_pow (by omega) (by omega)
 have e : (BitVec.ofInt 64 a ||| BitVec.ofInt 64 b).toNat = a ||| b := by
  rw [BitVec.toNat_or, BitVec.toNat_ofInt, BitVec.toNat_ofInt]
  have h1 : ((a : Int) % ((2 ^ 64 : Nat) : Int)).toNat = a := by omega
  have h2 : ((b : Int) % ((2 ^ 64 : Nat) : Int)).toNat = b := by omega
  rw [h1, h2]
 rw [e, IntKind.wrap_i64]
 omega
theorem or_group {k acc x : Nat} (hk : k < 9) (ha : acc < 128 ^ k) (hx : x < 256) :
 bits .or .i64 (acc : Int) (wrap64 ((x : Int) % 128 * 2 ^ (7 * k))) = ((acc + x % 128 * 128 ^ k : Nat) : Int) := by
 have e128 : (128 : Nat) ^ k = 2 ^ (7 * k) := by rw [Nat.pow_mul]
 have hp : (128 : Nat) ^ k <= 128 ^ 8 := Nat.pow_le_pow_right (by omega) (by omega)
 have hm : x % 128 * 128 ^ k <= 127 * 128 ^ k := Nat.mul_le_mul_right _ (by omega)
 have e1 : ((x : Int) % 128 * 2 ^ (7 * k)) = ((x % 128 * 128 ^ k : Nat) : Int) := by rw [e128]; simp
 have e2 : wrap64 ((x : Int) % 128 * 2 ^ (7 * k)) = ((x % 128 * 128 ^ k : Nat) : Int) := by
  rw [e1]
  unfold wrap64
  generalize x % 128 * 128 ^ k = q at hm
  omega
 rw [e2, i64_or_nat _ _ (by omega) (by omega), Nat.or_comm, nat_join (7 * k) _ _ (by rw [e128]; exact Nat.mul_mod_left _ _) (by rw [<- e128]; exact ha), Nat.add_comm]
set_option maxRecDepth 100000 in
theorem first_any (l : List Nat) (A : Option Addr) (n c B : Nat) (hl : ∀ x ∈ l, x < 256) (hc : n <= c) (hn : Lim 0 n) (w : World) (hr : Rd w B A n (bv l)) :
 Calls Tryz.prog 123 #[.slice A n c] w fun e w' => e = .returned (.tuple #[.int .i64 ((Pk.first l).1 : Nat), .int .i64 ((Pk.first l).2 : Nat)]) /\ w = w' := by
 have HL := hD hr.length
 have HX := hD hl
 obtain ⟨i, hi1, hi2, hi3, hi4⟩ := info_parts byteT.info
 have H9 := hD (run_slice_to (P := Tryz.prog) (t := 24) byteT.under hi1 A n c (min n 9) (by omega))
 obtain ⟨m, hm1, hm2, hm3, hmin, hsl⟩ : ∃ m : Nat, m <= n /\ m <= 9 /\ (m = n \/ m = 9) /\ (∀ (w : World) ts t, (Builtin.min_ ts t #[.int .i64 (n : Int), .int .i64 9]).run Tryz.prog w = .ok (.int .i64 (m : Int)) w) ∧
  ∀ w : World, (Instr.slice 24 (.slice A n c) none (some (.int .i64 (m : Int))) none).run Tryz.prog w = .ok (.slice A m c) w :=
  ⟨min n 9, by omega, by omega, by omega, fun w ts t => run_min9 w ts t n, H9.out⟩
 have H := hD (hr.take hm1)
 have HM := hD hm3
 clear hr hl hi1 hi2 hi3 hi4 H9 hm3
 go_enter Tryz.func123, Tryz.ntmps123
 go_wp2_with fail
 go_loop [2, 12] (fun s2 s12 => ∃ (k acc : Nat), k <= m /\ s12 = .int .i64 k /\ s2 = .int .i64 acc /\ Hid (Pk.dec k acc (l.drop k) = Pk.first l /\ acc < 128 ^ k)) (fun _ i => m - (intOf i).toNat)
 case atStart => exact ⟨0, 0, by omega, rfl, rfl, hD ⟨rfl, by simp⟩⟩
 case round =>
  obtain ⟨k, acc, hk, rfl, rfl, hd⟩ := hrel
  by_cases hlt : k < m
  · have hkl : k < l.length := by have := HL.out; omega
    obtain ⟨b, o, rfl, hk', hcell⟩ := (show Rd w B A m (bv (l.take m)) by rw [bv_take]; exact H.out).bytes_at hlt
    have HT := hD (show (l.take m)[k] = l[k] by simp)
    rw [HT.out] at hcell
    have hx : l[k] < 256 := HX.out _ (List.getElem_mem hkl)
    obtain ⟨x, hxe⟩ : ∃ x, x = l[k] := ⟨_, rfl⟩
    rw [<- hxe] at hcell hx
    have HE := hD hxe
    clear hxe
    by_cases hbig : 128 <= x
    · have HD := hD (show Pk.dec k acc (l.drop k) = Pk.dec (k + 1) (acc + x % 128 * 128 ^ k) (l.drop (k + 1)) by
       rw [List.drop_eq_getElem_cons hkl, <- HE.out]
       simp only [Pk.dec]
       rw [if_neg (by omega), if_pos hbig])
      go_wp2
      go_round
      case rel =>
       refine ⟨k + 1, acc + x % 128 * 128 ^ k, by omega, by go_num, by rw [or_group (by omega) hd.out.2 hx], hD ⟨?_, ?_⟩⟩
       · rw [<- HD.out]; exact hd.out.1
       · have h1 := hd.out.2
         have h2 : 128 ^ (k + 1) = 128 * 128 ^ k := by rw [Nat.pow_succ, Nat.mul_comm]
         have h3 : x % 128 * 128 ^ k <= 127 * 128 ^ k := Nat.mul_le_mul_right _ (by omega)
         omega
      case measure => simp [intOf]; omega
    · by_cases hz : x = 0 /\ 0 < k
      · have HD := hD (show Pk.dec k acc (l.drop k) = (0, 0) by
         rw [List.drop_eq_getElem_cons hkl, <- HE.out]
         simp only [Pk.dec]
         rw [if_neg (by omega), if_neg hbig, if_pos hz])
        obtain ⟨rfl, hk0⟩ := hz
        have hk1 : ((k : Int) == 0) = false := by simp; omega
        go_wp2
        go_ret2
        have h1 : Pk.first l = (0, 0) := by rw [<- hd.out.1]; exact HD.out
        exact ⟨by rw [h1]; rfl, rfl⟩
      · have HD := hD (show Pk.dec k acc (l.drop k) = (acc + x * 128 ^ k, k + 1) by
         rw [List.drop_eq_getElem_cons hkl, <- HE.out]
         simp only [Pk.dec]
         rw [if_neg (by omega), if_neg hbig, if_neg hz])
        have HO := hD (or_group (k := k) (by omega) hd.out.2 hx)
        have hx8 : (x : Int) < 128 := by omega
        have HF := hD (show (Ending.returned (.tuple #[.int .i64 (bits .or .i64 (acc : Int) (wrap64 ((x : Int) % 128 * 2 ^ (7 * k)))), .int .i64 ((k : Int) + 1)])) = .returned (.tuple #[.int .i64 ((Pk.first l).1 : Nat), .int .i64 ((Pk.first l).2 : Nat)]) by
         have h1 : Pk.first l = (acc + x * 128 ^ k, k + 1) := by rw [<- hd.out.1]; exact HD.out
         have h2 : x % 128 = x := by omega
         rw [HO.out, h1, h2]; rfl)
        by_cases hx0 : x = 0
        · have hk0 : ¬ (0 < (k : Int)) := by omega
          have hz0 : ((x : Int) == 0) = true := by simp; omega
          clear hx0 hz hd HD HO
          go_wp2
          go_ret2
          exact ⟨HF.out, rfl⟩
        · have hz0 : ((x : Int) == 0) = false := by simp; omega
          clear hx0 hz hd HD HO
          go_wp2
          go_ret2
          exact ⟨HF.out, rfl⟩
  · have HD := hD (show Pk.dec k acc (l.drop k) = (0, 0) by
     rcases HM.out with h | h
     · rw [List.drop_of_length_le (by have := HL.out; omega)]; rfl
     · rcases Nat.lt_or_ge k l.length with h2 | h2
       · rw [List.drop_eq_getElem_cons h2]
         simp only [Pk.dec]
         rw [if_pos (by omega)]
       · rw [List.drop_of_length_le h2]; rfl)
    go_wp2
    go_ret2
    have h1 : Pk.first l = (0, 0) := by rw [<- hd.out.1]; exact HD.out
    exact ⟨by rw [h1]; rfl, rfl⟩
abbrev Only (b : Nat) (w w' : World) : Prop := w.grownBy w' (some b)
theorem only_set {a w : World} {g : Nat} (h : Only g a w) (i : Nat) (u : Value) : Only g a (w.setCell ⟨g, i, none⟩ u) :=
 ⟨h.os, h.tape, h.output, by simpa [World.setCell] using h.size, fun k hk hne => (Below.heap_setCell w ⟨g, i, none⟩ u k (by rintro rfl; exact hne rfl)).trans (h.block k hk hne)⟩
theorem only_refl (g : Nat) (w : World) : Only g w w := World.grownBy.refl w _
theorem only_trans {a b c : World} {g : Nat} (h : Only g a b) (k : Only g b c) : Only g a c :=
 ⟨k.os.trans h.os, k.tape.trans h.tape, k.output.trans h.output, Nat.le_trans h.size k.size, fun i hi hn => (k.block i (Nat.lt_of_lt_of_le hi h.size) hn).trans (h.block i hi hn)⟩
theorem only_below {a w w' : World} {g B : Nat} (h : Only g a w) (hb : Below B w w') (hB : a.heap.size <= B) : Only g a w' :=
 ⟨hb.os.trans h.os, hb.tape.trans h.tape, hb.output.trans h.output, Nat.le_trans h.size hb.size, fun i hi hn => (hb.block i (by omega)).trans (h.block i hi hn)⟩
theorem below_only {W w w' : World} {g : Nat} (hB : Below W.heap.size W w) (h : Only g w w') (hg : W.heap.size <= g) : Below W.heap.size W w' :=
 hB.grown h hB.size (fun k hk => by injection hk with hk; omega)
theorem fail_any (w : World) (b : Nat) (s : Pk.St) (h : RdrAt w b s) :
 Calls Tryz.prog 125 #[.pointer (some ⟨b, 0, none⟩)] w fun e w' => e = .returned (.tuple #[]) /\ RdrAt w' b none /\ Only b w w' := by
 obtain ⟨A, n, c, hblk, h2, h3, h4, h5, h6⟩ := h
 have hc0 : w.cell? ⟨b, 0, none⟩ = some (.slice A n c) := hblk.cell 0
 have hc1 : w.cell? ⟨b, 1, none⟩ = some (.bool s.isNone) := hblk.cell 1
 have hf0 := hblk.frozen 0
 have hf1 := hblk.frozen 1
 have HB := hD hblk
 clear hblk h2 h3 h4 h5 h6
 go_enter Tryz.func125, Tryz.ntmps125
 go_wp2
 go_end0
 have hb := HB.out
 exact ⟨rfl, ⟨none, 0, 0, (hb.set_ 1 (.bool true)).set_ 0 (.slice none 0 0), by omega, by unfold maxLen; omega, by unfold Lim; omega, RdT.none_ _ _ _, by intro x hx; cases hx⟩, only_set (only_set (only_refl b w) 1 _) 0 _⟩
theorem first_is {l : List Nat} {v sz : Nat} (hf : Pk.first l = (v, sz)) (A : Option Addr) (n c B : Nat) (hl : ∀ x ∈ l, x < 256) (hc : n <= c) (hn : Lim 0 n) (w : World) (hr : Rd w B A n (bv l)) :
 Calls Tryz.prog 123 #[.slice A n c] w fun e w' => e = .returned (.tuple #[.int .i64 (v : Int), .int .i64 (sz : Int)]) /\ w = w' := by
 have h := first_any l A n c B hl hc hn w hr
 rw [hf] at h
 exact h
theorem rdr_cut {w : World} {b n c k : Nat} {A : Option Addr} {l : List Nat} (hb : Blk w b 76 #[.slice A n c, .bool false]) (hc : n <= c) (hm : c <= maxLen) (hn : Lim 40 n) (hr : RdT w 5 A n (bv l)) (hl : ∀ x ∈ l, x < 256) (hk : k <= n) :
 RdrAt (w.setCell ⟨b, 0, none⟩ (.slice (cutAt A c k) (n - k) (c - k))) b (some (l.drop k)) := by
 refine ⟨cutAt A c k, n - k, c - k, hb.set_ 0 _, by omega, by omega, by have := hn.out; unfold Lim; omega, ?_, fun x hx => hl x (List.mem_of_mem_drop hx)⟩
 have h1 := (hr.drop hk hc).grown (only_set (only_refl b w) 0 (.slice (cutAt A c k) (n - k) (c - k))) hb (by decide)
 rw [<- bv_drop] at h1
 exact h1
theorem rdr_cuts {w : World} {b n c k : Nat} {A : Option Addr} {s : Pk.St} (hb : Blk w b 76 #[.slice A n c, .bool s.isNone]) (hc : n <= c) (hm : c <= maxLen) (hn : Lim 40 n) (hr : RdT w 5 A n (bv (s.getD []))) (hl : ∀ x ∈ s.getD [], x < 256) (hk : k <= n) :
 RdrAt (w.setCell ⟨b, 0, none⟩ (.slice (cutAt A c k) (n - k) (c - k))) b (s.map (List.drop k)) := by
 cases s with
 | some l => exact rdr_cut hb hc hm hn hr hl hk
 | none =>
   refine ⟨cutAt A c k, n - k, c - k, hb.set_ 0 _, by omega, by omega, by have := hn.out; unfold Lim; omega, ?_, fun x hx => by cases hx⟩
   have h0 : n = 0 := by have := hr.rd.length; simpa using this.symm
   subst h0
   rw [Nat.zero_sub]
   exact RdT.none_ _ _ _
def NumP (w : World) (b : Nat) (v : Nat) (s : Pk.St) (e : Ending) (w' : World) : Prop := e = .returned (.int .i64 (v : Int)) /\ RdrAt w' b s /\ Only b w w'
set_option maxRecDepth 100000 in
theorem rnum_any (w : World) (b : Nat) (s : Pk.St) (most : Int) (h : RdrAt w b s) :
 Calls Tryz.prog 43 #[.pointer (some ⟨b, 0, none⟩), .int .i64 most] w (NumP w b (Pk.numV s most) (Pk.numS s most)) := by
 have HR := hD h
 obtain ⟨A, n, c, hblk, h2, h3, h4, h5, h6⟩ := h
 have hc0 : w.cell? ⟨b, 0, none⟩ = some (.slice A n c) := hblk.cell 0
 have hf0 := hblk.frozen 0
 obtain ⟨v, sz, hf⟩ : ∃ v sz, Pk.first (s.getD []) = (v, sz) := ⟨_, _, rfl⟩
 have hsz := Pk.first_size (s.getD [])
 have hlen := h5.rd.length
 rw [hf] at hsz
 have hszn : sz <= n := by have := hsz.1; simp only at this; omega
 have HB := hD hblk
 have HT := hD h5
 have HL := hD h6
 have HF := hD hf
 have HM := hD h3
 clear hblk h5 h6 hlen hsz hf h3
 have hcall := hD (first_is HF.out A n c w.heap.size HL.out h2 (by have := h4.out; unfold Lim; omega) w HT.out.rd)
 by_cases hz : sz = 0
 · have HN := hD (show Pk.numN s most = none by
    cases s with
    | none => rfl
    | some l => have := HF.out; simp only [Option.getD_some] at this; simp [Pk.numN, Pk.rNum, this, hz])
   subst hz
   go_enter Tryz.func43, Tryz.ntmps43
   go_wp2_with fail
   refine hcall.out.mono ?_
   rintro e w' ⟨rfl, rfl⟩
   go_wp2_with fail
   refine (fail_any w b s HR.out).mono ?_
   rintro e w' ⟨rfl, hr1, ho1⟩
   go_wp2
   go_ret
   unfold NumP Pk.numV Pk.numS
   rw [HN.out]
   exact ⟨rfl, hr1, ho1⟩
 · obtain ⟨l, rfl⟩ : ∃ l, s = some l := by
    cases s with
    | none => exfalso; apply hz; have := HF.out; simp [Pk.first, Pk.dec] at this; omega
    | some l => exact ⟨l, rfl⟩
   have hzi : ((sz : Int) == 0) = false := by simp; omega
   by_cases hm : Pk.held most < v
   · have HN := hD (show Pk.numN (some l) most = none by
      have := HF.out; simp only [Option.getD_some] at this; simp [Pk.numN, Pk.rNum, this, hm])
     go_enter Tryz.func43, Tryz.ntmps43
     go_wp2_with fail
     refine hcall.out.mono ?_
     rintro e w' ⟨rfl, rfl⟩
     go_wp2_with (go_at_call 124; refine (held_any _ _).mono ?_; rintro e w' ⟨rfl, rfl⟩)
     refine (fail_any w b _ HR.out).mono ?_
     rintro e w' ⟨rfl, hr1, ho1⟩
     go_wp2
     go_ret
     unfold NumP Pk.numV Pk.numS
     rw [HN.out]
     exact ⟨rfl, hr1, ho1⟩
   · have HN := hD (show Pk.numN (some l) most = some (v, l.drop sz) by
      have := HF.out; simp only [Option.getD_some] at this; simp [Pk.numN, Pk.rNum, this, hm, hz])
     obtain ⟨i, hi1, hi2, hi3, hi4⟩ := info_parts byteT.info
     have hsl := run_slice_from (P := Tryz.prog) (t := 24) byteT.under hi1 hi3 A n c sz hszn
     clear hi1 hi2 hi3 hi4 hz
     go_enter Tryz.func43, Tryz.ntmps43
     go_wp2_with fail
     refine hcall.out.mono ?_
     rintro e w' ⟨rfl, rfl⟩
     go_wp2_with (go_at_call 124; refine (held_any _ _).mono ?_; rintro e w' ⟨rfl, rfl⟩)
     go_ret
     unfold NumP Pk.numV Pk.numS
     rw [HN.out]
     exact ⟨rfl, rdr_cut HB.out h2 HM.out h4 HT.out HL.out hszn, only_set (only_refl b w) 0 _⟩
def BytP (W : World) (b : Nat) (vs : List Nat) (s : Pk.St) (e : Ending) (w' : World) : Prop := ∃ A n c, e = .returned (.slice A n c) /\ OwnB W w' A n c vs /\ RdrAt w' b s /\ Only b W w'
theorem own_only {W w w' : World} {A : Option Addr} {n c b : Nat} {l : List Nat} (h : OwnB W w A n c l) (ho : Only b w w') (hb : b < W.heap.size) : OwnB W w' A n c l :=
 h.kept ho (by
  rcases he : (Value.slice A n c).ownBlock with _ | k
  · exact .inl rfl
  · right
    intro h2
    injection h2 with h2
    have := (h.lt k he).1
    omega)
theorem own_base {W W' w : World} {A : Option Addr} {n c : Nat} {l : List Nat} (h : OwnB W' w A n c l) (hs : W.heap.size <= W'.heap.size) : OwnB W w A n c l := by
 obtain ⟨h1, h2⟩ := h
 refine ⟨h1, ?_⟩
 rcases h2 with h2 | ⟨g, cap, cur, hv, hb, r⟩
 · exact .inl h2
 · exact .inr ⟨g, cap, cur, hv, by omega, r⟩
set_option maxRecDepth 100000 in
theorem rbytes_any (w : World) (b : Nat) (s : Pk.St) (most : Int) (h : RdrAt w b s) :
 Calls Tryz.prog 44 #[.pointer (some ⟨b, 0, none⟩), .int .i64 most] w (BytP w b (Pk.bytV s most) (Pk.bytS s most)) := by
 have hbl := h.lt
 have hcall := hD (rnum_any w b s most h)
 clear h
 by_cases hv : ((Pk.numS s most).getD []).length < Pk.numV s most
 · obtain ⟨hb1, hb2⟩ := Pk.byt_no hv
   rw [hb1, hb2]
   clear hb1 hb2
   go_enter Tryz.func44, Tryz.ntmps44
   go_wp2_with fail
   refine hcall.out.mono ?_
   rintro e w1 ⟨rfl, hr1, ho1⟩
   have HR := hD hr1
   obtain ⟨A, n, c, hblk, h2, h3, h4, h5, h6⟩ := hr1
   have hc0 : w1.cell? ⟨b, 0, none⟩ = some (.slice A n c) := hblk.cell 0
   have hlt : n < Pk.numV s most := by have := h5.rd.length; omega
   clear hblk h5 h6 hv h3
   go_wp2_with fail
   refine (fail_any w1 b _ HR.out).mono ?_
   rintro e w2 ⟨rfl, hr2, ho2⟩
   go_wp2
   go_ret
   exact ⟨none, 0, 0, rfl, World.ownsRow_nil _ _ _ _, hr2, only_trans ho1 ho2⟩
 · obtain ⟨hb1, hb2⟩ := Pk.byt_of hv
   have HB1 := hD hb1
   have HB2 := hD hb2
   clear hb1 hb2
   go_enter Tryz.func44, Tryz.ntmps44
   go_wp2_with fail
   refine hcall.out.mono ?_
   rintro e w1 ⟨rfl, hr1, ho1⟩
   obtain ⟨A, n, c, hblk, h2, h3, h4, h5, h6⟩ := hr1
   have hc0 : w1.cell? ⟨b, 0, none⟩ = some (.slice A n c) := hblk.cell 0
   have hlt : Pk.numV s most <= n := by have := h5.rd.length; omega
   have hltc : Pk.numV s most <= c := by omega
   have HT := hD h5
   have HB := hD hblk
   have HL := hD h6
   have HM := hD h3
   obtain ⟨i, hi1, hi2, hi3, hi4⟩ := info_parts byteT.info
   have hs1 := run_slice_from (P := Tryz.prog) (t := 24) byteT.under hi1 hi3 A n c (Pk.numV s most) hlt
   have hs2 := run_slice_to (P := Tryz.prog) (t := 24) byteT.under hi1 A n c (Pk.numV s most) hltc
   clear hblk h5 h6 hv h3 hi1 hi2 hi3 hi4
   go_wp2_with fail
   refine (withRoom_any (((Pk.numS s most).getD []).take (Pk.numV s most)) A (Pk.numV s most) c w1.heap.size 0 (by have := h4.out; unfold Lim; omega) (by omega) (by omega) _ (by rw [bv_take]; exact (HT.out.take hlt).rd)).mono ?_
   rintro e w2 ⟨A2, n2, c2, rfl, hown2, hB2⟩
   have hb2 := HB.out.below hB2
   have hc1 : w2.cell? ⟨b, 0, none⟩ = some (.slice A n c) := hb2.cell 0
   have hf1 := hb2.frozen 0
   have HB3 := hD hb2
   clear hc0 hb2
   go_wp2
   go_ret
   unfold BytP
   rw [HB1.out, HB2.out]
   have ho2 := only_set (only_below ho1 hB2 ho1.size) 0 (.slice (cutAt A c (Pk.numV s most)) (n - Pk.numV s most) (c - Pk.numV s most))
   exact ⟨A2, n2, c2, rfl, own_only (own_base hown2 ho1.size) (only_set (only_refl b w2) 0 _) hbl, rdr_cuts HB3.out h2 HM.out h4 (HT.out.below hB2) HL.out hlt, ho2⟩
theorem ok_any (w : World) (b : Nat) (s : Pk.St) (h : RdrAt w b s) :
 Calls Tryz.prog 17 #[.pointer (some ⟨b, 0, none⟩)] w fun e w' => e = .returned (.bool s.isSome) /\ w = w' := by
 obtain ⟨A, n, c, hblk, h2, h3, h4, h5, h6⟩ := h
 have hc1 : w.cell? ⟨b, 1, none⟩ = some (.bool s.isNone) := hblk.cell 1
 clear hblk h2 h3 h4 h5 h6
 cases s with
 | none =>
   go_enter Tryz.func17, Tryz.ntmps17
   go_wp2
   go_ret
   exact ⟨rfl, rfl⟩
 | some l =>
   go_enter Tryz.func17, Tryz.ntmps17
   go_wp2
   go_ret
   exact ⟨rfl, rfl⟩
def Pk.endOf (s : Pk.St) : Bool := decide (s = some [])
theorem end_any (w : World) (b : Nat) (s : Pk.St) (h : RdrAt w b s) :
 Calls Tryz.prog 55 #[.pointer (some ⟨b, 0, none⟩)] w fun e w' => e = .returned (.bool (Pk.endOf s)) /\ w = w' := by
 have HK := hD (ok_any w b s h)
 obtain ⟨A, n, c, hblk, h2, h3, h4, h5, h6⟩ := h
 have hc0 : w.cell? ⟨b, 0, none⟩ = some (.slice A n c) := hblk.cell 0
 have hlen := h5.rd.length
 clear hblk h2 h3 h4 h5 h6
 rcases s with _ | l
 · clear hlen
   go_enter Tryz.func55, Tryz.ntmps55
   go_wp2_with fail
   refine HK.out.mono ?_
   rintro e w1 ⟨rfl, rfl⟩
   go_wp2
   go_ret
   exact ⟨rfl, rfl⟩
 · obtain ⟨d, hd1, hd2⟩ : ∃ d : Bool, ((n : Int) == 0) = d /\ Pk.endOf (some l) = d := by
    refine ⟨_, rfl, ?_⟩
    have hl : l.length = n := hlen
    unfold Pk.endOf
    rw [Bool.eq_iff_iff]
    cases l with
    | nil => simp at hl; simp; omega
    | cons x l => simp at hl; simp; omega
   have HD := hD hd2
   clear hlen hd2
   cases d
   all_goals
    go_enter Tryz.func55, Tryz.ntmps55
    go_wp2_with fail
    refine HK.out.mono ?_
    rintro e w1 ⟨rfl, rfl⟩
    go_wp2
    go_ret
    exact ⟨by rw [HD.out]; rfl, rfl⟩
theorem rnum_is (w : World) (b : Nat) (s : Pk.St) (most : Int) (h : RdrAt w b s) (v : Nat) (s' : Pk.St) (hv : Pk.numV s most = v) (hs : Pk.numS s most = s') :
 Calls Tryz.prog 43 #[.pointer (some ⟨b, 0, none⟩), .int .i64 most] w (NumP w b v s') := by
 subst hv hs; exact rnum_any w b s most h
theorem rbytes_is (w : World) (b : Nat) (s : Pk.St) (most : Int) (h : RdrAt w b s) (v : List Nat) (s' : Pk.St) (hv : Pk.bytV s most = v) (hs : Pk.bytS s most = s') :
 Calls Tryz.prog 44 #[.pointer (some ⟨b, 0, none⟩), .int .i64 most] w (BytP w b v s') := by
 subst hv hs; exact rbytes_any w b s most h
theorem RdrAt.blk {w : World} {b : Nat} {s : Pk.St} (h : RdrAt w b s) : ∃ cs, Blk w b 76 cs := by
 obtain ⟨A, n, c, h1, _⟩ := h
 exact ⟨_, h1⟩
theorem read_in {W w : World} {l : List Nat} {A : Option Addr} {n c B : Nat} (hn : Lim 40 n) (hl : ∀ x ∈ l, x < 256) (hr : Rd w B A n (bv l)) (hB : Below W.heap.size W w) :
 Calls Tryz.prog 12 #[.slice A n c] w fun e w' => ∃ b, e = .returned (.pointer (some ⟨b, 0, none⟩)) /\ RdrAt w' b (some l) /\ W.heap.size <= b /\ w.heap.size <= b /\ Below W.heap.size W w' /\ Below w.heap.size w w' :=
 (readP_any l A n c B hn hl w hr).mono fun e w' ⟨b, h1, h2, h3, h4⟩ => ⟨b, h1, h2, Nat.le_trans hB.size h3, h3, hB.trans (h4.mono hB.size), h4⟩
theorem put_in {W w : World} {l l' : List Nat} {A : Option Addr} {n c B : Nat} {N : Int} (hn : Lim 20 n) (hr : Rd w B A n (bv l)) (hB : Below W.heap.size W w) (he : l ++ Pk.enc (Pk.held N) = l') :
 Calls Tryz.prog 121 #[.slice A n c, .int .i64 N] w fun e w' => ∃ A n c, e = .returned (.slice A n c) /\ OwnB W w' A n c l' /\ Below W.heap.size W w' /\ Below w.heap.size w w' := by
 subst he
 refine (num_any l A n c B N hn w hr).mono ?_
 rintro e w' ⟨A, n, c, h1, h2, h3⟩
 exact ⟨A, n, c, h1, own_base h2 hB.size, hB.trans (h3.mono hB.size), h3⟩
theorem putb_in {W w : World} {l x l' : List Nat} {A : Option Addr} {n c B : Nat} {A' : Option Addr} {n' c' B' : Nat} (hr : Rd w B A n (bv l)) (hr' : Rd w B' A' n' (bv x)) (hn : Lim 20 (l.length + x.length)) (hB : Below W.heap.size W w) (he : l ++ Pk.encB x = l') :
 Calls Tryz.prog 122 #[.slice A n c, .slice A' n' c'] w fun e w' => ∃ A n c, e = .returned (.slice A n c) /\ OwnB W w' A n c l' /\ Below W.heap.size W w' /\ Below w.heap.size w w' := by
 subst he
 have h1 := hr.length
 have h2 := hr'.length
 have h3 := hn.out
 refine (bytes_any l x A n c B A' n' c' B' (by unfold Lim; omega) (by unfold Lim; omega) (by unfold Lim; omega) w hr hr').mono ?_
 rintro e w' ⟨A, n, c, h1, h2, h3⟩
 exact ⟨A, n, c, h1, own_base h2 hB.size, hB.trans (h3.mono hB.size), h3⟩
theorem ref_byte {m : Nat} : bits .or .i64 ((m : Int) % 128) 128 % 256 = ((m % 128 + 128 : Nat) : Int) := by
 have h1 : bits .or .i64 ((m : Int) % 128) 128 = ((m % 128 ||| 128 : Nat) : Int) := by
  have := i64_or_nat (m % 128) 128 (by omega) (by omega)
  simpa using this
 rw [h1, Nat.or_comm, nat_join 7 128 (m % 128) (by decide) (by omega)]
 omega
theorem i64_and_127 (n : Int) : bits .and .i64 n 127 = n % 128 := by
 show IntKind.i64.wrap ((BitVec.ofInt 64 n &&& BitVec.ofInt 64 127).toNat : Int) = _
 have e : (BitVec.ofInt 64 n &&& BitVec.ofInt 64 127).toNat = (n % 128).toNat := by
  rw [BitVec.toNat_and]
  have h1 : (BitVec.ofInt 64 127).toNat = 2 ^ 7 - 1 := by decide
  rw [h1, Nat.and_two_pow_sub_one_eq_mod, BitVec.toNat_ofInt]
  omega
 rw [e, IntKind.wrap_i64]
 omega
set_option maxRecDepth 100000 in
theorem refnum_any (l : List Nat) (A : Option Addr) (n c B : Nat) (N : Int) (hn : Lim 20 n) (w : World) (hr : Rd w B A n (bv l)) :
 Calls Tryz.prog 37 #[.slice A n c, .int .i64 N] w (GotB w (l ++ Pk.enc (Pk.held N))) := by
 have hT : PutT (Pk.held N) := Pk.held_le N
 have HL := hD (Pk.enc_length (Pk.held N))
 have HLn := hD hr.length
 have H := hD hr.fit
 have h1 := fun (w : World) ts t => run_max0 (P := Tryz.prog) w ts t N
 have h2 := fun (w : World) ts t => run_min_top (P := Tryz.prog) w ts t N
 have hB0 : Below w.heap.size w w := Below.refl _ _
 clear hr
 go_enter Tryz.func37, Tryz.ntmps37
 go_wp2_with (first
  | (at_builtin
     refine wpList_append_bytes (W := w) byteT (.tmp 6) (.tmp 7) rfl (by rfl) rfl (own_empty hB0 5) rfl ((H.out).alloc lR _) (by have := hn.out; omega) (hB0.alloc lR _) ?_
     intro A1 c1 w1 hown1 hr1 hB1
     simp only [Nat.zero_add, List.nil_append] at hown1 hr1)
  | fail)
 clear h1 h2 hr1
 go_loopw [1, 5] (fun s1 s5 wr => ∃ (m : Nat) (A' : Option Addr) (n' c' : Nat) (l' : List Nat), PutT m /\ s1 = .int .i64 m /\ s5 = .slice A' n' c' /\ OwnB w wr A' n' c' l' /\ Below w.heap.size w wr /\ Hid (l' ++ Pk.enc m = l ++ Pk.enc (Pk.held N)) /\ n' <= n + 9)
  (fun s1 _ _ => (intOf s1).toNat)
 case atStart => exact ⟨_, _, _, _, l, hT, rfl, rfl, hown1, hB1, hD rfl, by omega⟩
 case round =>
  obtain ⟨m, A', n', c', l', hm, rfl, rfl, hown, hB', hl, hn'⟩ := hrel
  have hm2 : (m : Int) <= 4611686018427387904 := by have : m <= Pk.top := hm; unfold Pk.top at this; omega
  have hm0 : (0 : Int) <= (m : Int) := by omega
  by_cases hlt : 128 <= m
  · have HE := hD (Pk.enc_big hlt hm)
    have hq : PutT (m / 128) := by have : m <= Pk.top := hm; exact Nat.le_trans (Nat.div_le_self _ _) this
    have HB := hD (Pk.enc_length (m / 128))
    have e127 := i64_and_127 (m : Int)
    go_wp2_with (first
     | (at_builtin
        refine wpList_append_bytes (W := w) byteT (.tmp 14) (.tmp 19) rfl (by rfl) rfl (hown.alloc _) rfl (Rd.oneI wr (x := m % 128 + 128) ref_byte 5) (by have := hn.out; omega) (hB'.alloc hB'.size _) ?_
        intro A2 c2 w2 hown2 hr2 hB2)
     | fail)
    go_roundw
    case rel =>
     have HL' := hD (congrArg List.length hl.out)
     refine ⟨m / 128, A2, n' + 1, c2, l' ++ [m % 128 + 128], hq, by go_num, rfl, hown2, hB2, hD ?_, ?_⟩
     · have := hl.out
       rw [HE.out] at this
       rw [<- this, List.append_assoc]; rfl
     · have h1 := HL'.out
       have h2 := HL.out
       have h3 := own_len hown
       have h4 := HLn.out
       have h5 := HB.out
       rw [HE.out] at h1
       simp only [List.length_append, List.length_cons] at h1
       omega
    case measure => simp [intOf]; omega
  · have HE := hD (Pk.enc_small (n := m) (by omega))
    have hi : (m : Int) < 128 := by omega
    go_wp2_with (first
     | (at_builtin
        refine wpList_append_bytes (W := w) byteT (.tmp 23) (.tmp 26) rfl (by rfl) rfl (hown.alloc _) rfl (Rd.oneI wr (x := m) (by omega) 5) (by have := hn.out; omega) (hB'.alloc hB'.size _) ?_
        intro A2 c2 w2 hown2 hr2 hB2)
     | fail)
    go_ret
    have h1 := hl.out
    rw [HE.out] at h1
    rw [h1] at hown2
    exact ⟨_, _, _, rfl, hown2, hB2⟩
theorem refbytes_any (l x : List Nat) (A : Option Addr) (n c B : Nat) (A' : Option Addr) (n' c' B' : Nat) (hn : Lim 20 n) (hn' : Lim 20 n') (hs : Lim 20 (n + n')) (w : World) (hr : Rd w B A n (bv l)) (hr' : Rd w B' A' n' (bv x)) :
 Calls Tryz.prog 38 #[.slice A n c, .slice A' n' c'] w (GotB w (l ++ Pk.encB x)) := by
 have HL := hD hr.length
 have HX := hD hr'.length
 have H := hD hr
 have H' := hD hr'.fit
 have HE := hD (Pk.enc_length n')
 have HD := hD (held_len hn')
 clear hr hr'
 go_enter Tryz.func38, Tryz.ntmps38
 go_wp2_with fail
 refine (refnum_any l A n c B n' hn _ H.out).mono ?_
 rintro e w2 ⟨A2, n2, c2, rfl, hown2, hB2⟩
 have HN2 := hD (own_len hown2)
 go_wp2_with (first
  | (at_builtin
     refine wpList_append_bytes (W := w) byteT (.tmp 8) (.tmp 9) rfl (by rfl) rfl hown2 rfl (H'.out.below hB2) (by
      have h1 := HN2.out; have h3 := HL.out; have h4 := HE.out; have h5 := hs.out
      rw [HD.out, List.length_append] at h1; omega) hB2 ?_
     intro A3 c3 w3 hown3 hr3 hB3)
  | fail)
 go_ret
 refine ⟨_, _, _, rfl, ?_, hB3⟩
 have h6 := hown3
 rw [HD.out] at h6
 unfold Pk.encB
 rw [HX.out, <- List.append_assoc]
 exact h6
def RefAt (w : World) (B b : Nat) (s : Pk.St) : Prop := ∃ A n c, Blk w b 49 #[.slice A n c, .bool s.isNone] /\ n <= c /\ c <= maxLen /\ Lim 40 n /\ B <= b /\ ∀ l, s = some l -> Rd w B A n (bv l) /\ ∀ x ∈ l, x < 256
theorem RefAt.lt {w : World} {B b : Nat} {s : Pk.St} (h : RefAt w B b s) : b < w.heap.size := by
 obtain ⟨A, n, c, h1, _⟩ := h
 exact h1.lt
theorem RefAt.below {w w' : World} {B b : Nat} {s : Pk.St} (h : RefAt w B b s) (hb : Below w.heap.size w w') : RefAt w' B b s := by
 have hlt := h.lt
 obtain ⟨A, n, c, h1, h2, h3, h4, h5, h6⟩ := h
 exact ⟨A, n, c, h1.below hb, h2, h3, h4, h5, fun l hl => ⟨(h6 l hl).1.keep (fun p hp => hb.cell (by omega)) lR, (h6 l hl).2⟩⟩
theorem RefAt.only {w w' : World} {B b b' : Nat} {s : Pk.St} (h : RefAt w B b s) (ho : Only b' w w') (hB : B <= b') (hne : b ≠ b') : RefAt w' B b s := by
 have hlt := h.lt
 obtain ⟨A, n, c, h1, h2, h3, h4, h5, h6⟩ := h
 exact ⟨A, n, c, h1.grown ho (by intro he; injection he with he; exact hne he), h2, h3, h4, h5, fun l hl => ⟨(h6 l hl).1.grown ho hB (by omega), (h6 l hl).2⟩⟩
theorem ref_set {w : World} {b n c n' c' : Nat} {A A' : Option Addr} {f g : Bool} (hb : Blk w b 49 #[.slice A n c, .bool f]) : Blk ((w.setCell ⟨b, 1, none⟩ (.bool g)).setCell ⟨b, 0, none⟩ (.slice A' n' c')) b 49 #[.slice A' n' c', .bool g] := (hb.set_ 1 (.bool g)).set_ 0 (.slice A' n' c')
theorem u8_and_127 {x : Nat} (h : x < 256) : bits .and .u8 (x : Int) 127 = (x : Int) % 128 := by
 have := u8_and_nat x 127 h (by decide)
 rw [nat_mask7] at this
 exact this
theorem or_group64 {k acc x : Nat} (hk : k < 9) (ha : acc < 128 ^ k) (hx : x < 256) :
 bits .or .u64 (acc : Int) (IntKind.u64.wrap ((x : Int) % 128 * 2 ^ (7 * k))) = ((acc + x % 128 * 128 ^ k : Nat) : Int) := by
 have e128 : (128 : Nat) ^ k = 2 ^ (7 * k) := by rw [Nat.pow_mul]
 have hp : (128 : Nat) ^ k <= 128 ^ 8 := Nat.pow_le_pow_right (by omega) (by omega)
 have hm : x % 128 * 128 ^ k <= 127 * 128 ^ k := Nat.mul_le_mul_right _ (by omega)
 have e1 : ((x : Int) % 128 * 2 ^ (7 * k)) = ((x % 128 * 128 ^ k : Nat) : Int) := by rw [e128]; simp
 have e2 : IntKind.u64.wrap ((x : Int) % 128 * 2 ^ (7 * k)) = ((x % 128 * 128 ^ k : Nat) : Int) := by
  rw [e1]
  refine IntWalk.u64_in _ ?_
  generalize x % 128 * 128 ^ k = q at hm
  omega
 rw [e2, u64_or_nat _ _ (by omega) (by omega), Nat.or_comm, nat_join (7 * k) _ _ (by rw [e128]; exact Nat.mul_mod_left _ _) (by rw [<- e128]; exact ha), Nat.add_comm]
theorem ref_bad {w : World} {B b n c : Nat} {A : Option Addr} {f : Bool} (hb : Blk w b 49 #[.slice A n c, .bool f]) (h2 : n <= c) (h3 : c <= maxLen) (h4 : Lim 40 n) (h5 : B <= b) :
 RefAt (w.setCell ⟨b, 1, none⟩ (.bool true)) B b none := ⟨A, n, c, hb.set_ 1 (.bool true), h2, h3, h4, h5, fun l hl => by cases hl⟩
theorem ref_cut {w : World} {B b n c k : Nat} {A : Option Addr} {l : List Nat} (hb : Blk w b 49 #[.slice A n c, .bool false]) (h2 : n <= c) (h3 : c <= maxLen) (h4 : Lim 40 n) (h5 : B <= b) (hr : Rd w B A n (bv l)) (hl : ∀ x ∈ l, x < 256) (hk : k <= n) :
 RefAt (w.setCell ⟨b, 0, none⟩ (.slice (cutAt A c k) (n - k) (c - k))) B b (some (l.drop k)) := by
 refine ⟨cutAt A c k, n - k, c - k, hb.set_ 0 _, by omega, by omega, by have := h4.out; unfold Lim; omega, h5, fun l' hl' => ?_⟩
 injection hl' with hl'
 subst hl'
 have h6 := (hr.drop hk h2).keep (w' := w.setCell ⟨b, 0, none⟩ (.slice (cutAt A c k) (n - k) (c - k))) (fun p hp => World.cell?_setCell_other w _ p _ (fun e => by subst e; simp at hp; omega)) lR
 rw [<- bv_drop] at h6
 exact ⟨h6, fun x hx => hl x (List.mem_of_mem_drop hx)⟩
def RefNumP (w : World) (B b : Nat) (v : Nat) (s : Pk.St) (e : Ending) (w' : World) : Prop := e = .returned (.int .i64 (v : Int)) /\ RefAt w' B b s /\ Only b w w' /\ w'.heap.size = w.heap.size
set_option maxHeartbeats 2000000 in
set_option maxRecDepth 100000 in
theorem refrnum_any (w : World) (B b : Nat) (s : Pk.St) (most : Int) (h : RefAt w B b s) :
 Calls Tryz.prog 45 #[.pointer (some ⟨b, 0, none⟩), .int .i64 most] w (RefNumP w B b (Pk.numV s most) (Pk.numS s most)) := by
 have HR := hD h
 obtain ⟨A, n, c, hblk, h2, h3, h4, h5, h6⟩ := h
 have hc0 : w.cell? ⟨b, 0, none⟩ = some (.slice A n c) := hblk.cell 0
 have hc1 : w.cell? ⟨b, 1, none⟩ = some (.bool s.isNone) := hblk.cell 1
 have hf0 := hblk.frozen 0
 have hf1 := hblk.frozen 1
 have HB := hD hblk
 have HM := hD h3
 rcases s with _ | l
 · clear hblk h6 h3
   go_enter Tryz.func45, Tryz.ntmps45
   go_wp2_with fail
   go_loop [5, 6] (fun _ s6 => s6 = .int .i64 0) (fun _ i => 0)
   case atStart => rfl
   case round =>
    subst hrel
    go_wp2
    go_ret
    exact ⟨rfl, HR.out, only_refl b w, rfl⟩
 · obtain ⟨hrd, hl⟩ := h6 l rfl
   have HL := hD hrd.length
   have HX := hD hl
   have H := hD hrd
   have hm1 := fun (w : World) ts t => run_max0 (P := Tryz.prog) w ts t most
   have hm2 := fun (w : World) ts t => run_min_top (P := Tryz.prog) w ts t most
   clear hblk h6 hrd hl h3
   go_enter Tryz.func45, Tryz.ntmps45
   go_wp2_with fail
   go_loop [5, 6] (fun s5 s6 => ∃ k acc : Nat, k <= n /\ k <= 9 /\ s6 = .int .i64 k /\ s5 = .int .u64 acc /\ Hid (Pk.dec k acc (l.drop k) = Pk.first l /\ acc < 128 ^ k)) (fun _ i => 9 - (intOf i).toNat)
   case atStart => exact ⟨0, 0, by omega, by omega, rfl, rfl, hD ⟨rfl, by simp⟩⟩
   case round =>
    obtain ⟨k, acc, hk, hk9, rfl, rfl, hd⟩ := hrel
    by_cases hlt : k < n /\ k < 9
    · obtain ⟨hkn, hk8⟩ := hlt
      have hkl : k < l.length := by have := HL.out; omega
      obtain ⟨b', o, rfl, hk', hcell⟩ := H.out.bytes_at hkn
      obtain ⟨x, hxe⟩ : ∃ x, x = l[k] := ⟨_, rfl⟩
      have hx : x < 256 := by rw [hxe]; exact HX.out _ (List.getElem_mem hkl)
      rw [<- hxe] at hcell
      have HE := hD hxe
      have e127 := u8_and_127 hx
      have hk0 : (0 : Int) <= (k : Int) := by omega
      have hkn' : (k : Int) < (n : Int) := by omega
      clear hxe
      by_cases hbig : 128 <= x
      · have HD := hD (show Pk.dec k acc (l.drop k) = Pk.dec (k + 1) (acc + x % 128 * 128 ^ k) (l.drop (k + 1)) by
         rw [List.drop_eq_getElem_cons hkl, <- HE.out]
         simp only [Pk.dec]
         rw [if_neg (by omega), if_pos hbig])
        go_wp2
        go_round
        case rel =>
         refine ⟨k + 1, acc + x % 128 * 128 ^ k, by omega, by omega, by go_num, by rw [or_group64 (by omega) hd.out.2 hx], hD ⟨?_, ?_⟩⟩
         · rw [<- HD.out]; exact hd.out.1
         · have h1 := hd.out.2
           have h2 : 128 ^ (k + 1) = 128 * 128 ^ k := by rw [Nat.pow_succ, Nat.mul_comm]
           have h3 : x % 128 * 128 ^ k <= 127 * 128 ^ k := Nat.mul_le_mul_right _ (by omega)
           omega
        case measure => simp [intOf]; omega
      · obtain ⟨v, hv⟩ : ∃ v, v = acc + x * 128 ^ k := ⟨_, rfl⟩
        have he : bits .or .u64 (acc : Int) (IntKind.u64.wrap ((x : Int) % 128 * 2 ^ (7 * k))) = (v : Int) := by
         rw [or_group64 (by omega) hd.out.2 hx, hv, show x % 128 = x by omega]
        have hheld : ((Pk.held most : Nat) : Int) <= 4611686018427387904 := by have := Pk.held_le most; unfold Pk.top at this; omega
        have hheld0 : (0 : Int) <= ((Pk.held most : Nat) : Int) := by omega
        by_cases hz : x = 0 /\ 0 < k
        · have HN := hD (show Pk.numN (some l) most = none by
           have h1 : Pk.first l = (0, 0) := by
            rw [<- hd.out.1, List.drop_eq_getElem_cons hkl, <- HE.out]
            simp only [Pk.dec]
            rw [if_neg (by omega), if_neg hbig, if_pos hz]
           simp [Pk.numN, Pk.rNum, h1])
          have hz0 : ((x : Int) == 0) = true := by simp; omega
          have hk1 : (1 : Int) < (k : Int) + 1 := by omega
          clear hv hz hd
          go_wp2
          go_ret
          unfold RefNumP Pk.numV Pk.numS
          rw [HN.out]
          exact ⟨rfl, ref_bad HB.out h2 HM.out h4 h5, only_set (only_refl b w) 1 _, by simp [World.setCell]⟩
        · have hF : Pk.first l = (v, k + 1) := by
           rw [<- hd.out.1, List.drop_eq_getElem_cons hkl, <- HE.out]
           simp only [Pk.dec]
           rw [if_neg (by omega), if_neg hbig, if_neg hz, hv]
          have hvb : (v : Int) <= 9223372036854775807 := by have := Pk.first_lt l; rw [hF] at this; simp only at this; omega
          have HF := hD hF
          clear hF hv hd
          obtain ⟨d, hzd, hkd⟩ : ∃ d : Bool, ((x : Int) == 0) = d /\ (d = true -> ¬ (1 : Int) < (k : Int) + 1) := by
           by_cases h0 : x = 0
           · exact ⟨true, by simp; omega, fun _ => by omega⟩
           · exact ⟨false, by simp; omega, fun h => by cases h⟩
          have HKD := hD hkd
          have hz := hz
          clear hz hkd
          by_cases hm : Pk.held most < v
          · have HN := hD (show Pk.numN (some l) most = none by simp [Pk.numN, Pk.rNum, HF.out, hm])
            cases d
            case' true => have hk1 := HKD.out rfl
            all_goals
             go_wp2
             go_ret
             unfold RefNumP Pk.numV Pk.numS
             rw [HN.out]
             exact ⟨rfl, ref_bad HB.out h2 HM.out h4 h5, only_set (only_refl b w) 1 _, by simp [World.setCell]⟩
          · have HN := hD (show Pk.numN (some l) most = some (v, l.drop (k + 1)) by simp [Pk.numN, Pk.rNum, HF.out, hm])
            obtain ⟨i, hi1, hi2, hi3, hi4⟩ := info_parts byteT.info
            have hsl := run_slice_from (P := Tryz.prog) (t := 24) byteT.under hi1 hi3 (some ⟨b', o, none⟩) n c (k + 1) (by omega)
            have hsl' : ∀ w : World, (Instr.slice 24 (.slice (some ⟨b', o, none⟩) n c) (some (.int .i64 ((k : Int) + 1))) none none).run Tryz.prog w = .ok (.slice (cutAt (some ⟨b', o, none⟩) c (k + 1)) (n - (k + 1)) (c - (k + 1))) w := by
             intro w; have := hsl w; simpa using this
            have hkn1 : (k : Int) + 1 <= (n : Int) := by omega
            clear hsl hi1 hi2 hi3 hi4
            cases d
            case' true => have hk1 := HKD.out rfl
            all_goals
             go_wp2
             go_ret
             unfold RefNumP Pk.numV Pk.numS
             rw [HN.out]
             exact ⟨rfl, ref_cut HB.out h2 HM.out h4 h5 H.out HX.out (by omega), only_set (only_refl b w) 0 _, by simp [World.setCell]⟩
    · have HN := hD (show Pk.numN (some l) most = none by
       have h1 : Pk.first l = (0, 0) := by
        rw [<- hd.out.1]
        rcases Nat.lt_or_ge k l.length with h2 | h2
        · rw [List.drop_eq_getElem_cons h2]
          simp only [Pk.dec]
          rw [if_pos (by have := HL.out; omega)]
        · rw [List.drop_of_length_le h2]; rfl
       simp [Pk.numN, Pk.rNum, h1])
      clear hd
      by_cases hkn : k < n
      · have hk8 : (8 : Int) < (k : Int) := by omega
        go_wp2
        go_ret
        unfold RefNumP Pk.numV Pk.numS
        rw [HN.out]
        exact ⟨rfl, ref_bad HB.out h2 HM.out h4 h5, only_set (only_refl b w) 1 _, by simp [World.setCell]⟩
      · go_wp2
        go_ret
        unfold RefNumP Pk.numV Pk.numS
        rw [HN.out]
        exact ⟨rfl, ref_bad HB.out h2 HM.out h4 h5, only_set (only_refl b w) 1 _, by simp [World.setCell]⟩
def RefBytP (W : World) (B b : Nat) (vs : List Nat) (s : Pk.St) (e : Ending) (w' : World) : Prop := ∃ A n c, e = .returned (.slice A n c) /\ OwnB W w' A n c vs /\ RefAt w' B b s /\ Only b W w'
set_option maxHeartbeats 2000000 in
set_option maxRecDepth 100000 in
theorem refrbytes_any (w : World) (B b : Nat) (s : Pk.St) (most : Int) (h : RefAt w B b s) :
 Calls Tryz.prog 46 #[.pointer (some ⟨b, 0, none⟩), .int .i64 most] w (RefBytP w B b (Pk.bytV s most) (Pk.bytS s most)) := by
 have hbl := h.lt
 have hcall := hD (refrnum_any w B b s most h)
 obtain ⟨A0, n0, c0, hblk0, g2, g3, g4, g5, _⟩ := h
 have hc00 : w.cell? ⟨b, 0, none⟩ = some (.slice A0 n0 c0) := hblk0.cell 0
 have G3 := hD g3
 clear hblk0 g3
 by_cases hv : ((Pk.numS s most).getD []).length < Pk.numV s most \/ Pk.numS s most = none
 · obtain ⟨hb1, hb2⟩ : Pk.bytV s most = [] /\ Pk.bytS s most = none := by
    rcases hv with hv | hv
    · exact Pk.byt_no hv
    · unfold Pk.numS at hv
      have h0 : Pk.numN s most = none := by cases h : Pk.numN s most with
       | none => rfl
       | some p => rw [h] at hv; cases hv
      unfold Pk.bytV Pk.bytS Pk.bytN
      rw [h0]
      exact ⟨rfl, rfl⟩
   rw [hb1, hb2]
   clear hb1 hb2
   go_enter Tryz.func46, Tryz.ntmps46
   go_wp2_with fail
   refine hcall.out.mono ?_
   rintro e w1 ⟨rfl, hr1, ho1, hs1⟩
   obtain ⟨A, n, c, hblk, h2, h3, h4, h5, h6⟩ := hr1
   have hc0 : w1.cell? ⟨b, 0, none⟩ = some (.slice A n c) := hblk.cell 0
   have hc1 : w1.cell? ⟨b, 1, none⟩ = some (.bool (Pk.numS s most).isNone) := hblk.cell 1
   have hf0 := hblk.frozen 0
   have hf1 := hblk.frozen 1
   have HB := hD hblk
   have HO := hD ho1
   clear hblk h3 hc00 ho1 hs1
   rcases hq : Pk.numS s most with _ | l1
   · rw [hq] at hc1 hv HB
     clear hq h6 hv
     go_wp2
     go_ret
     exact ⟨none, 0, 0, rfl, World.ownsRow_nil _ _ _ _, ⟨A0, n0, c0, ref_set HB.out, g2, G3.out, g4, g5, fun l hl => by cases hl⟩, only_set (only_set HO.out 1 _) 0 _⟩
   · rw [hq] at hc1 hv HB
     have hlt : n < Pk.numV s most := by
      have := (h6 l1 hq).1.length
      rcases hv with hv | hv
      · have h9 : l1.length < Pk.numV s most := hv
        omega
      · cases hv
     clear hq h6 hv
     go_wp2
     go_ret
     exact ⟨none, 0, 0, rfl, World.ownsRow_nil _ _ _ _, ⟨A0, n0, c0, ref_set HB.out, g2, G3.out, g4, g5, fun l hl => by cases hl⟩, only_set (only_set HO.out 1 _) 0 _⟩
 · obtain ⟨l1, hq⟩ : ∃ l1, Pk.numS s most = some l1 := by
    cases h : Pk.numS s most with
    | none => exact absurd (Or.inr h) hv
    | some l1 => exact ⟨l1, rfl⟩
   have hv' : ¬ ((Pk.numS s most).getD []).length < Pk.numV s most := fun h => hv (Or.inl h)
   obtain ⟨hb1, hb2⟩ := Pk.byt_of hv'
   rw [hq] at hb1 hb2
   have HB1 := hD hb1
   have HB2 := hD hb2
   have HV := hD (show Pk.numV s most <= l1.length by rw [hq] at hv'; exact Nat.le_of_not_lt hv')
   have HQ := hD hq
   clear hb1 hb2 hv hv' hq
   go_enter Tryz.func46, Tryz.ntmps46
   go_wp2_with fail
   refine hcall.out.mono ?_
   rintro e w1 ⟨rfl, hr1, ho1, hs1⟩
   rw [HQ.out] at hr1
   obtain ⟨A, n, c, hblk, h2, h3, h4, h5, h6⟩ := hr1
   obtain ⟨hrd, hl⟩ := h6 l1 rfl
   have hc0 : w1.cell? ⟨b, 0, none⟩ = some (.slice A n c) := hblk.cell 0
   have hc1 : w1.cell? ⟨b, 1, none⟩ = some (.bool false) := hblk.cell 1
   have hlt : Pk.numV s most <= n := by have := hrd.length; have := HV.out; omega
   have hltc : Pk.numV s most <= c := by omega
   have HT := hD hrd
   have HB := hD hblk
   have HL := hD hl
   have HM := hD h3
   have HO := hD ho1
   have hB1 : Below w1.heap.size w1 w1 := Below.refl _ _
   have hca : ∀ o : Obj, (w1.alloc o).cell? ⟨b, 0, none⟩ = some (.slice A n c) := fun o => (HB.out.alloc o).cell 0
   obtain ⟨i, hi1, hi2, hi3, hi4⟩ := info_parts byteT.info
   have hs1' := run_slice_from (P := Tryz.prog) (t := 24) byteT.under hi1 hi3 A n c (Pk.numV s most) hlt
   have hs2 := run_slice_to (P := Tryz.prog) (t := 24) byteT.under hi1 A n c (Pk.numV s most) hltc
   clear hblk h3 hc00 ho1 hs1 hi1 hi2 hi3 hi4 hrd hl h6
   go_wp2_with (first
    | (at_builtin
       refine wpList_append_bytes (W := w1) (l := []) (l' := l1.take (Pk.numV s most)) byteT (.tmp 35) (.tmp 41) rfl (by rfl) rfl (own_empty hB1 5) rfl (((by rw [bv_take]; exact HT.out.take hlt) : Rd w1 B A (Pk.numV s most) (bv (l1.take (Pk.numV s most)))).fit.alloc lR _) (by have := h4.out; omega) (hB1.alloc lR _) ?_
       intro A2 c2 w2 hown2 hr2 hB2
       simp only [Nat.zero_add, List.nil_append] at hown2 hr2
       have hb2 := HB.out.below hB2
       have hc0' : w2.cell? ⟨b, 0, none⟩ = some (.slice A n c) := hb2.cell 0
       have hf0 := hb2.frozen 0
       have HB3 := hD hb2
       clear hb2)
    | fail)
   go_ret
   unfold RefBytP
   rw [HB1.out, HB2.out]
   have ho2 := only_set (only_below HO.out hB2 HO.out.size) 0 (.slice (cutAt A c (Pk.numV s most)) (n - Pk.numV s most) (c - Pk.numV s most))
   have HT2 : Rd w2 B A n (bv l1) := HT.out.keep (fun p hp => hB2.cell (by have := HB.out.lt; omega)) lR
   exact ⟨A2, _, c2, rfl, own_only (own_base hown2 HO.out.size) (only_set (only_refl b w2) 0 _) hbl, ref_cut HB3.out h2 HM.out h4 h5 HT2 HL.out hlt, ho2⟩
theorem refend_any (w : World) (B b : Nat) (s : Pk.St) (h : RefAt w B b s) :
 Calls Tryz.prog 61 #[.pointer (some ⟨b, 0, none⟩)] w fun e w' => e = .returned (.bool (Pk.endOf s)) /\ w = w' := by
 obtain ⟨A, n, c, hblk, h2, h3, h4, h5, h6⟩ := h
 have hc0 : w.cell? ⟨b, 0, none⟩ = some (.slice A n c) := hblk.cell 0
 have hc1 : w.cell? ⟨b, 1, none⟩ = some (.bool s.isNone) := hblk.cell 1
 rcases s with _ | l
 · clear hblk h2 h3 h4 h5 h6
   go_enter Tryz.func61, Tryz.ntmps61
   go_wp2
   go_ret
   exact ⟨rfl, rfl⟩
 · have hlen := (h6 l rfl).1.length
   obtain ⟨d, hd1, hd2⟩ : ∃ d : Bool, ((n : Int) == 0) = d /\ Pk.endOf (some l) = d := by
    refine ⟨_, rfl, ?_⟩
    have hl : l.length = n := hlen
    unfold Pk.endOf
    rw [Bool.eq_iff_iff]
    cases l with
    | nil => simp at hl; simp; omega
    | cons x l => simp at hl; simp; omega
   have HD := hD hd2
   clear hblk h2 h3 h4 h5 h6 hlen hd2
   cases d
   all_goals
    go_enter Tryz.func61, Tryz.ntmps61
    go_wp2
    go_ret
    exact ⟨by rw [HD.out]; rfl, rfl⟩
end Go.Proofs.YtlgpglhbbkikpaaGreat
