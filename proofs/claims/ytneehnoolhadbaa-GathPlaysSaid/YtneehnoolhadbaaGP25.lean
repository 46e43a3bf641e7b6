/- MesgPut MesgRow -/
import Derived.Test.YtneehnoolhadbaaGP02
import Derived.Test.YtneehnoolhadbaaGP03
import Derived.Test.YtneehnoolhadbaaGP04
import Derived.Test.YtneehnoolhadbaaGP11
import Derived.Test.YtneehnoolhadbaaGP14
import Derived.Test.YtneehnoolhadbaaGP15
import Derived.Test.YtneehnoolhadbaaGP17
import Derived.Test.YtneehnoolhadbaaGP18
import Derived.Test.YtneehnoolhadbaaGP19
import Derived.Test.YtneehnoolhadbaaGP20
import Derived.Test.YtneehnoolhadbaaGP21
import Derived.Test.YtneehnoolhadbaaGP22
import Derived.Test.YtneehnoolhadbaaGP23
import Derived.Test.YtneehnoolhadbaaGP24
import Derived.BigQuiet
import Derived.Deep.CutBlock
import Derived.Deep.DeepCutAuto
import Derived.Deep.DrawnRows
import Derived.Deep.Matrix
import Derived.Deep.QuietTactic
import Derived.Deep.RegionHeld3
import Derived.Deep.RegionLaw
import Derived.Deep.RegionWith
import Derived.WalkSmall
import Derived.Laws.CopyOwn
namespace Go.Proofs.Ytneehnoolhadbaa
open Go.RowKit
set_option linter.unusedVariables false
set_option maxHeartbeats 8000000 in
set_option maxRecDepth 100000 in
theorem refSameEntryW (w : World) {ca ca' : CA} {e e' : En} {B B' : Nat} (hc : e.c.Wide) (hc' : e'.c.Wide) (h : RdC w B ca e.c) (h' : RdC w B' ca' e'.c) :
    Calls Try.prog 39 #[entV ca e, entV ca' e'] w fun en w' => en = .returned (.bool (decide (e = e'))) ∧ Below w.heap.size w w' := by
  obtain ⟨Ak, Akc, Av, Avc, Ao, Aoc⟩ := ca
  obtain ⟨Dk, Dkc, Dv, Dvc, Do, Doc⟩ := ca'
  have b0 : Below w.heap.size w ((w.alloc (.cells #[.int .i64 e.s, .int .i64 e.q, .int .i64 e.c.kind, .int .i64 e.c.who, .slice Ak e.c.key.length Akc, .slice Av e.c.val.length Avc, .slice Ao e.c.old.length Aoc] 29)).alloc (.cells #[.int .i64 e'.s, .int .i64 e'.q, .int .i64 e'.c.kind, .int .i64 e'.c.who, .slice Dk e'.c.key.length Dkc, .slice Dv e'.c.val.length Dvc, .slice Do e'.c.old.length Doc] 29)) := ((Below.refl _ _).alloc (Nat.le_refl _) _).alloc (by simp) _
  have HB := Lib.hid b0
  have p1 := str_of (c := Akc) (h.rk.fit.below b0)
  have p2 := str_of (c := Dkc) (h'.rk.fit.below b0)
  have p3 := str_of (c := Avc) (h.rv.fit.below b0)
  have p4 := str_of (c := Dvc) (h'.rv.fit.below b0)
  have p5 := str_of (c := Aoc) (h.ro.fit.below b0)
  have p6 := str_of (c := Doc) (h'.ro.fit.below b0)
  have Q1 := Lib.hid (strL_eq hc.key.2 hc'.key.2)
  have Q2 := Lib.hid (strL_eq hc.val.2 hc'.val.2)
  have Q3 := Lib.hid (strL_eq hc.old.2 hc'.old.2)
  have HK := Lib.hid ((Blk.new w 29 #[.int .i64 e.s, .int .i64 e.q, .int .i64 e.c.kind, .int .i64 e.c.who, .slice Ak e.c.key.length Akc, .slice Av e.c.val.length Avc, .slice Ao e.c.old.length Aoc]).alloc (.cells #[.int .i64 e'.s, .int .i64 e'.q, .int .i64 e'.c.kind, .int .i64 e'.c.who, .slice Dk e'.c.key.length Dkc, .slice Dv e'.c.val.length Dvc, .slice Do e'.c.old.length Doc] 29))
  have HK' := Lib.hid (Blk.new (w.alloc (.cells #[.int .i64 e.s, .int .i64 e.q, .int .i64 e.c.kind, .int .i64 e.c.who, .slice Ak e.c.key.length Akc, .slice Av e.c.val.length Avc, .slice Ao e.c.old.length Aoc] 29)) 29 #[.int .i64 e'.s, .int .i64 e'.q, .int .i64 e'.c.kind, .int .i64 e'.c.who, .slice Dk e'.c.key.length Dkc, .slice Dv e'.c.val.length Dvc, .slice Do e'.c.old.length Doc])
  rw [World.size_alloc] at HK'
  clear h h' b0 hc hc'
  obtain ⟨D, hD⟩ : ∃ D, decide (e = e') = D := ⟨_, rfl⟩
  rw [hD]
  have hyes : e.s = e'.s → e.q = e'.q → e.c.kind = e'.c.kind → e.c.who = e'.c.who → e.c.key = e'.c.key → e.c.val = e'.c.val → e.c.old = e'.c.old → D = true := fun h1 h2 h3 h4 h5 h6 h7 => by rw [← hD]; exact decide_eq_true ((En.eq_iff _ _).2 ⟨h1, h2, h3, h4, h5, h6, h7⟩)
  have hno : e ≠ e' → D = false := fun h => by rw [← hD]; exact decide_eq_false h
  clear hD
  unfold entV entC
  simp only
  obtain ⟨es, eq, ⟨ekind, ewho, ekey, eval, eold⟩⟩ := e
  obtain ⟨fs, fq, ⟨fkind, fwho, fkey, fval, fold⟩⟩ := e'
  simp only at *
  obtain ⟨wa, hwa⟩ : ∃ x, (w.alloc (.cells #[.int .i64 es, .int .i64 eq, .int .i64 ekind, .int .i64 ewho, .slice Ak ekey.length Akc, .slice Av eval.length Avc, .slice Ao eold.length Aoc] 29)).alloc (.cells #[.int .i64 fs, .int .i64 fq, .int .i64 fkind, .int .i64 fwho, .slice Dk fkey.length Dkc, .slice Dv fval.length Dvc, .slice Do fold.length Doc] 29) = x := ⟨_, rfl⟩
  rw [hwa] at p1 p2 p3 p4 p5 p6 HB HK HK'
  obtain ⟨x0, x1, x2, x3, x4, x5, x6⟩ := seven HK.out
  obtain ⟨y0, y1, y2, y3, y4, y5, y6⟩ := seven HK'.out
  have HW := Lib.hid hwa
  have HYES := Lib.hid hyes
  have HNO := Lib.hid hno
  clear hwa hyes hno
  by_cases h0 : es = fs
  · have b0 : (es == fs) = true := by simpa using h0
    by_cases h1 : eq = fq
    · have b1 : (eq == fq) = true := by simpa using h1
      by_cases h2 : ekind = fkind
      · have b2 : (ekind == fkind) = true := by simpa using h2
        by_cases h3 : ewho = fwho
        · have b3 : (ewho == fwho) = true := by simpa using h3
          by_cases h4 : ekey = fkey
          · have b4 : ((strB ekey).toList == (strB fkey).toList) = true := by rw [Q1.out]; exact decide_eq_true h4
            have g4 : (strB ekey == strB fkey) = true := by rw [h4]; exact strB_self _
            by_cases h5 : eval = fval
            · have b5 : ((strB eval).toList == (strB fval).toList) = true := by rw [Q2.out]; exact decide_eq_true h5
              have g5 : (strB eval == strB fval) = true := by rw [h5]; exact strB_self _
              by_cases h6 : eold = fold
              · have b6 : ((strB eold).toList == (strB fold).toList) = true := by rw [Q3.out]; exact decide_eq_true h6
                have g6 : (strB eold == strB fold) = true := by rw [h6]; exact strB_self _
                have hd := HYES.out h0 h1 h2 h3 h4 h5 h6
                subst hd
                clear h0 h1 h2 h3 h4 h5 h6
                go_enter Try.func39, Try.ntmps39
                go_upto_region 1 with fail
                rw [HW.out]
                go_wp2_with fail
                go_ret
                exact ⟨rfl, HB.out⟩
              · have hd := HNO.out (fun h => h6 ((En.eq_iff _ _).1 h).2.2.2.2.2.2)
                subst hd
                have b6 : ((strB eold).toList == (strB fold).toList) = false := by rw [Q3.out]; exact decide_eq_false h6
                have g6 : (strB eold == strB fold) = false := by rw [← Bool.not_eq_true]; intro h; rw [ba_beq, decide_eq_true_iff] at h; rw [h] at b6; simp at b6
                clear h0 h1 h2 h3 h4 h5 h6
                go_enter Try.func39, Try.ntmps39
                go_upto_region 1 with fail
                rw [HW.out]
                go_wp2_with fail
                go_ret
                exact ⟨rfl, HB.out⟩
            · have hd := HNO.out (fun h => h5 ((En.eq_iff _ _).1 h).2.2.2.2.2.1)
              subst hd
              have b5 : ((strB eval).toList == (strB fval).toList) = false := by rw [Q2.out]; exact decide_eq_false h5
              have g5 : (strB eval == strB fval) = false := by rw [← Bool.not_eq_true]; intro h; rw [ba_beq, decide_eq_true_iff] at h; rw [h] at b5; simp at b5
              clear h0 h1 h2 h3 h4 h5
              go_enter Try.func39, Try.ntmps39
              go_upto_region 1 with fail
              rw [HW.out]
              go_wp2_with fail
              go_ret
              exact ⟨rfl, HB.out⟩
          · have hd := HNO.out (fun h => h4 ((En.eq_iff _ _).1 h).2.2.2.2.1)
            subst hd
            have b4 : ((strB ekey).toList == (strB fkey).toList) = false := by rw [Q1.out]; exact decide_eq_false h4
            have g4 : (strB ekey == strB fkey) = false := by rw [← Bool.not_eq_true]; intro h; rw [ba_beq, decide_eq_true_iff] at h; rw [h] at b4; simp at b4
            clear h0 h1 h2 h3 h4
            go_enter Try.func39, Try.ntmps39
            go_upto_region 1 with fail
            rw [HW.out]
            go_wp2_with fail
            go_ret
            exact ⟨rfl, HB.out⟩
        · have hd := HNO.out (fun h => h3 ((En.eq_iff _ _).1 h).2.2.2.1)
          subst hd
          have b3 : (ewho == fwho) = false := by simpa using h3
          clear h0 h1 h2 h3
          go_enter Try.func39, Try.ntmps39
          go_upto_region 1 with fail
          rw [HW.out]
          go_wp2_with fail
          go_ret
          exact ⟨rfl, HB.out⟩
      · have hd := HNO.out (fun h => h2 ((En.eq_iff _ _).1 h).2.2.1)
        subst hd
        have b2 : (ekind == fkind) = false := by simpa using h2
        clear h0 h1 h2
        go_enter Try.func39, Try.ntmps39
        go_upto_region 1 with fail
        rw [HW.out]
        go_wp2_with fail
        go_ret
        exact ⟨rfl, HB.out⟩
    · have hd := HNO.out (fun h => h1 ((En.eq_iff _ _).1 h).2.1)
      subst hd
      have b1 : (eq == fq) = false := by simpa using h1
      clear h0 h1
      go_enter Try.func39, Try.ntmps39
      go_upto_region 1 with fail
      rw [HW.out]
      go_wp2_with fail
      go_ret
      exact ⟨rfl, HB.out⟩
  · have hd := HNO.out (fun h => h0 ((En.eq_iff _ _).1 h).1)
    subst hd
    have b0 : (es == fs) = false := by simpa using h0
    clear h0
    go_enter Try.func39, Try.ntmps39
    go_upto_region 1 with fail
    rw [HW.out]
    go_wp2_with fail
    go_ret
    exact ⟨rfl, HB.out⟩
end Go.Proofs.Ytneehnoolhadbaa

namespace Go.Proofs.Ytneehnoolhadbaa
open Go.RowKit
set_option linter.unusedVariables false
section
variable {W w wx : World} {b g k : Nat} {t e : TypeId} {old cs c : Array Value}
theorem only_row (w : World) (g : Nat) (cs : Array Value) : Only g w (w.setRow g cs) :=
  ⟨rfl, rfl, rfl, by simp, fun k hk hne => setRow_other w g k cs (by rintro rfl; exact hne rfl)⟩
theorem Blk.row (h : Blk w g t old) (cs : Array Value) : Blk (w.setRow g cs) g t cs := setRow_heap w g old cs t (0, 0) h
theorem Blk.row_other (h : Blk w k t c) (hne : k ≠ g) (cs : Array Value) : Blk (w.setRow g cs) k t c := (setRow_other w g k cs hne).trans h
theorem own_row_t {base size n : Nat} {v : Value} {xs : List Value} (h : w.ownsRow base e size v n xs) (hb : Blk w b t old) (hne : e ≠ t) : (w.setRow b cs).ownsRow base e size v n xs := by
  refine h.kept (only_row w b cs) ?_
  rcases h.2 with ⟨h1, _⟩ | ⟨g, cap, cur, h1, _, hh, _⟩
  · rw [h1]; exact .inl rfl
  · rw [h1]
    refine .inr ?_
    show some g ≠ some b
    intro h0
    injection h0 with h0
    subst h0
    have hb' : w.heap[g]? = some (.cells old t (0, 0)) := hb
    rw [hb'] at hh
    injection hh with hh
    injection hh with _ h3 _
    exact hne h3.symm
end
end Go.Proofs.Ytneehnoolhadbaa

