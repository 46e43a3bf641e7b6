/- ObjsOk0 EqualKit RegsWalks CompareKit MapsCode1 MapsCode2 MapsCode3 MapsCode4 -/
import Derived.Test.YtlgpglhbbkikpaaGreatT00
import Derived.Test.YtlgpglhbbkikpaaGreatT01
import Derived.Test.YtlgpglhbbkikpaaGreatT06
import Derived.Test.YtlgpglhbbkikpaaGreatT10
import Derived.Test.YtlgpglhbbkikpaaGreatT21
import Derived.Deep.DrawnRows
import Derived.Deep.QuietTactic
import Derived.Deep.RegionHeld3
import Derived.Laws.Externs
import Derived.Lib.BytesEntry
import Derived.Lib.Overlaps
namespace Go.Proofs.YtlgpglhbbkikpaaGreat
open Go.RowKit
set_option linter.unusedVariables false
theorem isKind_any (w : World) (k : Int) : Calls Tryz.prog 137 #[.int .i64 k] w fun e w' => e = .returned (.bool (decide (1 <= k /\ k <= 11))) /\ w' = w := by
 by_cases h1 : 1 <= k
 · by_cases h2 : k <= 11
   · rw [decide_eq_true (show 1 <= k /\ k <= 11 from ⟨h1, h2⟩)]
     go_enter Tryz.func137, Tryz.ntmps137
     go_wp2_with fail
     go_ret
     exact ⟨rfl, rfl⟩
   · rw [decide_eq_false (show ¬ (1 <= k /\ k <= 11) by omega)]
     go_enter Tryz.func137, Tryz.ntmps137
     go_wp2_with fail
     go_ret
     exact ⟨rfl, rfl⟩
 · rw [decide_eq_false (show ¬ (1 <= k /\ k <= 11) by omega)]
   go_enter Tryz.func137, Tryz.ntmps137
   go_wp2_with fail
   go_ret
   exact ⟨rfl, rfl⟩
theorem isWho_any (w : World) (k : Int) : Calls Tryz.prog 138 #[.int .i64 k] w fun e w' => e = .returned (.bool (decide (0 <= k /\ k <= 999))) /\ w' = w := by
 by_cases h1 : 0 <= k
 · by_cases h2 : k <= 999
   · rw [decide_eq_true (show 0 <= k /\ k <= 999 from ⟨h1, h2⟩)]
     go_enter Tryz.func138, Tryz.ntmps138
     go_wp2_with fail
     go_ret
     exact ⟨rfl, rfl⟩
   · rw [decide_eq_false (show ¬ (0 <= k /\ k <= 999) by omega)]
     go_enter Tryz.func138, Tryz.ntmps138
     go_wp2_with fail
     go_ret
     exact ⟨rfl, rfl⟩
 · rw [decide_eq_false (show ¬ (0 <= k /\ k <= 999) by omega)]
   go_enter Tryz.func138, Tryz.ntmps138
   go_wp2_with fail
   go_ret
   exact ⟨rfl, rfl⟩
theorem isKind_yes (w : World) {k : Int} (h : 1 <= k /\ k <= 11) : Calls Tryz.prog 137 #[.int .i64 k] w fun e w' => e = .returned (.bool true) /\ w' = w := by
 have := isKind_any w k; rwa [decide_eq_true h] at this
theorem isKind_no (w : World) {k : Int} (h : ¬ (1 <= k /\ k <= 11)) : Calls Tryz.prog 137 #[.int .i64 k] w fun e w' => e = .returned (.bool false) /\ w' = w := by
 have := isKind_any w k; rwa [decide_eq_false h] at this
theorem isWho_yes (w : World) {k : Int} (h : 0 <= k /\ k <= 999) : Calls Tryz.prog 138 #[.int .i64 k] w fun e w' => e = .returned (.bool true) /\ w' = w := by
 have := isWho_any w k; rwa [decide_eq_true h] at this
theorem isWho_no (w : World) {k : Int} (h : ¬ (0 <= k /\ k <= 999)) : Calls Tryz.prog 138 #[.int .i64 k] w fun e w' => e = .returned (.bool false) /\ w' = w := by
 have := isWho_any w k; rwa [decide_eq_false h] at this
def Cm.known (c : Cm) : Bool := decide (1 <= c.kind /\ c.kind <= 11 /\ (c.kind = 6 \/ c.kind = 7 -> 0 <= c.who /\ c.who <= 999))
set_option maxRecDepth 100000 in
set_option maxHeartbeats 2000000 in
theorem isKnown_any (w : World) (ca : CA) (c : Cm) : Calls Tryz.prog 79 #[cmdV ca c] w fun e w' => e = .returned (.bool c.known) /\ Below w.heap.size w w' := by
 have b0 : Below w.heap.size w (w.alloc (.cells (cmdC ca c) 27)) := (Below.refl _ _).alloc lR _
 obtain ⟨Ak, ck, Av, cv, Ao, co⟩ := ca
 obtain ⟨kind, who, key, val, old⟩ := c
 unfold cmdV
 simp only [cmdC] at b0 |-
 have bad : ¬ (1 <= kind /\ kind <= 11 /\ (kind = 6 \/ kind = 7 -> 0 <= who /\ who <= 999)) -> Cm.known ⟨kind, who, key, val, old⟩ = false := fun h => decide_eq_false h
 have good : (1 <= kind /\ kind <= 11 /\ (kind = 6 \/ kind = 7 -> 0 <= who /\ who <= 999)) -> Cm.known ⟨kind, who, key, val, old⟩ = true := fun h => decide_eq_true h
 by_cases h1 : 1 <= kind /\ kind <= 11
 · have HK := hD (fun w => isKind_yes w h1)
   by_cases h2 : 0 <= who /\ who <= 999
   · have HW := hD (fun w => isWho_yes w h2)
     rw [good ⟨h1.1, h1.2, fun _ => h2⟩]
     clear bad good
     by_cases h6 : kind = 6
     · subst h6
       clear h1 h2
       go_enter Tryz.func79, Tryz.ntmps79
       go_wp2_with (first
        | (go_at_call 137; refine (HK.out _).mono ?_; rintro e w1 ⟨rfl, rfl⟩)
        | (go_at_call 138; refine (HW.out _).mono ?_; rintro e w1 ⟨rfl, rfl⟩)
        | fail)
       go_ret
       exact ⟨rfl, b0⟩
     · have k6 : (kind == 6) = false := by simp; omega
       clear h1 h2 h6
       go_enter Tryz.func79, Tryz.ntmps79
       go_wp2_with (first
        | (go_at_call 137; refine (HK.out _).mono ?_; rintro e w1 ⟨rfl, rfl⟩)
        | (go_at_call 138; refine (HW.out _).mono ?_; rintro e w1 ⟨rfl, rfl⟩)
        | fail)
       go_ret
       exact ⟨rfl, b0⟩
   · have HW := hD (fun w => isWho_no w h2)
     by_cases h6 : kind = 6
     · rw [bad (by omega)]
       subst h6
       clear h1 h2 bad good
       go_enter Tryz.func79, Tryz.ntmps79
       go_wp2_with (first
        | (go_at_call 137; refine (HK.out _).mono ?_; rintro e w1 ⟨rfl, rfl⟩)
        | (go_at_call 138; refine (HW.out _).mono ?_; rintro e w1 ⟨rfl, rfl⟩)
        | fail)
       go_ret
       exact ⟨rfl, b0⟩
     · have k6 : (kind == 6) = false := by simp; omega
       by_cases h7 : kind = 7
       · rw [bad (by omega)]
         subst h7
         clear h1 h2 bad good
         go_enter Tryz.func79, Tryz.ntmps79
         go_wp2_with (first
          | (go_at_call 137; refine (HK.out _).mono ?_; rintro e w1 ⟨rfl, rfl⟩)
          | (go_at_call 138; refine (HW.out _).mono ?_; rintro e w1 ⟨rfl, rfl⟩)
          | fail)
         go_ret
         exact ⟨rfl, b0⟩
       · have k7 : (kind == 7) = false := by simp; omega
         rw [good ⟨h1.1, h1.2, fun h => by omega⟩]
         clear h1 h2 h6 h7 bad good
         go_enter Tryz.func79, Tryz.ntmps79
         go_wp2_with (first
          | (go_at_call 137; refine (HK.out _).mono ?_; rintro e w1 ⟨rfl, rfl⟩)
          | (go_at_call 138; refine (HW.out _).mono ?_; rintro e w1 ⟨rfl, rfl⟩)
          | fail)
         go_ret
         exact ⟨rfl, b0⟩
 · have HK := hD (fun w => isKind_no w h1)
   rw [bad (by omega)]
   clear h1 bad good
   by_cases h6 : kind = 6
   · subst h6
     go_enter Tryz.func79, Tryz.ntmps79
     go_wp2_with (first
      | (go_at_call 137; refine (HK.out _).mono ?_; rintro e w1 ⟨rfl, rfl⟩)
      | fail)
     go_ret
     exact ⟨rfl, b0⟩
   · have k6 : (kind == 6) = false := by simp; omega
     clear h6
     go_enter Tryz.func79, Tryz.ntmps79
     go_wp2_with (first
      | (go_at_call 137; refine (HK.out _).mono ?_; rintro e w1 ⟨rfl, rfl⟩)
      | fail)
     go_ret
     exact ⟨rfl, b0⟩
theorem equal_any (w : World) (A A' : Option Addr) (n c n' c' B B' : Nat) (l l' : List Nat) (hl : ∀ x ∈ l, x < 256) (hl' : ∀ x ∈ l', x < 256) (h : Rd w B A n (bv l)) (h' : Rd w B' A' n' (bv l')) :
 Calls Tryz.prog 115 #[.slice A n c, .slice A' n' c'] w fun e w' => e = .returned (.bool (decide (l = l'))) /\ w' = w := by
 have k1 := str_of (c := c) h
 have k2 := str_of (c := c') h'
 have k3 := strL_eq hl hl'
 clear h h'
 go_enter Tryz.func115, Tryz.ntmps115
 go_wp2
 go_ret
 exact ⟨by first | exact ret_bool k3 | rfl | (rw [<- k3]; rfl), rfl⟩
theorem read_any {W w : World} {l : List Nat} {A : Option Addr} {n c B : Nat} (hn : Lim 0 n) (hr : Rd w B A n (bv l)) (hB : Below W.heap.size W w) :
 Calls Tryz.prog 80 #[.slice A n c] w (GotR W w 0 l 0) := by
 have H := hD hr.fit
 clear hr
 go_enter Tryz.func80, Tryz.ntmps80
 go_wp2_with (go_at_call 40; refine (clone_any (W := W) hn (H.out.alloc lR _) (hB.alloc hB.size _)).mono ?_; rintro e w1 ⟨A1, c1, rfl, hown1, hB1, hb1⟩; have HK := hD ((Blk.new w 41 zeroR).below hb1); obtain ⟨x0, x1, x2, f0, f1, f2⟩ := three HK.out)
 obtain ⟨k1, k2, k3⟩ := put3 HK.out (.int .i64 0) (.slice A1 l.length c1) (.int .i64 0)
 refine bodyPost_ret (results_cell_row rfl _ _ _ _ _ _ _ rfl k1 Tryz.underlying41 rfl (by kernel_rfl)) rfl ?_
 exact ⟨A1, c1, rfl, k3 _ _ _ _ _ _ hown1 (by decide), k2 W hB.size hB1, k2 w lR (((Below.refl _ _).alloc lR _).trans (hb1.mono (by simp)))⟩
theorem write_any {W w : World} {s v : List Nat} {A A' : Option Addr} {n c n' c' B B' : Nat} (hn : Lim 0 n) (hn' : Lim 0 n') (hr : Rd w B A n (bv s)) (hr' : Rd w B' A' n' (bv v)) (hB : Below W.heap.size W w) :
 Calls Tryz.prog 81 #[.slice A n c, .slice A' n' c'] w (GotSR W w (if v.length <= 16 then v else s) (if v.length <= 16 then 0 else 1) [] 0) := by
 have HL := hD hr'.length
 have H := hD hr.fit
 have H' := hD hr'.fit
 by_cases hle : n' <= 16
 · rw [if_pos (by have := HL.out; omega), if_pos (by have := HL.out; omega)]
   clear hr hr'
   go_enter Tryz.func81, Tryz.ntmps81
   go_wp2_with (go_at_call 40; refine (clone_any (W := W) hn' (H'.out.alloc lR _) (hB.alloc hB.size _)).mono ?_; rintro e w1 ⟨A1, c1, rfl, hown1, hB1, hb1⟩; have HK := hD ((Blk.new w 41 zeroR).below hb1); obtain ⟨x0, x1, x2, f0, f1, f2⟩ := three HK.out)
   obtain ⟨k1, k2, k3⟩ := put3 HK.out (.int .i64 0) (.slice none 0 0) (.int .i64 0)
   refine bodyPost_ret (results_tmp_cell_row rfl _ _ _ _ _ _ rfl k1 Tryz.underlying41 rfl (by kernel_rfl)) rfl ?_
   exact ⟨A1, c1, none, 0, rfl, k3 _ _ _ _ _ _ hown1 (by decide), own_nil _ _, k2 W hB.size hB1, k2 w lR (((Below.refl _ _).alloc lR _).trans (hb1.mono (by simp)))⟩
 · rw [if_neg (by have := HL.out; omega), if_neg (by have := HL.out; omega)]
   clear hr hr'
   go_enter Tryz.func81, Tryz.ntmps81
   go_wp2_with (go_at_call 40; refine (clone_any (W := W) hn (H.out.alloc lR _) (hB.alloc hB.size _)).mono ?_; rintro e w1 ⟨A1, c1, rfl, hown1, hB1, hb1⟩; have HK := hD ((Blk.new w 41 zeroR).below hb1); obtain ⟨x0, x1, x2, f0, f1, f2⟩ := three HK.out)
   obtain ⟨k1, k2, k3⟩ := put3 HK.out (.int .i64 1) (.slice none 0 0) (.int .i64 0)
   refine bodyPost_ret (results_tmp_cell_row rfl _ _ _ _ _ _ rfl k1 Tryz.underlying41 rfl (by kernel_rfl)) rfl ?_
   exact ⟨A1, c1, none, 0, rfl, k3 _ _ _ _ _ _ hown1 (by decide), own_nil _ _, k2 W hB.size hB1, k2 w lR (((Below.refl _ _).alloc lR _).trans (hb1.mono (by simp)))⟩
set_option maxRecDepth 100000 in
theorem cas_long {W w : World} {s v : List Nat} {A A' A2 : Option Addr} {n c n' c' n2 c2 B B' : Nat} (hn : Lim 0 n) (hn' : Lim 0 n') (hr : Rd w B A n (bv s)) (hr' : Rd w B' A' n' (bv v)) (hB : Below W.heap.size W w) (hlt : 16 < v.length) :
 Calls Tryz.prog 82 #[.slice A n c, .slice A2 n2 c2, .slice A' n' c'] w (GotSR W w s 1 [] 0) := by
 have H := hD hr.fit
 have H' := hD hr'.fit
 clear hr hr'
 go_enter Tryz.func82, Tryz.ntmps82
 go_wp2_with (go_at_call 81; refine (write_any (W := W) hn hn' (H.out.alloc lR _) (H'.out.alloc lR _) (hB.alloc hB.size _)).mono ?_; rw [if_neg (by omega), if_neg (by omega)]; rintro e w1 ⟨A1, c1, A3, c3, rfl, hown1, hown2, hB1, hb1⟩; unfold resV; have HK := hD ((Blk.new w 41 zeroR).below hb1); obtain ⟨x0, x1, x2, f0, f1, f2⟩ := three HK.out)
 have HK' := hD (HK.out.alloc (.cells #[.int .i64 1, .slice A3 0 c3, .int .i64 0] 41))
 obtain ⟨y0, y1, y2, h0, h1, h2⟩ := three HK'.out
 have hbw : Below w.heap.size w w1 := ((Below.refl _ _).alloc lR _).trans (hb1.mono (by simp))
 go_region
 go_wp2
 obtain ⟨k1, k2, k3⟩ := put3 HK'.out (.int .i64 1) (.slice A3 0 c3) (.int .i64 0)
 refine bodyPost_ret (results_tmp_cell_row rfl _ _ _ _ _ _ rfl k1.drew Tryz.underlying41 rfl (by kernel_rfl)) rfl ?_
 exact ⟨A1, c1, A3, c3, rfl, k3 _ _ _ _ _ _ (own_below hown1 ((Below.refl _ _).alloc lR _)) (by decide), k3 _ _ _ _ _ _ (own_below hown2 ((Below.refl _ _).alloc lR _)) (by decide), (k2 W hB.size (hB1.alloc hB1.size _)).drew, (k2 w lR (hbw.alloc hbw.size _)).drew⟩
set_option maxRecDepth 100000 in
theorem cas_same {W w : World} {s v : List Nat} {A A' A2 : Option Addr} {n c n' c' n2 c2 B B' B2 : Nat} (hn : Lim 0 n) (hn' : Lim 0 n') (hs : ∀ x ∈ s, x < 256) (hr : Rd w B A n (bv s)) (hr' : Rd w B' A' n' (bv v)) (hr2 : Rd w B2 A2 n2 (bv s)) (hB : Below W.heap.size W w) (hle : v.length <= 16) :
 Calls Tryz.prog 82 #[.slice A n c, .slice A2 n2 c2, .slice A' n' c'] w (GotSR W w v 0 [] 0) := by
 have H := hD hr.fit
 have H' := hD hr'.fit
 have H2 := hD hr2.fit
 have HS := hD hs
 clear hr hr' hr2 hs
 go_enter Tryz.func82, Tryz.ntmps82
 go_wp2_with (first
  | (go_at_call 81; refine (write_any (W := W) hn hn' (H.out.alloc lR _) (H'.out.alloc lR _) (hB.alloc hB.size _)).mono ?_; rw [if_pos (by omega), if_pos (by omega)]; rintro e w1 ⟨A1, c1, A3, c3, rfl, hown1, hown2, hB1, hb1⟩; unfold resV; have HK := hD ((Blk.new w 41 zeroR).below hb1); obtain ⟨x0, x1, x2, f0, f1, f2⟩ := three HK.out
     have hbw : Below w.heap.size w w1 := ((Below.refl _ _).alloc lR _).trans (hb1.mono (by simp)))
  | (go_at_call 115; refine (equal_any _ _ _ _ _ _ _ _ _ _ _ HS.out HS.out ((H.out.below hbw).alloc hbw.size _) ((H2.out.below hbw).alloc hbw.size _)).mono ?_; rw [decide_eq_true (show s = s from rfl)]; rintro e w2 ⟨rfl, rfl⟩))
 have HK' := hD (HK.out.alloc (.cells #[.int .i64 0, .slice A3 0 c3, .int .i64 0] 41))
 obtain ⟨y0, y1, y2, h0, h1, h2⟩ := three HK'.out
 go_region
 go_wp2
 obtain ⟨k1, k2, k3⟩ := put3 HK'.out (.int .i64 0) (.slice A3 0 c3) (.int .i64 0)
 refine bodyPost_ret (results_tmp_cell_row rfl _ _ _ _ _ _ rfl k1.drew Tryz.underlying41 rfl (by kernel_rfl)) rfl ?_
 exact ⟨A1, c1, A3, c3, rfl, k3 _ _ _ _ _ _ (own_below hown1 ((Below.refl _ _).alloc lR _)) (by decide), k3 _ _ _ _ _ _ (own_below hown2 ((Below.refl _ _).alloc lR _)) (by decide), (k2 W hB.size (hB1.alloc hB1.size _)).drew, (k2 w lR (hbw.alloc hbw.size _)).drew⟩
set_option maxRecDepth 100000 in
theorem cas_other {W w : World} {s v old : List Nat} {A A' A2 : Option Addr} {n c n' c' n2 c2 B B' B2 : Nat} (hn : Lim 0 n) (hn' : Lim 0 n') (hs : ∀ x ∈ s, x < 256) (ho : ∀ x ∈ old, x < 256) (hr : Rd w B A n (bv s)) (hr' : Rd w B' A' n' (bv v)) (hr2 : Rd w B2 A2 n2 (bv old)) (hB : Below W.heap.size W w) (hle : v.length <= 16) (hne : s ≠ old) :
 Calls Tryz.prog 82 #[.slice A n c, .slice A2 n2 c2, .slice A' n' c'] w (GotSR W w s 2 s 0) := by
 have H := hD hr.fit
 have H' := hD hr'.fit
 have H2 := hD hr2.fit
 have HS := hD hs
 have HO := hD ho
 have HN := hD (decide_eq_false hne)
 clear hr hr' hr2 hs ho hne
 go_enter Tryz.func82, Tryz.ntmps82
 go_wp2_with (first
  | (go_at_call 81; refine (write_any (W := W) hn hn' (H.out.alloc lR _) (H'.out.alloc lR _) (hB.alloc hB.size _)).mono ?_; rw [if_pos (by omega), if_pos (by omega)]; rintro e w1 ⟨A1, c1, A3, c3, rfl, hown1, hown2, hB1, hb1⟩; unfold resV; have HK := hD ((Blk.new w 41 zeroR).below hb1); obtain ⟨x0, x1, x2, f0, f1, f2⟩ := three HK.out
     have hbw : Below w.heap.size w w1 := ((Below.refl _ _).alloc lR _).trans (hb1.mono (by simp)))
  | (go_at_call 115; refine (equal_any _ _ _ _ _ _ _ _ _ _ _ HS.out HO.out ((H.out.below hbw).alloc hbw.size _) ((H2.out.below hbw).alloc hbw.size _)).mono ?_; rw [HN.out]; rintro e w2 ⟨rfl, rfl⟩)
  | (go_at_call 80; refine (read_any (W := W) hn ((H.out.below hbw).alloc hbw.size _) (hB1.alloc hB1.size _)).mono ?_; rintro e w2 ⟨A4, c4, rfl, hown4, hB2, hb2⟩; unfold resV; have HL := hD ((Blk.new w1 41 _).below hb2); have HK2 := hD ((HK.out.alloc _).below hb2); obtain ⟨y0, y1, y2, h0, h1, h2⟩ := three HL.out))
 obtain ⟨k1, k2, k3⟩ := put3 HL.out (.int .i64 0) (.slice A4 s.length c4) (.int .i64 0)
 have HL3 := hD (k1.set_ 0 (.int .i64 2))
 have ho3 := own_set_t (i := 0) (u := .int .i64 2) (k3 _ _ _ _ _ _ hown4 (by decide)) k1 (by decide)
 have hne : w.heap.size ≠ w1.heap.size := by have := HK.out.lt; omega
 have HK3 := hD ((((HK2.out.set_other (i := 0) (u := .int .i64 0) hne).set_other (i := 1) (u := .slice A4 s.length c4) hne).set_other (i := 2) (u := .int .i64 0) hne).set_other (i := 0) (u := .int .i64 2) hne)
 have hB3 := (k2 W hB1.size hB2).setCell (p := ⟨w1.heap.size, 0, none⟩) hB1.size (.int .i64 2)
 have hb3 := (k2 w hbw.size ((hbw.alloc hbw.size _).trans (hb2.mono (by have := hbw.size; simp; omega)))).setCell (p := ⟨w1.heap.size, 0, none⟩) hbw.size (.int .i64 2)
 clear k1 k2 k3 x0 x1 x2 f0 f1 f2 y0 y1 y2 h0 h1 h2 HK2 HL hown4 hb2
 generalize hw3 : ((((w2.setCell ⟨w1.heap.size, 0, none⟩ (.int .i64 0)).setCell ⟨w1.heap.size, 1, none⟩ (.slice A4 s.length c4)).setCell ⟨w1.heap.size, 2, none⟩ (.int .i64 0)).setCell ⟨w1.heap.size, 0, none⟩ (.int .i64 2)) = w3 at *
 obtain ⟨x0, x1, x2, f0, f1, f2⟩ := three HL3.out
 clear hw3
 go_region_with (go_at_call 40; refine (clone_any (W := W) hn (H.out.below hb3).drew hB3.drew).mono ?_; rintro e w4 ⟨A5, c5, rfl, hown5, hB5, hb5⟩; have HK5 := hD (HK3.out.drew.below hb5); have HL5 := hD (HL3.out.drew.below hb5); obtain ⟨y0, y1, y2, h0, h1, h2⟩ := three HL5.out; obtain ⟨u0, u1, u2, g0, g1, g2⟩ := three HK5.out)
 all_goals go_wp2
 all_goals
  obtain ⟨k1, k2, k3⟩ := put3 HK5.out (.int .i64 2) (.slice A4 s.length c4) (.int .i64 0)
  refine bodyPost_ret (results_tmp_cell_row rfl _ _ _ _ _ _ rfl k1 Tryz.underlying41 rfl (by kernel_rfl)) rfl ?_
  exact ⟨A5, c5, A4, c4, rfl, k3 _ _ _ _ _ _ hown5 (by decide), k3 _ _ _ _ _ _ (ownsRow_below (w := w3.drew) ho3 hb5) (by decide), k2 W hB.size hB5, k2 w lR (hb3.drew.trans (hb5.mono hb3.size))⟩
theorem cas_any {W w : World} {s v old : List Nat} {A A' A2 : Option Addr} {n c n' c' n2 c2 B B' B2 : Nat} (hn : Lim 0 n) (hn' : Lim 0 n') (hs : ∀ x ∈ s, x < 256) (ho : ∀ x ∈ old, x < 256) (hr : Rd w B A n (bv s)) (hr' : Rd w B' A' n' (bv v)) (hr2 : Rd w B2 A2 n2 (bv old)) (hB : Below W.heap.size W w) :
 Calls Tryz.prog 82 #[.slice A n c, .slice A2 n2 c2, .slice A' n' c'] w (GotSR W w (casS s old v) (casE s old v) (casV s old v) 0) := by
 unfold casS casE casV
 by_cases hlt : 16 < v.length
 · rw [if_pos hlt, if_pos hlt, if_pos hlt]; exact cas_long hn hn' hr hr' hB hlt
 · rw [if_neg hlt, if_neg hlt, if_neg hlt]
   by_cases he : s = old
   · subst he
     rw [if_pos rfl, if_pos rfl, if_pos rfl]; exact cas_same hn hn' hs hr hr' hr2 hB (by omega)
   · rw [if_neg he, if_neg he, if_neg he]; exact cas_other hn hn' hs ho hr hr' hr2 hB (by omega) he
theorem run_bytesOf_rd {P : Program} {w : World} {B n c : Nat} {A : Option Addr} {l : List Nat} (h : Rd w B A n (bv l)) : (Extern.Bytes.bytesOf (.slice A n c)).run P w = .ok ⟨(l.map UInt8.ofNat).toArray⟩ w := by
 have hl := h.length
 rcases Nat.eq_zero_or_pos n with h0 | h0
 · subst h0
   have : l = [] := List.eq_nil_of_length_eq_zero hl
   subst this
   cases A with
   | none => rfl
   | some a => rfl
 · obtain ⟨b, o, rfl, _, hc⟩ := h.2 h0
   have hld := Lib.run_loadBytesX (P := P) w (l.map fun (x : Nat) => (x : Int)) ⟨b, o, none⟩ .empty (fun j x hj => by
    have hjl : j < l.length := by
     have := (List.getElem?_eq_some_iff.1 hj).1; simpa using this
    have e : (⟨b, o, none⟩ : Addr).add j = ⟨b, o + j, none⟩ := by unfold Addr.add; split <;> simp_all
    rw [e, hc j (by omega), bv_get hjl]
    rw [List.getElem?_map, List.getElem?_eq_getElem hjl] at hj
    injection hj with hj
    rw [<- hj])
   rw [List.length_map, hl] at hld
   have e2 : Lib.bytesOf (l.map fun (x : Nat) => (x : Int)) = l.map UInt8.ofNat := by
    unfold Lib.bytesOf; rw [List.map_map]; apply List.map_congr_left; intro x _; simp
   rw [e2] at hld
   have he : (⟨ByteArray.empty.data ++ (l.map UInt8.ofNat).toArray⟩ : ByteArray) = ⟨(l.map UInt8.ofNat).toArray⟩ := by
    apply ByteArray.ext
    show (#[] : Array UInt8) ++ (l.map UInt8.ofNat).toArray = (l.map UInt8.ofNat).toArray
    simp
   rw [he] at hld
   exact hld
def cmpB (l m : List Nat) : Int := Lib.compareBytes (l.map UInt8.ofNat) (m.map UInt8.ofNat)
theorem run_compare_rd {P : Program} {w : World} {B n c B' n' c' : Nat} {A A' : Option Addr} {l l' : List Nat} (h : Rd w B A n (bv l)) (h' : Rd w B' A' n' (bv l')) :
 (Extern.BytealgCompare.compare #[.slice A n c, .slice A' n' c']).run P w = .ok (.int .i64 (cmpB l l')) w := by
 change Sem.run P (do pure (goInt (Extern.BytealgCompare.cmp (← Extern.Bytes.bytesOf (.slice A n c)) (← Extern.Bytes.bytesOf (.slice A' n' c'))))) w = _
 simp only [Sem.run_bind, Sem.run_pure, Result.andThen, run_bytesOf_rd h, run_bytesOf_rd h']
 rw [Lib.cmp_eq]
 rfl
theorem cmpB_pos {l m : List Nat} (hl : ∀ x ∈ l, x < 256) (hm : ∀ x ∈ m, x < 256) : (0 < cmpB l m) ↔ Mp.ltB m l = true := by
 unfold cmpB
 induction l generalizing m with
 | nil => cases m <;> simp [Lib.compareBytes, Mp.ltB]
 | cons a l ih =>
   cases m with
   | nil => simp [Lib.compareBytes, Mp.ltB]
   | cons b m =>
     have ha := hl a (by simp)
     have hb := hm b (by simp)
     have ih' := ih (m := m) (fun x hx => hl x (by simp [hx])) (fun x hx => hm x (by simp [hx]))
     have lt1 : ∀ a b : Nat, a < 256 -> b < 256 -> ((UInt8.ofNat a < UInt8.ofNat b) ↔ a < b) := fun a b ha hb => by
      rw [UInt8.lt_iff_toNat_lt]; simp; omega
     simp only [List.map_cons, Lib.compareBytes, Mp.ltB, Bool.or_eq_true, decide_eq_true_eq, Bool.and_eq_true]
     by_cases h1 : a < b
     · rw [if_pos ((lt1 a b ha hb).2 h1)]
       constructor
       · intro h; omega
       · rintro (h | ⟨h, _⟩) <;> omega
     · rw [if_neg (fun h => h1 ((lt1 a b ha hb).1 h))]
       by_cases h2 : b < a
       · rw [if_pos ((lt1 b a hb ha).2 h2)]
         exact ⟨fun _ => .inl h2, fun _ => by omega⟩
       · rw [if_neg (fun h => h2 ((lt1 b a hb ha).1 h))]
         have : b = a := by omega
         rw [ih']
         exact ⟨fun h => .inr ⟨this, h⟩, fun h => h.elim (fun h => absurd h h2) (·.2)⟩
set_option maxRecDepth 100000 in
theorem compare_any (w : World) (A A' : Option Addr) (n c n' c' B B' : Nat) (l l' : List Nat) (h : Rd w B A n (bv l)) (h' : Rd w B' A' n' (bv l')) :
 Calls Tryz.prog 127 #[.slice A n c, .slice A' n' c'] w fun e w' => e = .returned (.int .i64 (cmpB l l')) /\ w' = w := by
 have hr := run_compare_rd (P := Tryz.prog) (c := c) (c' := c') h h'
 clear h h'
 go_enter Tryz.func127, Tryz.ntmps127
 go_wp2
 rw [run_callFunc_extern Tryz.func151 (by kernel_rfl) (by kernel_rfl) (by kernel_rfl) (e := Extern.BytealgCompare.compare) (by kernel_rfl), hr]
 simp only [Result.andThen]
 rw [Oper.upon_value]
 go_wp2
 go_ret
 exact ⟨rfl, rfl⟩
set_option maxHeartbeats 1000000 in
set_option maxRecDepth 100000 in
theorem get_raw {w : World} {ps : List Pr} {k : List Nat} {A A' : Option Addr} {n c n' c' B B' : Nat} (hn : n <= 100000) (hL : LimP ps) (hb : BytesP ps) (hbk : ∀ x ∈ k, x < 256) (h : RdP w B A n ps) (h' : Rd w B' A' n' (bv k)) :
 Calls Tryz.prog 89 #[.slice A n c, .slice A' n' c'] w (GotR w w (Mp.getE ps k) (Mp.getV ps k) 0) := by
 have hlen := h.length
 have H := hD h.fit
 have H' := hD h'.fit
 have HL := hD hL
 have HB := hD hb
 have HBK := hD hbk
 have b0 : Below w.heap.size w (w.alloc (.cells zeroR 41)) := (Below.refl _ _).alloc lR _
 clear h h' hL hb hbk
 go_enter Tryz.func89, Tryz.ntmps89
 go_wp2_with fail
 go_loopw [6, 9] (fun s6 s9 wr => ∃ j : Nat, j <= n /\ s9 = .int .i64 j /\ Hid (∀ i, i < j -> (Mp.keys ps)[i]? ≠ some k) /\ Hid (Blk wr w.heap.size 41 zeroR) /\ Hid (Below w.heap.size w wr)) (fun _ s9 _ => n - (intOf s9).toNat)
 case atStart => exact ⟨0, Nat.zero_le _, rfl, hD (fun i hi => absurd hi (by omega)), hD (Blk.new _ _ _), hD b0⟩
 case round =>
  obtain ⟨j, hj, rfl, HS, HK, HB0⟩ := hrel
  clear b0
  by_cases hlt : j < n
  · obtain ⟨b, o, p, A1, c1, A2, c2, rfl, hp, hcell1, hcell2, hrd1, hrd2⟩ := ((H.out.below HB0.out).fit).at hlt
    have hl2 : Lim 0 p.2.length := (HL.out p (List.mem_of_getElem? hp)).2
    have HP := hD hp
    have HR1 := hD hrd1
    have HR2 := hD hrd2
    have HBP := hD (HB.out p (List.mem_of_getElem? hp)).1
    have b1 : Below wr.heap.size wr (wr.alloc (.cells #[.slice A1 p.1.length c1, .slice A2 p.2.length c2] 81)) := (Below.refl _ _).alloc lR _
    clear hp hrd1 hrd2
    by_cases he : p.1 = k
    · have HE := hD he
      have HD := hD (decide_eq_true he)
      clear he
      go_wp2_with (first
       | (go_at_call 115; refine (equal_any _ _ _ _ _ _ _ _ _ _ _ HBP.out HBK.out (HR1.out.below b1) ((H'.out.below HB0.out).alloc HB0.out.size _)).mono ?_; rw [HD.out]; rintro e w2 ⟨rfl, rfl⟩)
       | (go_at_call 40; refine (clone_any (W := w) hl2 (HR2.out.below b1) (HB0.out.alloc HB0.out.size _)).mono ?_; rintro e w2 ⟨A3, c3, rfl, ho2, hB2, hb2⟩; have HK := hD ((HK.out.alloc _).below hb2); obtain ⟨x0, x1, x2, f0, f1, f2⟩ := three HK.out)
       | fail)
      obtain ⟨k1, k2, k3⟩ := put3 HK.out (.int .i64 0) (.slice A3 p.2.length c3) (.int .i64 0)
      refine bodyPost_ret (results_cell_row rfl _ _ _ _ _ _ _ rfl k1 Tryz.underlying41 rfl (by kernel_rfl)) rfl ?_
      have h3 := k2 w lR hB2
      have hpl := Mp.place_first (by rw [keys_at HP.out, HE.out]) HS.out
      have hkin : k ∈ Mp.keys ps := by
       have := keys_at HP.out
       rw [HE.out] at this
       exact List.mem_of_getElem? this
      obtain ⟨i, ei, hi, hix⟩ := Mp.place_lt hkin
      rw [hpl] at ei
      have hji : j = i := by omega
      subst hji
      have e1 : Mp.getE ps k = 0 := by unfold Mp.getE; rw [if_pos hkin]
      have e2 : Mp.getV ps k = p.2 := by unfold Mp.getV; rw [if_pos hkin, hix, HP.out]; rfl
      rw [e1, e2]
      exact ⟨A3, c3, rfl, k3 _ _ _ _ _ _ ho2 (by decide), h3, h3⟩
    · have HE := hD he
      have HD := hD (decide_eq_false he)
      clear he
      go_wp2_with (first
       | (go_at_call 115; refine (equal_any _ _ _ _ _ _ _ _ _ _ _ HBP.out HBK.out (HR1.out.below b1) ((H'.out.below HB0.out).alloc HB0.out.size _)).mono ?_; rw [HD.out]; rintro e w2 ⟨rfl, rfl⟩)
       | fail)
      go_roundw
      case rel =>
       refine ⟨j + 1, by omega, by go_num, hD (fun i hi => ?_), hD (HK.out.alloc _), hD (HB0.out.alloc HB0.out.size _)⟩
       rcases Nat.lt_or_ge i j with h1 | h1
       · exact HS.out i h1
       · obtain rfl : i = j := by omega
         rw [keys_at HP.out]
         intro h; injection h with h; exact HE.out h
      case measure => simp [intOf]; omega
  · obtain rfl : j = n := by omega
    obtain ⟨x0, x1, x2, f0, f1, f2⟩ := three HK.out
    go_wp2_with fail
    obtain ⟨k1, k2, k3⟩ := put3 HK.out (.int .i64 5) (.slice none 0 0) (.int .i64 0)
    refine bodyPost_ret (results_cell_row rfl _ _ _ _ _ _ _ rfl k1 Tryz.underlying41 rfl (by kernel_rfl)) rfl ?_
    have h3 := k2 w lR HB0.out
    have hno : k ∉ Mp.keys ps := fun hk => by
     obtain ⟨i, _, hi, _⟩ := Mp.place_lt hk
     have h1 : i < (Mp.keys ps).length := by
      rcases Nat.lt_or_ge i (Mp.keys ps).length with h | h
      · exact h
      · rw [List.getElem?_eq_none h] at hi; cases hi
     rw [keys_length, hlen] at h1
     exact HS.out i h1 hi
    have e1 : Mp.getE ps k = 5 := by unfold Mp.getE; rw [if_neg hno]
    have e2 : Mp.getV ps k = [] := by unfold Mp.getV; rw [if_neg hno]
    rw [e1, e2]
    exact ⟨none, 0, rfl, own_nil _ _, h3, h3⟩
theorem get_any {W w : World} {ps : List Pr} {k : List Nat} {A A' : Option Addr} {n c n' c' B B' : Nat} (hn : n <= 100000) (hL : LimP ps) (hb : BytesP ps) (hbk : ∀ x ∈ k, x < 256) (h : RdP w B A n ps) (h' : Rd w B' A' n' (bv k)) (hB : Below W.heap.size W w) :
 Calls Tryz.prog 89 #[.slice A n c, .slice A' n' c'] w (GotR W w (Mp.getE ps k) (Mp.getV ps k) 0) :=
 (get_raw hn hL hb hbk h h').mono fun e w' ⟨A, c, h1, h2, h3, h4⟩ => ⟨A, c, h1, more_ hB.size h2, hB.trans (h3.mono hB.size), h4⟩
theorem Mp.ltB_asymm {x y : List Nat} (h : Mp.ltB x y = true) : Mp.ltB y x = false := by
 cases h2 : Mp.ltB y x with
 | false => rfl
 | true => have := Mp.ltB_trans h h2; rw [Mp.ltB_irrefl] at this; cases this
set_option maxHeartbeats 1000000 in
theorem placeM_any (w : World) {A A' : Option Addr} {n c n' c' B B' : Nat} {ps : List Pr} {k : List Nat} (hn : n <= 100000) (hb : BytesP ps) (hbk : ∀ x ∈ k, x < 256) (hno : k ∉ Mp.keys ps) (h : RdP w B A n ps) (h' : Rd w B' A' n' (bv k)) :
 Calls Tryz.prog 144 #[.slice A n c, .slice A' n' c'] w fun e w' => e = .returned (.int .i64 (Mp.cut ps k : Nat)) /\ Below w.heap.size w w' := by
 have hlen := h.length
 have H := hD h.fit
 have H' := hD h'.fit
 have HB := hD hb
 have HBK := hD hbk
 have HNO := hD hno
 clear h h' hb hbk hno
 go_enter Tryz.func144, Tryz.ntmps144
 go_wp2_with fail
 go_loopw [5, 6, 9] (fun s5 s6 s9 wr => ∃ j : Nat, j <= n /\ s9 = .int .i64 j /\ Hid (∀ (i : Nat) (p : Pr), i < j -> ps[i]? = some p -> Mp.ltB p.1 k = true) /\ Hid (Below w.heap.size w wr)) (fun _ _ s9 _ => n - (intOf s9).toNat)
 case atStart => exact ⟨0, Nat.zero_le _, rfl, hD (fun i p hi => absurd hi (by omega)), hD (Below.refl _ _)⟩
 case round =>
  obtain ⟨j, hj, rfl, HS, HB0⟩ := hrel
  by_cases hlt : j < n
  · obtain ⟨b, o, p, A1, c1, A2, c2, rfl, hp, hcell1, hcell2, hrd1, hrd2⟩ := ((H.out.below HB0.out).fit).at hlt
    have HP := hD hp
    have HR1 := hD hrd1
    have hpos := cmpB_pos (HB.out p (List.mem_of_getElem? hp)).1 HBK.out
    obtain ⟨z, hz⟩ : ∃ z, cmpB p.1 k = z := ⟨_, rfl⟩
    rw [hz] at hpos
    have b1 : Below wr.heap.size wr (wr.alloc (.cells #[.slice A1 p.1.length c1, .slice A2 p.2.length c2] 81)) := (Below.refl _ _).alloc lR _
    have HZ := hD hz
    clear hp hrd1 hrd2 hz
    by_cases he : 0 < z
    · have HE := hD (hpos.1 he)
      clear hpos
      go_wp2_with (first
       | (go_at_call 127; refine (compare_any _ _ _ _ _ _ _ _ _ _ _ (HR1.out.below b1) ((H'.out.below HB0.out).alloc HB0.out.size _)).mono ?_; rw [HZ.out]; rintro e w2 ⟨rfl, rfl⟩)
       | fail)
      go_ret
      refine ⟨ret_int ?_, HB0.out.alloc HB0.out.size _⟩
      congr 1
      refine (Mp.cut_is (by omega) HS.out (fun q hq => ?_)).symm
      rw [HP.out] at hq
      injection hq with hq
      subst hq
      exact Mp.ltB_asymm HE.out
    · have HE := hD (show Mp.ltB p.1 k = true from by
       cases h1 : Mp.ltB p.1 k with
       | true => rfl
       | false =>
         cases h2 : Mp.ltB k p.1 with
         | true => exact absurd (hpos.2 h2) he
         | false =>
           have := keys_at HP.out
           rw [Mp.ltB_total h1 h2] at this
           exact absurd (List.mem_of_getElem? this) HNO.out)
      clear hpos
      go_wp2_with (first
       | (go_at_call 127; refine (compare_any _ _ _ _ _ _ _ _ _ _ _ (HR1.out.below b1) ((H'.out.below HB0.out).alloc HB0.out.size _)).mono ?_; rw [HZ.out]; rintro e w2 ⟨rfl, rfl⟩)
       | fail)
      go_roundw
      case rel =>
       refine ⟨j + 1, by omega, by go_num, hD (fun i q hi hq => ?_), hD (HB0.out.alloc HB0.out.size _)⟩
       rcases Nat.lt_or_ge i j with h1 | h1
       · exact HS.out i q h1 hq
       · obtain rfl : i = j := by omega
         rw [HP.out] at hq
         injection hq with hq
         subst hq
         exact HE.out
      case measure => simp [intOf]; omega
  · obtain rfl : j = n := by omega
    go_wp2_with fail
    go_ret
    refine ⟨ret_int ?_, HB0.out⟩
    congr 1
    refine (Mp.cut_is (by omega) HS.out (fun q hq => ?_)).symm
    rw [List.getElem?_eq_none (by omega)] at hq
    cases hq
set_option maxHeartbeats 1000000 in
theorem pred_any (w : World) {kb B B' : Nat} {A A1 A2 : Option Addr} {n c c1 c2 n2 : Nat} {k k1 : List Nat} (hk : ∀ x ∈ k, x < 256) (hk1 : ∀ x ∈ k1, x < 256) (hc : w.cell? ⟨kb, 0, none⟩ = some (.slice A n c)) (h : Rd w B A n (bv k)) (h1 : Rd w B' A1 k1.length (bv k1)) :
 Calls Tryz.prog 154 #[.agg #[.slice A1 k1.length c1, .slice A2 n2 c2], .pointer (some ⟨kb, 0, none⟩)] w fun e w' => e = .returned (.bool (decide (k1 = k))) /\ Below w.heap.size w w' := by
 have hlt := World.block_lt_of_cell? _ _ hc
 have b1 : Below w.heap.size w (w.alloc (.cells #[.slice A1 k1.length c1, .slice A2 n2 c2] 81)) := (Below.refl _ _).alloc lR _
 have hc1 := (b1.cell (p := ⟨kb, 0, none⟩) hlt).trans hc
 have H := hD (h.fit.below b1)
 have H1 := hD (h1.fit.below b1)
 have HK := hD hk
 have HK1 := hD hk1
 clear h h1 hk hk1 hc hlt
 go_enter Tryz.func154, Tryz.ntmps154
 go_wp2_with (first
  | (go_at_call 115; refine (equal_any _ _ _ _ _ _ _ _ _ _ _ HK1.out HK.out H1.out H.out).mono ?_; rintro e w2 ⟨rfl, rfl⟩)
  | fail)
 go_ret
 exact ⟨rfl, b1⟩
def GotC (w : World) (ps : List Pr) (e : Ending) (w' : World) : Prop := ∃ g, e = .returned (.slice (some ⟨g, 0, none⟩) ps.length (ps.length + 1)) /\ OwnP w w' (some ⟨g, 0, none⟩) ps.length (ps.length + 1) ps /\ Below w.heap.size w w'
set_option maxHeartbeats 2000000 in
set_option maxRecDepth 100000 in
theorem copiedM_raw (ps : List Pr) (A : Option Addr) (n c B : Nat) (hn : n <= 100000) (hL : LimP ps) (w : World) (hr : RdP w B A n ps) :
 Calls Tryz.prog 141 #[.slice A n c] w (GotC w ps) := by
 have HL := hD hL
 have HR := hD hr.fit
 have hlen := hr.length
 obtain ⟨i0, hi0, hi1, hi2, hi3⟩ := info_parts cellP.info
 clear hr hL
 go_enter Tryz.func141, Tryz.ntmps141
 go_wp2_with (first
  | (at_make
     refine wpList_make_own w rfl _ _ 31 rfl w.heap.size 81 i0 _ 2 Tryz.underlying31 hi0 hi1 hi2 _ _ _ (n + 1) rfl rfl (by push_cast; rfl) (by rw [hi3]; omega) (by unfold maxLen; omega) lR ?_
     intro w0 hown0 hg0)
  | fail)
 clear hi0 hi1 hi2 hi3
 obtain ⟨g, hg⟩ : ∃ g, w.heap.size = g := ⟨_, rfl⟩
 have HB00 := hD ((Below.refl w.heap.size w).grown hg0 lR (fun k hk => by cases hk))
 have HO00 : Hid (OwnP w w0 (some ⟨g, 0, none⟩) 0 (n + 1) []) := hD ⟨[], by rw [<- hg]; exact hown0, Owns.nil w w0⟩
 clear hown0 hg0
 rw [hg]
 have HG := hD hg
 clear hg
 go_loopw [3, 5, 12] (fun s3 s5 s12 wr => ∃ (k : Nat), k <= n /\ s12 = .int .i64 (k : Int) /\ s3 = .slice (some ⟨g, 0, none⟩) k (n + 1) /\ Hid (OwnP w wr (some ⟨g, 0, none⟩) k (n + 1) (ps.take k)) /\ Hid (Below w.heap.size w wr)) (fun _ _ s12 _ => n - (intOf s12).toNat)
 case atStart => exact ⟨0, Nat.zero_le _, rfl, rfl, hD (by simpa using HO00.out), HB00⟩
 case round =>
  obtain ⟨k, hk, rfl, rfl, HO, HB⟩ := hrel
  by_cases hlt : k < n
  · obtain ⟨b, o, p, A1, c1, A2, c2, rfl, hp, hcell1, hcell2, hrd1, hrd2⟩ := ((HR.out.below HB.out).fit).at hlt
    have hl1 : Lim 0 p.1.length := (HL.out p (List.mem_of_getElem? hp)).1
    have hl2 : Lim 0 p.2.length := (HL.out p (List.mem_of_getElem? hp)).2
    have HRD1 := hD hrd1
    have HRD2 := hD hrd2
    have HP := hD hp
    clear hrd1 hrd2 hp
    go_upto_region 5 with fail
    have hb0 : Below wr.heap.size wr (wr.alloc (.cells #[.slice A1 p.1.length c1, .slice A2 p.2.length c2] 81)).drew := ((Below.refl _ _).alloc lR _).drew
    have hBX := HB.out.trans (hb0.mono HB.out.size)
    have HC : Hid (∀ wx, Below (wr.heap.size + 1) (wr.alloc (.cells #[.slice A1 p.1.length c1, .slice A2 p.2.length c2] 81)).drew wx -> wx.cell? ⟨wr.heap.size, 0, none⟩ = some (.slice A1 p.1.length c1) /\ wx.cell? ⟨wr.heap.size, 1, none⟩ = some (.slice A2 p.2.length c2)) :=
     hD (fun wx hb => ⟨(hb.cell (p := ⟨wr.heap.size, 0, none⟩) (by simp)).trans ((Blk.new wr 81 #[.slice A1 p.1.length c1, .slice A2 p.2.length c2]).cell 0), (hb.cell (p := ⟨wr.heap.size, 1, none⟩) (by simp)).trans ((Blk.new wr 81 #[.slice A1 p.1.length c1, .slice A2 p.2.length c2]).cell 1)⟩)
    obtain ⟨wz, hwz⟩ : ∃ wz, wr.alloc (.cells #[.slice A1 p.1.length c1, .slice A2 p.2.length c2] 81) = wz := ⟨_, rfl⟩
    have hsz : wz.heap.size = wr.heap.size + 1 := by rw [<- hwz]; simp
    rw [hwz] at hb0 hBX HC |-
    have HW := hD hwz
    have HSZ := hD hsz
    have HBX := hD hBX
    have HB0 := hD hb0
    have hc0 := HC.out wz.drew (Below.refl _ _)
    obtain ⟨hcA, hcB⟩ := hc0
    clear hwz hsz hBX hb0
    go_region_law (first
     | (refine step_append_fits (W := w) cellP (.tmp 16) (.tmp 24) rfl rfl (by rfl) (ownsRow_below hv1 ((Below.refl _ _).alloc lR _)) (by rfl) (Rd.twoAt _ _ _ _ rfl) (by intro u hu; simp at hu; rcases hu with rfl | rfl <;> rfl) (by omega) (by omega) (hB2.alloc hB2.size _) ?_
        intro w3 hown3 hB3 hg3)
     | (rw [if_pos (by kernel_rfl)]; go_simp; go_at_call_of 40 A1; refine (clone_any (W := w) hl1 (HRD1.out.below HB0.out) HBX.out).mono ?_; rintro e w1 ⟨A4, c4, rfl, ho1, hB1, hb1⟩; obtain ⟨hcA, hcB⟩ := HC.out w1 (by rw [<- HSZ.out]; exact hb1); go_simp)
     | (rw [if_pos (by kernel_rfl)]; go_simp; go_at_call_of 40 A2; refine (clone_any (W := w) hl2 (HRD2.out.below (HB0.out.trans (hb1.mono HB0.out.size))) hB1).mono ?_; rintro e w2 ⟨A5, c5, rfl, ho2, hB2, hb2⟩; have ho1 := own_below ho1 hb2; obtain ⟨vs, hv1, hv2⟩ := (HO.out.below (HB0.out.trans (hb1.mono HB0.out.size))).below hb2; go_simp))
    all_goals go_wp2_with fail
    all_goals go_roundw
    all_goals first
     | (simp only [intOf]; omega)
     | (refine ⟨k + 1, by omega, by go_num, rfl, hD ?_, hD hB3⟩
        have b1 : Below w2.heap.size w2 (w2.alloc (.cells #[.slice A4 p.1.length c4, .slice A5 p.2.length c5] 81)) := (Below.refl _ _).alloc lR _
        refine ⟨vs ++ [.slice A4 p.1.length c4, .slice A5 p.2.length c5], hown3, ?_⟩
        rw [List.take_add_one, HP.out, flat_append]
        exact ((hv2.two ho1 ho2).below b1).grownP (ownsRow_below hv1 b1) hg3)
  · obtain rfl : k = n := by omega
    go_wp2_with fail
    go_ret
    have HO2 := HO.out
    rw [List.take_of_length_le (by omega)] at HO2
    subst hlen
    exact ⟨g, rfl, HO2, HB.out⟩
theorem copiedM_any {W w : World} {ps : List Pr} {A : Option Addr} {n c B : Nat} (hn : n <= 100000) (hL : LimP ps) (hr : RdP w B A n ps) (hB : Below W.heap.size W w) :
 Calls Tryz.prog 141 #[.slice A n c] w fun e w' => ∃ g, e = .returned (.slice (some ⟨g, 0, none⟩) ps.length (ps.length + 1)) /\ OwnP W w' (some ⟨g, 0, none⟩) ps.length (ps.length + 1) ps /\ Below W.heap.size W w' /\ Below w.heap.size w w' :=
 (copiedM_raw ps A n c B hn hL w hr).mono fun e w' ⟨g, h1, h2, h3⟩ => ⟨g, h1, h2.of hB.size, hB.trans (h3.mono hB.size), h3⟩
set_option maxHeartbeats 1000000 in
theorem indexFunc_any (w : World) {kb n c n' c' B B' : Nat} {A A' : Option Addr} {ps : List Pr} {k : List Nat} (hn : n <= 100000) (hb : BytesP ps) (hbk : ∀ x ∈ k, x < 256) (h : RdP w B A n ps) (hc : w.cell? ⟨kb, 0, none⟩ = some (.slice A' n' c')) (h' : Rd w B' A' n' (bv k)) :
 Calls Tryz.prog 159 #[.slice A n c, .func (.func 154) #[] #[.pointer (some ⟨kb, 0, none⟩)]] w fun e w' => e = .returned (.int .i64 (Mp.place (Mp.keys ps) k)) /\ Below w.heap.size w w' := by
 have hlen := h.length
 have hlt0 := World.block_lt_of_cell? _ _ hc
 have H := hD h.fit
 have H' := hD h'.fit
 have HB := hD hb
 have HBK := hD hbk
 have HC : Hid (∀ wx, Below w.heap.size w wx -> wx.cell? ⟨kb, 0, none⟩ = some (.slice A' n' c')) := hD (fun wx hb => (hb.cell (p := ⟨kb, 0, none⟩) hlt0).trans hc)
 clear h h' hb hbk hc hlt0
 go_enter Tryz.func159, Tryz.ntmps159
 go_wp2_with fail
 go_loopw [5, 8] (fun s5 s8 wr => ∃ j : Nat, j <= n /\ s8 = .int .i64 j /\ Hid (∀ i, i < j -> (Mp.keys ps)[i]? ≠ some k) /\ Hid (Below w.heap.size w wr)) (fun _ s8 _ => n - (intOf s8).toNat)
 case atStart => exact ⟨0, Nat.zero_le _, rfl, hD (fun i hi => absurd hi (by omega)), hD (Below.refl _ _)⟩
 case round =>
  obtain ⟨j, hj, rfl, HS, HB0⟩ := hrel
  by_cases hlt : j < n
  · obtain ⟨b, o, p, A1, c1, A2, c2, rfl, hp, hcell1, hcell2, hrd1, hrd2⟩ := ((H.out.below HB0.out).fit).at hlt
    have HP := hD hp
    have HR1 := hD hrd1
    have HBP := hD (HB.out p (List.mem_of_getElem? hp)).1
    clear hp hrd1 hrd2
    by_cases he : p.1 = k
    · have HE := hD he
      have HD := hD (decide_eq_true he)
      clear he
      go_wp2_with (first
       | (go_at_call 154; refine (pred_any _ HBK.out HBP.out (HC.out _ HB0.out) (H'.out.below HB0.out) HR1.out).mono ?_; rw [HD.out]; rintro e w2 ⟨rfl, hb2⟩)
       | fail)
      go_ret
      exact ⟨ret_int (Mp.place_first (by rw [keys_at HP.out, HE.out]) HS.out).symm, HB0.out.trans (hb2.mono HB0.out.size)⟩
    · have HE := hD he
      have HD := hD (decide_eq_false he)
      clear he
      go_wp2_with (first
       | (go_at_call 154; refine (pred_any _ HBK.out HBP.out (HC.out _ HB0.out) (H'.out.below HB0.out) HR1.out).mono ?_; rw [HD.out]; rintro e w2 ⟨rfl, hb2⟩)
       | fail)
      go_roundw
      case rel =>
       refine ⟨j + 1, by omega, by go_num, hD (fun i hi => ?_), hD (HB0.out.trans (hb2.mono HB0.out.size))⟩
       rcases Nat.lt_or_ge i j with h1 | h1
       · exact HS.out i h1
       · obtain rfl : i = j := by omega
         rw [keys_at HP.out]
         intro h; injection h with h; exact HE.out h
      case measure => simp [intOf]; omega
  · obtain rfl : j = n := by omega
    have HPL := hD (Mp.place_none (s := Mp.keys ps) (x := k) (by rw [keys_length, hlen]; exact HS.out))
    go_wp2_with fail
    go_ret
    exact ⟨ret_int HPL.out.symm, HB0.out⟩
def Swept (ps : List Pr) (i0 i : Nat) (qs : List Pr) : Prop := ∀ t, qs[t]? = if t < i0 then ps[t]? else if t < i then ps[t + 1]? else ps[t]?
theorem Swept.start (ps : List Pr) (i0 : Nat) : Swept ps i0 i0 ps := fun t => by split <;> rfl
theorem Swept.next {ps : List Pr} {i0 i : Nat} {qs : List Pr} {p : Pr} (h : Swept ps i0 i qs) (hi : i0 <= i) (hlt : i + 1 < ps.length) (hp : ps[i + 1]? = some p) : Swept ps i0 (i + 1) (qs.set i p) := fun t => by
 have hl : i < qs.length := by
  have h1 : qs[i]? = ps[i]? := by rw [h i, if_neg (by omega), if_neg (by omega)]
  have h2 : ps[i]? = some ps[i] := List.getElem?_eq_getElem (by omega)
  rw [h2] at h1
  exact (List.getElem?_eq_some_iff.1 h1).1
 by_cases hit : i = t
 · subst hit
   rw [List.getElem?_set_self hl, if_neg (by omega), if_pos (by omega), hp]
 · rw [List.getElem?_set_ne hit, h t]
   by_cases h1 : t < i0
   · rw [if_pos h1, if_pos h1]
   · rw [if_neg h1, if_neg h1]
     by_cases h2 : t < i
     · rw [if_pos h2, if_pos (by omega)]
     · rw [if_neg h2, if_neg (by omega)]
theorem Swept.at {ps : List Pr} {i0 i : Nat} {qs : List Pr} (h : Swept ps i0 i qs) (hi : i0 <= i) : qs[i + 1]? = ps[i + 1]? := by rw [h, if_neg (by omega), if_neg (by omega)]
theorem Swept.done {ps : List Pr} {i0 i : Nat} {qs : List Pr} (h : Swept ps i0 i qs) (hi : i0 <= i) (hl : i + 1 = ps.length) : qs.take i = ps.eraseIdx i0 := by
 apply List.ext_getElem?
 intro t
 rw [List.getElem?_eraseIdx]
 rcases Nat.lt_or_ge t i with h1 | h1
 · rw [List.getElem?_take_of_lt h1, h t]
   by_cases h2 : t < i0
   · rw [if_pos h2, if_pos h2]
   · rw [if_neg h2, if_neg h2, if_pos h1]
 · rw [List.getElem?_eq_none (by simp; omega), if_neg (by omega), List.getElem?_eq_none (by omega)]
theorem flat_set {ps : List Pr} {i : Nat} {p : Pr} (hi : i < ps.length) : flat (ps.set i p) = ((flat ps).set (i * 2) p.1).set (i * 2 + 1) p.2 := by
 induction ps generalizing i with
 | nil => simp at hi
 | cons q ps ih =>
   cases i with
   | zero => rfl
   | succ i =>
     rw [List.set_cons_succ, flat_cons, flat_cons, ih (by simpa using hi), show (i + 1) * 2 + 1 = (i * 2 + 1) + 1 + 1 by omega, show (i + 1) * 2 = i * 2 + 1 + 1 by omega]; rfl
theorem rises_other {ps : List Pr} {i j : Nat} {p q : Pr} (h : Mp.Rises ps) (hi : ps[i]? = some p) (hj : ps[j]? = some q) (hij : i < j) : q.1 ≠ p.1 := by
 obtain ⟨h1, e1⟩ := List.getElem?_eq_some_iff.1 hi
 obtain ⟨h2, e2⟩ := List.getElem?_eq_some_iff.1 hj
 have := List.pairwise_iff_getElem.1 h i j h1 h2 hij
 rw [e1, e2] at this
 intro h; rw [h, Mp.ltB_irrefl] at this; cases this
set_option maxHeartbeats 4000000 in
set_option maxRecDepth 100000 in
theorem deleteFunc_any {W w : World} {kb g n c n' c' B' : Nat} {A' : Option Addr} {ps : List Pr} {k : List Nat} (hn : n <= 100000) (hnc : n < c) (hb : BytesP ps) (hbk : ∀ x ∈ k, x < 256) (hrise : Mp.Rises ps)
 (h : OwnP W w (some ⟨g, 0, none⟩) n c ps) (hc : W.cell? ⟨kb, 0, none⟩ = some (.slice A' n' c')) (h' : Rd W B' A' n' (bv k)) (hB : Below W.heap.size W w) :
 Calls Tryz.prog 153 #[.slice (some ⟨g, 0, none⟩) n c, .func (.func 154) #[] #[.pointer (some ⟨kb, 0, none⟩)]] w fun e w' => e = .returned (.slice (some ⟨g, 0, none⟩) (Mp.delS ps k).length c) /\ OwnP W w' (some ⟨g, 0, none⟩) (Mp.delS ps k).length c (Mp.delS ps k) /\ Below W.heap.size W w' := by
 obtain rfl := h.length
 have hlt0 := World.block_lt_of_cell? _ _ hc
 have H := hD h
 have H' := hD h'.fit
 have HB := hD hb
 have HBK := hD hbk
 have HR := hD hrise
 have HBW := hD hB
 have HC : Hid (∀ wx, Below W.heap.size W wx -> wx.cell? ⟨kb, 0, none⟩ = some (.slice A' n' c')) := hD (fun wx hb => (hb.cell (p := ⟨kb, 0, none⟩) hlt0).trans hc)
 have HI := hD (indexFunc_any w (A := some ⟨g, 0, none⟩) (c := c) hn hb hbk h.rd (HC.out w hB) (h'.fit.below hB))
 clear h h' hb hbk hc hlt0 hrise hB
 unfold Mp.delS
 by_cases hk : k ∈ Mp.keys ps
 · rw [if_pos hk]
   obtain ⟨i0, ei, hi, hix⟩ := Mp.place_lt hk
   rw [hix]
   rw [ei] at HI
   have hin : i0 < ps.length := by
    have h1 : i0 < (Mp.keys ps).length := by
     rcases Nat.lt_or_ge i0 (Mp.keys ps).length with h | h
     · exact h
     · rw [List.getElem?_eq_none h] at hi; cases hi
    rwa [keys_length] at h1
   obtain ⟨p0, hp0⟩ : ∃ p, ps[i0]? = some p := ⟨_, List.getElem?_eq_getElem hin⟩
   have hk0 : p0.1 = k := by
    rw [keys_at hp0] at hi; injection hi
   have HP0 := hD hp0
   have HK0 := hD hk0
   have hne1 : ((i0 : Int) == -1) = false := beq_eq_false_iff_ne.2 (by omega)
   have hel : (ps.eraseIdx i0).length = ps.length - 1 := by rw [List.length_eraseIdx_of_lt hin]
   rw [hel]
   have HEL := hD hel
   clear hk ei hi hix hp0 hk0 hel
   go_enter Tryz.func153, Tryz.ntmps153
   go_wp2_with (first
    | (go_at_call 159; refine HI.out.mono ?_; rintro e w1 ⟨rfl, hb1⟩)
    | fail)
   have HO1 := hD (H.out.below hb1)
   have HB1 := hD (HBW.out.trans (hb1.mono HBW.out.size))
   clear hb1 HI H
   go_loopw [5, 6, 7] (fun s5 s6 s7 wr => ∃ (i : Nat) (qs : List Pr), i0 <= i /\ i + 1 <= ps.length /\ s5 = .int .i64 (i : Int) /\ s6 = .int .i64 ((i : Int) + 1) /\ Hid (OwnP W wr (some ⟨g, 0, none⟩) ps.length c qs) /\ Hid (Swept ps i0 i qs) /\ Hid (Below W.heap.size W wr)) (fun s5 _ _ _ => ps.length - (intOf s5).toNat)
   case atStart => exact ⟨i0, ps, Nat.le_refl _, by omega, rfl, by go_num, HO1, hD (Swept.start _ _), HB1⟩
   case round =>
    obtain ⟨i, qs, hi0, hi1, rfl, rfl, HO, HS, HBR⟩ := hrel
    obtain ⟨vs, hrow, hown⟩ := HO.out
    have hql : qs.length = ps.length := HO.out.length
    by_cases hlt : i + 1 < ps.length
    · obtain ⟨p, hp⟩ : ∃ p, ps[i + 1]? = some p := ⟨_, List.getElem?_eq_getElem hlt⟩
      have hqp : qs[i + 1]? = some p := by rw [HS.out.at hi0, hp]
      obtain ⟨A1, c1, e1, ho1⟩ := hown.cell ((i + 1) * 2) p.1 (by rw [flat_key, hqp]; rfl)
      obtain ⟨A2, c2, e2, ho2⟩ := hown.cell ((i + 1) * 2 + 1) p.2 (by rw [flat_val, hqp]; rfl)
      have hcx := (hrow.cellAt ((i + 1) * 2) (by omega)).trans e1
      have hcy := (hrow.cellAt ((i + 1) * 2 + 1) (by omega)).trans e2
      have hne := rises_other HR.out HP0.out hp (by omega)
      rw [HK0.out] at hne
      have HD := hD (decide_eq_false hne)
      have hltz : (i : Int) + 1 < (ps.length : Int) := by omega
      have b1 : Below wr.heap.size wr (wr.alloc (.cells #[.slice A1 p.1.length c1, .slice A2 p.2.length c2] 81)) := (Below.refl _ _).alloc lR _
      have bw1 := HBR.out.trans (b1.mono HBR.out.size)
      have HPR : Hid (Calls Tryz.prog 154 #[.agg #[.slice A1 p.1.length c1, .slice A2 p.2.length c2], .pointer (some ⟨kb, 0, none⟩)] (wr.alloc (.cells #[.slice A1 p.1.length c1, .slice A2 p.2.length c2] 81)) fun e w' => e = .returned (.bool false) /\ Below (wr.heap.size + 1) (wr.alloc (.cells #[.slice A1 p.1.length c1, .slice A2 p.2.length c2] 81)) w') := hD (by
       have := pred_any (wr.alloc (.cells #[.slice A1 p.1.length c1, .slice A2 p.2.length c2] 81)) (A2 := A2) (c1 := c1) (n2 := p.2.length) (c2 := c2) HBK.out (HB.out p (List.mem_of_getElem? hp)).1 (HC.out _ bw1) (H'.out.below bw1) ((Rd.own_ ho1).below b1)
       rw [HD.out] at this
       simpa using this)
      have HROW := hD hrow
      have HOWN := hD hown
      have HO1 := hD ho1
      have HO2 := hD ho2
      have HB1 := hD b1
      have HP := hD hp
      clear hrow hown ho1 ho2 hp hqp e1 e2 hne b1 bw1
      go_wp2_with (first
       | (go_at_call 154; refine HPR.out.mono ?_; rintro e w2 ⟨rfl, hb2⟩
          have hbox0 := (hb2.cell (p := ⟨wr.heap.size, 0, none⟩) (by simp)).trans ((Blk.new wr 81 #[.slice A1 p.1.length c1, .slice A2 p.2.length c2]).cell 0)
          have hbox1 := (hb2.cell (p := ⟨wr.heap.size, 1, none⟩) (by simp)).trans ((Blk.new wr 81 #[.slice A1 p.1.length c1, .slice A2 p.2.length c2]).cell 1)
          have hb3 : Below wr.heap.size wr w2 := HB1.out.trans (hb2.mono (by simp))
          have hrow2 := ownsRow_below HROW.out hb3
          have hf0 := own_frozenS hrow2 (i * 2)
          have hf1 := own_frozenS hrow2 (i * 2 + 1)
          obtain ⟨u0, hu0⟩ : ∃ u, w2.cell? ⟨g, i * 2, none⟩ = some u := ⟨_, (hrow2.cellAt (i * 2) (by omega)).trans (List.getElem?_eq_getElem (by rw [hrow2.1]; omega))⟩
          obtain ⟨u1, hu1⟩ : ∃ u, w2.cell? ⟨g, i * 2 + 1, none⟩ = some u := ⟨_, (hrow2.cellAt (i * 2 + 1) (by omega)).trans (List.getElem?_eq_getElem (by rw [hrow2.1]; omega))⟩
          have HROW2 := hD hrow2
          have HB3 := hD hb3
          clear hrow2 hb2 hb3)
       | fail)
      go_roundw
      case rel =>
       obtain ⟨cur, hbk, _, _, _, hbase⟩ := own_cur HROW2.out
       refine ⟨i + 1, qs.set i p, by omega, by omega, by go_num, by go_num, hD ⟨(vs.set (i * 2) (.slice A1 p.1.length c1)).set (i * 2 + 1) (.slice A2 p.2.length c2), ((HROW2.out.stored (i * 2) _).1.stored (i * 2 + 1) _).1, ?_⟩, hD (HS.out.next hi0 hlt HP.out), hD (((HBR.out.trans (HB3.out.mono HBR.out.size)).setCell (p := ⟨g, i * 2, none⟩) hbase _).setCell (p := ⟨g, i * 2 + 1, none⟩) hbase _)⟩
       rw [flat_set (by omega)]
       have q1 : 5 ≠ 81 := by decide
       have s0 := ((HOWN.out.below HB3.out).set_t hbk (i := i * 2) (u := .slice A1 p.1.length c1) q1).set_t (hbk.set_ _ _) (i := i * 2 + 1) (u := .slice A2 p.2.length c2) q1
       exact (s0.set (own_set_t (own_set_t (own_below HO1.out HB3.out) hbk q1) (hbk.set_ _ _) q1) _).set (own_set_t (own_set_t (own_below HO2.out HB3.out) hbk q1) (hbk.set_ _ _) q1) _
      case measure => simp [intOf]; omega
    · obtain ⟨cur, hbk, hcs, htk, _, hbase⟩ := own_cur hrow
      have hie : i + 1 = ps.length := by omega
      have hltz : ¬ (i : Int) + 1 < (ps.length : Int) := by omega
      obtain ⟨t0, ht0, htz, hts, _⟩ := info_parts cellP.info
      have hsl1 : ∀ w : World, (Instr.slice 31 (.slice (some ⟨g, 0, none⟩) ps.length c) (some (.int .i64 (i : Int))) none none).run Tryz.prog w = .ok (.slice (some ⟨g, i * 2, none⟩) 1 (c - i)) w := fun w => by
       have := run_slice_fromS_ (P := Tryz.prog) Tryz.underlying31 ht0 hts (some ⟨g, 0, none⟩) ps.length c i (by omega) w
       unfold cutS at this
       rw [if_neg (by omega), Option.map_some, adr_add, Nat.zero_add, show ps.length - i = 1 by omega] at this
       exact this
      have hsl2 := run_slice_to (P := Tryz.prog) (t := 31) Tryz.underlying31 ht0 (some ⟨g, 0, none⟩) ps.length c i (by omega)
      have hcl := fun ty => run_clear_one (P := Tryz.prog) wr 31 ty 81 t0 _ Tryz.underlying31 ht0 htz (by intro u hu; simp [Value.cells] at hu; subst hu; rfl) g (i * 2) (c - i) cur hbk (by simp [Value.cells]; omega)
      obtain ⟨wz, hwz⟩ : ∃ wz, wr.setRow g (cur.toList.take (i * 2) ++ (Value.agg #[.slice none 0 0, .slice none 0 0]).cells.toList ++ cur.toList.drop (i * 2 + (Value.agg #[.slice none 0 0, .slice none 0 0]).cells.size)).toArray = wz := ⟨_, rfl⟩
      rw [hwz] at hcl
      have HWZ := hD hwz
      have HHROW := hD hrow
      have HOWN := hD hown
      have HCS := hD hcs
      have HTK := hD htk
      have HBK2 := hD hbk
      clear hwz hrow hown hbk hcs htk ht0 htz hts
      go_wp2_with fail
      go_ret
      have hz2 : (Value.agg #[.slice none 0 0, .slice none 0 0]).cells = #[.slice none 0 0, .slice none 0 0] := rfl
      have hwz := HWZ.out
      rw [hz2] at hwz
      obtain ⟨r1, r2⟩ := own_written HHROW.out (n' := i) (vs' := vs.take (i * 2)) (cur.toList.take (i * 2) ++ [Value.slice none 0 0, Value.slice none 0 0] ++ cur.toList.drop (i * 2 + 2)).toArray (by have := HCS.out; simp; omega) (by omega) (by rw [List.length_take, HHROW.out.1]; omega) (by
       have := HCS.out
       rw [List.append_assoc, List.take_append_of_le_length (by simp; omega), List.take_take, Nat.min_self, <- HTK.out, List.take_take, Nat.min_eq_left (by omega)])
      rw [show wr.setRow g (cur.toList.take (i * 2) ++ [Value.slice none 0 0, Value.slice none 0 0] ++ cur.toList.drop (i * 2 + 2)).toArray = wz from hwz] at r1 r2
      refine ⟨?_, ⟨_, by rw [show ps.length - 1 = i by omega]; exact r1, ?_⟩, HBR.out.grown r2 HBR.out.size (fun k hk => by injection hk with hk; omega)⟩
      · rw [show ps.length - 1 = i by omega]; rfl
      · rw [<- HS.out.done hi0 hie, flat_take]
        exact (HOWN.out.take (i * 2)).grownP HHROW.out r2
 · rw [if_neg hk]
   have hpn := Mp.place_no hk
   rw [hpn] at HI
   clear hk hpn
   go_enter Tryz.func153, Tryz.ntmps153
   go_wp2_with (first
    | (go_at_call 159; refine HI.out.mono ?_; rintro e w1 ⟨rfl, hb1⟩)
    | fail)
   go_ret
   exact ⟨rfl, H.out.below hb1, HBW.out.trans (hb1.mono HBW.out.size)⟩
set_option maxHeartbeats 1000000 in
theorem withoutM_raw {w : World} {ps : List Pr} {k : List Nat} {A A' : Option Addr} {n c n' c' B B' : Nat} (hn : n <= 100000) (hL : LimP ps) (hb : BytesP ps) (hbk : ∀ x ∈ k, x < 256) (hrise : Mp.Rises ps) (h : RdP w B A n ps) (h' : Rd w B' A' n' (bv k)) :
 Calls Tryz.prog 142 #[.slice A n c, .slice A' n' c'] w fun e w' => ∃ g c2, e = .returned (.slice (some ⟨g, 0, none⟩) (Mp.delS ps k).length c2) /\ (Mp.delS ps k).length < c2 /\ OwnP w w' (some ⟨g, 0, none⟩) (Mp.delS ps k).length c2 (Mp.delS ps k) /\ Below w.heap.size w w' := by
 obtain rfl := h.length
 have b1 : Below w.heap.size w (w.alloc (.cells #[.slice A' n' c'] 24)) := (Below.refl _ _).alloc lR _
 have H := hD (h.fit.below b1)
 have H' := hD (h'.fit.below b1)
 have HL := hD hL
 have HB := hD hb
 have HBK := hD hbk
 have HR := hD hrise
 have HC := hD ((Blk.new w 24 #[.slice A' n' c']).cell 0)
 have HB1 := hD b1
 obtain ⟨wb, hwb⟩ : ∃ wb, w.alloc (.cells #[.slice A' n' c'] 24) = wb := ⟨_, rfl⟩
 rw [hwb] at H H' HC HB1
 have HW := hD hwb
 clear h h' hL hb hbk hrise b1 hwb
 go_enter Tryz.func142, Tryz.ntmps142
 go_wp2_with (first
  | (go_at_call 141; rw [HW.out]; refine (copiedM_any (W := wb) hn HL.out H.out (Below.refl _ _)).mono ?_; rintro e w1 ⟨g, rfl, ho1, hB1, _⟩
     have HD := hD (deleteFunc_any (W := wb) (kb := w.heap.size) hn (by omega) HB.out HBK.out HR.out ho1 HC.out H'.out hB1))
  | (go_at_call 153; refine HD.out.mono ?_; rintro e w2 ⟨rfl, ho2, hB2⟩)
  | fail)
 go_ret
 have hs : w.heap.size <= wb.heap.size := HB1.out.size
 refine ⟨g, ps.length + 1, rfl, ?_, ho2.of hs, HB1.out.trans (hB2.mono hs)⟩
 unfold Mp.delS
 split
 · have := (List.eraseIdx_sublist ps (Mp.idx (Mp.keys ps) k)).length_le; omega
 · omega
theorem withoutM_any {W w : World} {ps : List Pr} {k : List Nat} {A A' : Option Addr} {n c n' c' B B' : Nat} (hn : n <= 100000) (hL : LimP ps) (hb : BytesP ps) (hbk : ∀ x ∈ k, x < 256) (hrise : Mp.Rises ps) (h : RdP w B A n ps) (h' : Rd w B' A' n' (bv k)) (hB : Below W.heap.size W w) :
 Calls Tryz.prog 142 #[.slice A n c, .slice A' n' c'] w fun e w' => ∃ g c2, e = .returned (.slice (some ⟨g, 0, none⟩) (Mp.delS ps k).length c2) /\ (Mp.delS ps k).length < c2 /\ OwnP W w' (some ⟨g, 0, none⟩) (Mp.delS ps k).length c2 (Mp.delS ps k) /\ Below W.heap.size W w' /\ Below w.heap.size w w' :=
 (withoutM_raw hn hL hb hbk hrise h h').mono fun e w' ⟨g, c2, h1, h2, h3, h4⟩ => ⟨g, c2, h1, h2, h3.of hB.size, hB.trans (h4.mono hB.size), h4⟩
section
variable {P : Program}
end
set_option maxHeartbeats 4000000 in
set_option maxRecDepth 100000 in
theorem insert_any {W w : World} {g n c i vb c1 c2 : Nat} {A1 A2 : Option Addr} {ps : List Pr} {k v : List Nat} (hn : n <= 100000) (hin : i <= n) (hnc : n < c) (hgv : vb ≠ g)
 (h : OwnP W w (some ⟨g, 0, none⟩) n c ps) (hvb : Blk w vb 81 #[.slice A1 k.length c1, .slice A2 v.length c2]) (ho1 : OwnB W w A1 k.length c1 k) (ho2 : OwnB W w A2 v.length c2 v) (hB : Below W.heap.size W w) :
 Calls Tryz.prog 143 #[.slice (some ⟨g, 0, none⟩) n c, .int .i64 (i : Int), .slice (some ⟨vb, 0, none⟩) 1 1] w fun e w' => e = .returned (.slice (some ⟨g, 0, none⟩) (n + 1) c) /\ OwnP W w' (some ⟨g, 0, none⟩) (n + 1) c (ps.take i ++ (k, v) :: ps.drop i) /\ Below W.heap.size W w' := by
 obtain rfl := h.length
 obtain ⟨vs, hrow, hown⟩ := h
 have hvl : vs.length = ps.length * 2 := hrow.1
 obtain ⟨cur, hbk, hcs, htk, _, hbase⟩ := own_cur hrow
 obtain ⟨t0, ht0, htz, hts, _⟩ := info_parts cellP.info
 have hcmax : c <= 9223372036854775807 := by have := (own_cap hrow).2; unfold maxLen at this; omega
 have hsl := fun (m j : Nat) (hj : j <= m) (w : World) => run_slice_fromS_ (P := Tryz.prog) Tryz.underlying31 ht0 hts (some ⟨g, 0, none⟩) m c j hj w
 have hcut : ∀ j, j < c -> cutS (some ⟨g, 0, none⟩) c j 2 = some ⟨g, j * 2, none⟩ := fun j hj => by
  unfold cutS; rw [if_neg (by omega), Option.map_some, adr_add, Nat.zero_add]
 have hs1 := hsl ps.length i hin
 rw [hcut i (by omega)] at hs1
 have hz1 : ¬ (1 : Int) = 0 := by omega
 rcases Nat.lt_or_ge i ps.length with hlt | hge
 · have hne : ¬ ((i : Int) = (ps.length : Int)) := by omega
   have hs2 := hsl (ps.length + 1) (i + 1) (by omega)
   rw [hcut (i + 1) (by omega), show ps.length + 1 - (i + 1) = ps.length - i by omega] at hs2
   have hs3 := hsl (ps.length + 1) i (by omega)
   rw [hcut i (by omega)] at hs3
   have hs4 := run_slice_to (P := Tryz.prog) (t := 31) Tryz.underlying31 ht0 (some ⟨g, 0, none⟩) ps.length c (ps.length + 1) (by omega)
   rw [show (((i + 1 : Nat)) : Int) = (i : Int) + 1 by omega] at hs2
   rw [show (((ps.length + 1 : Nat)) : Int) = (ps.length : Int) + 1 by omega] at hs4
   have hw1 : IntKind.i64.wrap ((ps.length : Int) + 1) = (ps.length : Int) + 1 := IntWalk.i64_in _ (by omega)
   have hw2 : IntKind.i64.wrap ((i : Int) + 1) = (i : Int) + 1 := IntWalk.i64_in _ (by omega)
   have hroom : ¬ (c : Int) < (ps.length : Int) + 1 := by omega
   have hcur2 : cur.size = c * 2 := hcs
   have hdl : (vs.drop (i * 2)).length = (ps.length - i) * 2 := by rw [List.length_drop, hvl]; omega
   have hcp1 : ∀ ty dc sc, (Builtin.copy_ #[31, 31] ty #[.slice (some ⟨g, (i + 1) * 2, none⟩) (ps.length - i) dc, .slice (some ⟨g, i * 2, none⟩) (ps.length + 1 - i) sc]).run Tryz.prog w.drew = .ok (.int .i64 ((ps.length - i : Nat) : Int)) (w.drew.setRow g (cur.toList.take ((i + 1) * 2) ++ vs.drop (i * 2) ++ cur.toList.drop ((i + 1) * 2 + (vs.drop (i * 2)).length)).toArray) := fun ty dc sc =>
    run_copy_blk (P := Tryz.prog) w.drew _ _ ty 81 g ((i + 1) * 2) (ps.length - i) dc ⟨g, i * 2, none⟩ (ps.length + 1 - i) sc cur 81 (vs.drop (i * 2)) 2 (ps.length - i) Tryz.underlying31 (by rw [ht0]; simp [hts]) hbk (by simp only [Nat.min_def]; split <;> omega) hdl
     (fun j u hj => by
       rw [List.getElem?_drop] at hj
       rw [adr_add, <- hj]
       have hjl : i * 2 + j < vs.length := (List.getElem?_eq_some_iff.1 hj).1
       exact hrow.cellAt (i * 2 + j) (by omega)) (by rw [hdl]; omega) (fun u hu => hown.one u (List.mem_of_mem_drop hu))
   obtain ⟨cs1, hcs1⟩ : ∃ cs1, (cur.toList.take ((i + 1) * 2) ++ vs.drop (i * 2) ++ cur.toList.drop ((i + 1) * 2 + (vs.drop (i * 2)).length)) = cs1 := ⟨_, rfl⟩
   rw [hcs1] at hcp1
   have hcs1l : cs1.length = c * 2 := by rw [<- hcs1]; simp [hdl]; omega
   obtain ⟨W1, hW1⟩ : ∃ W1, w.drew.setRow g cs1.toArray = W1 := ⟨_, rfl⟩
   rw [hW1] at hcp1
   have hbk1 : Blk W1 g 81 cs1.toArray := by rw [<- hW1]; exact setRow_heap w.drew g cur _ _ _ hbk
   have hvb1 : Blk W1 vb 81 #[.slice A1 k.length c1, .slice A2 v.length c2] := by rw [<- hW1]; exact (setRow_other w.drew g vb _ hgv).trans hvb
   have hcp2 : ∀ ty dc, (Builtin.copy_ #[31, 31] ty #[.slice (some ⟨g, i * 2, none⟩) (ps.length + 1 - i) dc, .slice (some ⟨vb, 0, none⟩) 1 1]).run Tryz.prog W1 = .ok (.int .i64 ((1 : Nat) : Int)) (W1.setRow g (cs1.toArray.toList.take (i * 2) ++ [Value.slice A1 k.length c1, Value.slice A2 v.length c2] ++ cs1.toArray.toList.drop (i * 2 + 2)).toArray) := fun ty dc =>
    run_copy_blk (P := Tryz.prog) W1 _ _ ty 81 g (i * 2) (ps.length + 1 - i) dc ⟨vb, 0, none⟩ 1 1 cs1.toArray 81 [Value.slice A1 k.length c1, Value.slice A2 v.length c2] 2 1 Tryz.underlying31 (by rw [ht0]; simp [hts]) hbk1 (by simp only [Nat.min_def]; split <;> omega) rfl
     (fun j u hj => by rw [adr_add, hvb1.cell, Nat.zero_add]; simpa using hj) (by simp; omega) (by intro u hu; simp at hu; rcases hu with rfl | rfl <;> rfl)
   obtain ⟨cs2, hcs2⟩ : ∃ cs2, (cs1.toArray.toList.take (i * 2) ++ [Value.slice A1 k.length c1, Value.slice A2 v.length c2] ++ cs1.toArray.toList.drop (i * 2 + 2)) = cs2 := ⟨_, rfl⟩
   rw [hcs2] at hcp2
   obtain ⟨W2, hW2⟩ : ∃ W2, W1.setRow g cs2.toArray = W2 := ⟨_, rfl⟩
   rw [hW2] at hcp2
   have hov : ∀ lb cb, (callFunc 155 #[.slice (some ⟨vb, 0, none⟩) 1 1, .slice (some ⟨g, (i + 1) * 2, none⟩) lb cb]).run Tryz.prog w = .ok (.value (.bool false)) w := fun lb cb => by
    rw [run_callFunc_extern Tryz.func155 (by kernel_rfl) (by kernel_rfl) (by kernel_rfl) (e := Extern.SlicesOverlaps.overlaps #[31, 31] #[4]) (by kernel_rfl),
     Lib.run_overlaps_apart w 31 4 81 Tryz.underlying31 2 (fun w => by simp [sizeOf, typeInfo, ht0, hts]) ⟨vb, 0, none⟩ ⟨g, (i + 1) * 2, none⟩ 1 1 lb cb hgv 81 81 2 cur.size
      (by unfold Blk at hvb; simp [World.shape?, hvb]) (by unfold Blk at hbk; simp [World.shape?, hbk]) (by omega) (hvb.frozen 0) (hvb.frozen 2)]
    rfl
   have HFIN : Hid (OwnP W W2 (some ⟨g, 0, none⟩) (ps.length + 1) c (ps.take i ++ (k, v) :: ps.drop i) /\ Below W.heap.size W W2) := hD (by
    have hW : W2 = w.drew.setRow g cs2.toArray := by rw [<- hW2, <- hW1, setRow_setRow]
    have hc2l : cs2.length = c * 2 := by rw [<- hcs2]; simp; omega
    have htk2 : cs2.take ((ps.length + 1) * 2) = vs.take (i * 2) ++ [Value.slice A1 k.length c1, Value.slice A2 v.length c2] ++ vs.drop (i * 2) := by
     have hxl : (cur.toList.take ((i + 1) * 2)).length = (i + 1) * 2 := by simp; omega
     have e1 : cs1.take (i * 2) = vs.take (i * 2) := by
      rw [<- hcs1, List.append_assoc, List.take_append_of_le_length (by omega), List.take_take, Nat.min_eq_left (by omega), <- htk, List.take_take, Nat.min_eq_left (by omega)]
     have e2 : cs1.drop (i * 2 + 2) = vs.drop (i * 2) ++ cur.toList.drop ((i + 1) * 2 + (vs.drop (i * 2)).length) := by
      rw [<- hcs1, List.append_assoc, show i * 2 + 2 = (i + 1) * 2 by omega, List.drop_append_of_le_length (by omega), List.drop_of_length_le (by omega)]; rfl
     rw [<- hcs2]
     rw [e1, e2, <- List.append_assoc, List.take_append_of_le_length (by simp; omega), List.take_of_length_le (by simp; omega)]
    obtain ⟨r1, r2⟩ := own_written (w := w.drew) (own_drew hrow) (n' := ps.length + 1) (vs' := vs.take (i * 2) ++ [Value.slice A1 k.length c1, Value.slice A2 v.length c2] ++ vs.drop (i * 2)) cs2.toArray (by simpa using hc2l) (by omega) (by simp [hvl]; omega) (by simpa using htk2)
    rw [<- hW] at r1 r2
    refine ⟨⟨_, r1, ?_⟩, hB.drew.grown r2 hB.size (fun k hk => by injection hk with hk; omega)⟩
    rw [flat_insert]
    have hd : Below w.heap.size w w.drew := (Below.refl _ _).drew
    have hmid : Owns W w.drew [Value.slice A1 k.length c1, Value.slice A2 v.length c2] [k, v] := by
     have := (Owns.nil W w.drew).two (own_below ho1 hd) (own_below ho2 hd)
     simpa using this
    exact ((((hown.below hd).take (i * 2)).append hmid).append ((hown.below hd).drop (i * 2))).grownP (own_drew hrow) r2)
   clear hbk hcs htk ht0 htz hts hsl hcut hrow hown hvb ho1 ho2 hB hdl hcs1 hcs1l hW1 hbk1 hvb1 hcs2 hW2 hcur2 hvl hbase
   go_enter Tryz.func143, Tryz.ntmps143
   go_wp2_with (simp only [hov])
   go_region_law (refine step_copy_known rfl _ _ 31 31 rfl _ _ (by simp [Act.eval, Act.put]) (by simp [Act.eval, Act.put]) (hcp1 _ _ _) ?_)
   go_wp2_with (at_builtin; refine wpList_copy_known _ rfl _ _ 31 31 rfl _ _ rfl rfl (hcp2 _ _) ?_)
   go_ret
   exact ⟨rfl, HFIN.out⟩
 · obtain rfl : i = ps.length := by omega
   have HROW := hD hrow
   have HOWN := hD hown
   have HVB := hD hvb
   have HO1 := hD ho1
   have HO2 := hD ho2
   have HBW := hD hB
   have HSRC : Hid (Rd w w.heap.size (some ⟨vb, 0, none⟩) (1 * 2) [Value.slice A1 k.length c1, Value.slice A2 v.length c2]) := hD ⟨rfl, fun _ => ⟨vb, 0, rfl, hvb.lt, fun j hj => by rw [Nat.zero_add, hvb.cell]; simp⟩⟩
   clear hbk hcs htk ht0 htz hts hsl hcut hrow hown hvb ho1 ho2 hB hvl hbase
   go_enter Tryz.func143, Tryz.ntmps143
   go_wp2_with (first
    | (at_builtin
       refine wpList_append_fits (W := W) cellP (.tmp 23) (.tmp 24) rfl (by rfl) rfl HROW.out rfl HSRC.out (by intro u hu; simp at hu; rcases hu with rfl | rfl <;> rfl) (by omega) (by omega) HBW.out ?_
       intro w2 hown2 hB2 hg2)
    | fail)
   go_ret
   refine ⟨rfl, ⟨_, hown2, ?_⟩, hB2⟩
   rw [List.take_length, List.drop_length, flat_append]
   exact (HOWN.out.two HO1.out HO2.out).grownP HROW.out hg2
end Go.Proofs.YtlgpglhbbkikpaaGreat
