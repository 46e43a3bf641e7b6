/- PackIn PackRef -/
import Derived.Test.YtmekamgohonffaaGreatBT00
import Derived.Test.YtmekamgohonffaaGreatBT24
import Derived.Deep.RegionHeld3
namespace Go.Proofs.YtmekamgohonffaaGreat
open Go.RowKit
set_option linter.unusedVariables false
theorem rnum_is (w : World) (b : Nat) (s : Pk.St) (most : Int) (h : RdrAt w b s) (v : Nat) (s' : Pk.St) (hv : Pk.numV s most = v) (hs : Pk.numS s most = s') :
 Calls Tryz.prog 25 #[.pointer (some ⟨b, 0, none⟩), .int .i64 most] w (NumP w b v s') := by
 subst hv hs; exact rnum_any w b s most h
theorem rbytes_is (w : World) (b : Nat) (s : Pk.St) (most : Int) (h : RdrAt w b s) (v : List Nat) (s' : Pk.St) (hv : Pk.bytV s most = v) (hs : Pk.bytS s most = s') :
 Calls Tryz.prog 27 #[.pointer (some ⟨b, 0, none⟩), .int .i64 most] w (BytP w b v s') := by
 subst hv hs; exact rbytes_any w b s most h
theorem read_in {W w : World} {l : List Nat} {A : Option Addr} {n c B : Nat} (hn : Lim 40 n) (hl : ∀ x ∈ l, x < 256) (hr : Rd w B A n (bv l)) (hB : Below W.heap.size W w) :
 Calls Tryz.prog 24 #[.slice A n c] w fun e w' => ∃ b, e = .returned (.pointer (some ⟨b, 0, none⟩)) /\ RdrAt w' b (some l) /\ W.heap.size <= b /\ w.heap.size <= b /\ Below W.heap.size W w' /\ Below w.heap.size w w' :=
 (readP_any l A n c B hn hl w hr).mono fun e w' ⟨b, h1, h2, h3, h4⟩ => ⟨b, h1, h2, Nat.le_trans hB.size h3, h3, hB.trans (h4.mono hB.size), h4⟩
theorem put_in {W w : World} {l l' : List Nat} {A : Option Addr} {n c B : Nat} {N : Int} (hn : Lim 20 n) (hr : Rd w B A n (bv l)) (hB : Below W.heap.size W w) (he : l ++ Pk.enc (Pk.held N) = l') :
 Calls Tryz.prog 31 #[.slice A n c, .int .i64 N] w fun e w' => ∃ A n c, e = .returned (.slice A n c) /\ OwnB W w' A n c l' /\ Below W.heap.size W w' /\ Below w.heap.size w w' := by
 subst he
 refine (num_any l A n c B N hn w hr).mono ?_
 rintro e w' ⟨A, n, c, h1, h2, h3⟩
 exact ⟨A, n, c, h1, own_base h2 hB.size, hB.trans (h3.mono hB.size), h3⟩
theorem putb_in {W w : World} {l x l' : List Nat} {A : Option Addr} {n c B : Nat} {A' : Option Addr} {n' c' B' : Nat} (hr : Rd w B A n (bv l)) (hr' : Rd w B' A' n' (bv x)) (hn : Lim 20 (l.length + x.length)) (hB : Below W.heap.size W w) (he : l ++ Pk.encB x = l') :
 Calls Tryz.prog 32 #[.slice A n c, .slice A' n' c'] w fun e w' => ∃ A n c, e = .returned (.slice A n c) /\ OwnB W w' A n c l' /\ Below W.heap.size W w' /\ Below w.heap.size w w' := by
 subst he
 have h1 := hr.length
 have h2 := hr'.length
 have h3 := hn.out
 refine (bytes_any l x A n c B A' n' c' B' (by unfold Lim; omega) (by unfold Lim; omega) (by unfold Lim; omega) w hr hr').mono ?_
 rintro e w' ⟨A, n, c, h1, h2, h3⟩
 exact ⟨A, n, c, h1, own_base h2 hB.size, hB.trans (h3.mono hB.size), h3⟩
theorem ref_byte {m : Nat} : bits .or .i64 ((m : Int) % 128) 128 % 256 = ((m % 128 + 128 : Nat) : Int) := by
 have h1 : bits .or .i64 ((m : Int) % 128) 128 = ((m % 128 ||| 128 : Nat) : Int) := by
  have := i64_or_nat (m % 128) 128 (by omega) (by omega)
  simpa using this
 rw [h1, Nat.or_comm, nat_join 7 128 (m % 128) (by decide) (by omega)]
 omega
theorem i64_and_127 (n : Int) : bits .and .i64 n 127 = n % 128 := by
 show IntKind.i64.wrap ((BitVec.ofInt 64 n &&& BitVec.ofInt 64 127).toNat : Int) = _
 have e : (BitVec.ofInt 64 n &&& BitVec.ofInt 64 127).toNat = (n % 128).toNat := by
  rw [BitVec.toNat_and]
  have h1 : (BitVec.ofInt 64 127).toNat = 2 ^ 7 - 1 := by decide
  rw [h1, Nat.and_two_pow_sub_one_eq_mod, BitVec.toNat_ofInt]
  omega
 rw [e, IntKind.wrap_i64]
 omega
set_option maxRecDepth 100000 in
theorem refnum_any (l : List Nat) (A : Option Addr) (n c B : Nat) (N : Int) (hn : Lim 20 n) (w : World) (hr : Rd w B A n (bv l)) :
 Calls Tryz.prog 17 #[.slice A n c, .int .i64 N] w (GotB w (l ++ Pk.enc (Pk.held N))) := by
 have hT : PutT (Pk.held N) := Pk.held_le N
 have HL := hD (Pk.enc_length (Pk.held N))
 have HLn := hD hr.length
 have H := hD hr.fit
 have h1 := fun (w : World) ts t => run_max0 (P := Tryz.prog) w ts t N
 have h2 := fun (w : World) ts t => run_min_top (P := Tryz.prog) w ts t N
 have hB0 : Below w.heap.size w w := Below.refl _ _
 clear hr
 go_enter Tryz.func17, Tryz.ntmps17
 go_wp2_with (first
  | (at_builtin
     refine wpList_append_bytes (W := w) byteT (.tmp 6) (.tmp 7) rfl (by rfl) rfl (own_empty hB0 5) rfl ((H.out).alloc lR _) (by have := hn.out; omega) (hB0.alloc lR _) ?_
     intro A1 c1 w1 hown1 hr1 hB1
     simp only [Nat.zero_add, List.nil_append] at hown1 hr1)
  | fail)
 clear h1 h2 hr1
 go_loopw [1, 5] (fun s1 s5 wr => ∃ (m : Nat) (A' : Option Addr) (n' c' : Nat) (l' : List Nat), PutT m /\ s1 = .int .i64 m /\ s5 = .slice A' n' c' /\ OwnB w wr A' n' c' l' /\ Below w.heap.size w wr /\ Hid (l' ++ Pk.enc m = l ++ Pk.enc (Pk.held N)) /\ n' <= n + 9)
  (fun s1 _ _ => (intOf s1).toNat)
 case atStart => exact ⟨_, _, _, _, l, hT, rfl, rfl, hown1, hB1, hD rfl, by omega⟩
 case round =>
  obtain ⟨m, A', n', c', l', hm, rfl, rfl, hown, hB', hl, hn'⟩ := hrel
  have hm2 : (m : Int) <= 4611686018427387904 := by have : m <= Pk.top := hm; unfold Pk.top at this; omega
  have hm0 : (0 : Int) <= (m : Int) := by omega
  by_cases hlt : 128 <= m
  · have HE := hD (Pk.enc_big hlt hm)
    have hq : PutT (m / 128) := by have : m <= Pk.top := hm; exact Nat.le_trans (Nat.div_le_self _ _) this
    have HB := hD (Pk.enc_length (m / 128))
    have e127 := i64_and_127 (m : Int)
    go_wp2_with (first
     | (at_builtin
        refine wpList_append_bytes (W := w) byteT (.tmp 14) (.tmp 19) rfl (by rfl) rfl (hown.alloc _) rfl (Rd.oneI wr (x := m % 128 + 128) ref_byte 5) (by have := hn.out; omega) (hB'.alloc hB'.size _) ?_
        intro A2 c2 w2 hown2 hr2 hB2)
     | fail)
    go_roundw
    case rel =>
     have HL' := hD (congrArg List.length hl.out)
     refine ⟨m / 128, A2, n' + 1, c2, l' ++ [m % 128 + 128], hq, by go_num, rfl, hown2, hB2, hD ?_, ?_⟩
     · have := hl.out
       rw [HE.out] at this
       rw [<- this, List.append_assoc]; rfl
     · have h1 := HL'.out
       have h2 := HL.out
       have h3 := own_len hown
       have h4 := HLn.out
       have h5 := HB.out
       rw [HE.out] at h1
       simp only [List.length_append, List.length_cons] at h1
       omega
    case measure => simp [intOf]; omega
  · have HE := hD (Pk.enc_small (n := m) (by omega))
    have hi : (m : Int) < 128 := by omega
    go_wp2_with (first
     | (at_builtin
        refine wpList_append_bytes (W := w) byteT (.tmp 23) (.tmp 26) rfl (by rfl) rfl (hown.alloc _) rfl (Rd.oneI wr (x := m) (by omega) 5) (by have := hn.out; omega) (hB'.alloc hB'.size _) ?_
        intro A2 c2 w2 hown2 hr2 hB2)
     | fail)
    go_ret
    have h1 := hl.out
    rw [HE.out] at h1
    rw [h1] at hown2
    exact ⟨_, _, _, rfl, hown2, hB2⟩
theorem refbytes_any (l x : List Nat) (A : Option Addr) (n c B : Nat) (A' : Option Addr) (n' c' B' : Nat) (hn : Lim 20 n) (hn' : Lim 20 n') (hs : Lim 20 (n + n')) (w : World) (hr : Rd w B A n (bv l)) (hr' : Rd w B' A' n' (bv x)) :
 Calls Tryz.prog 16 #[.slice A n c, .slice A' n' c'] w (GotB w (l ++ Pk.encB x)) := by
 have HL := hD hr.length
 have HX := hD hr'.length
 have H := hD hr
 have H' := hD hr'.fit
 have HE := hD (Pk.enc_length n')
 have HD := hD (held_len hn')
 clear hr hr'
 go_enter Tryz.func16, Tryz.ntmps16
 go_wp2_with fail
 refine (refnum_any l A n c B n' hn _ H.out).mono ?_
 rintro e w2 ⟨A2, n2, c2, rfl, hown2, hB2⟩
 have HN2 := hD (own_len hown2)
 go_wp2_with (first
  | (at_builtin
     refine wpList_append_bytes (W := w) byteT (.tmp 8) (.tmp 9) rfl (by rfl) rfl hown2 rfl (H'.out.below hB2) (by
      have h1 := HN2.out; have h3 := HL.out; have h4 := HE.out; have h5 := hs.out
      rw [HD.out, List.length_append] at h1; omega) hB2 ?_
     intro A3 c3 w3 hown3 hr3 hB3)
  | fail)
 go_ret
 refine ⟨_, _, _, rfl, ?_, hB3⟩
 have h6 := hown3
 rw [HD.out] at h6
 unfold Pk.encB
 rw [HX.out, <- List.append_assoc]
 exact h6
def RefAt (w : World) (B b : Nat) (s : Pk.St) : Prop := ∃ A n c, Blk w b 68 #[.slice A n c, .bool s.isNone] /\ n <= c /\ c <= maxLen /\ Lim 40 n /\ B <= b /\ ∀ l, s = some l -> Rd w B A n (bv l) /\ ∀ x ∈ l, x < 256
theorem RefAt.lt {w : World} {B b : Nat} {s : Pk.St} (h : RefAt w B b s) : b < w.heap.size := by
 obtain ⟨A, n, c, h1, _⟩ := h
 exact h1.lt
theorem RefAt.below {w w' : World} {B b : Nat} {s : Pk.St} (h : RefAt w B b s) (hb : Below w.heap.size w w') : RefAt w' B b s := by
 have hlt := h.lt
 obtain ⟨A, n, c, h1, h2, h3, h4, h5, h6⟩ := h
 exact ⟨A, n, c, h1.below hb, h2, h3, h4, h5, fun l hl => ⟨(h6 l hl).1.keep (fun p hp => hb.cell (by omega)) lR, (h6 l hl).2⟩⟩
theorem RefAt.only {w w' : World} {B b b' : Nat} {s : Pk.St} (h : RefAt w B b s) (ho : Only b' w w') (hB : B <= b') (hne : b ≠ b') : RefAt w' B b s := by
 have hlt := h.lt
 obtain ⟨A, n, c, h1, h2, h3, h4, h5, h6⟩ := h
 exact ⟨A, n, c, h1.grown ho (by intro he; injection he with he; exact hne he), h2, h3, h4, h5, fun l hl => ⟨(h6 l hl).1.grown ho hB (by omega), (h6 l hl).2⟩⟩
theorem ref_set {w : World} {b n c n' c' : Nat} {A A' : Option Addr} {f g : Bool} (hb : Blk w b 68 #[.slice A n c, .bool f]) : Blk ((w.setCell ⟨b, 1, none⟩ (.bool g)).setCell ⟨b, 0, none⟩ (.slice A' n' c')) b 68 #[.slice A' n' c', .bool g] := (hb.set_ 1 (.bool g)).set_ 0 (.slice A' n' c')
theorem u8_and_127 {x : Nat} (h : x < 256) : bits .and .u8 (x : Int) 127 = (x : Int) % 128 := by
 have := u8_and_nat x 127 h (by decide)
 rw [nat_mask7] at this
 exact this
theorem or_group64 {k acc x : Nat} (hk : k < 9) (ha : acc < 128 ^ k) (hx : x < 256) :
 bits .or .u64 (acc : Int) (IntKind.u64.wrap ((x : Int) % 128 * 2 ^ (7 * k))) = ((acc + x % 128 * 128 ^ k : Nat) : Int) := by
 have e128 : (128 : Nat) ^ k = 2 ^ (7 * k) := by rw [Nat.pow_mul]
 have hp : (128 : Nat) ^ k <= 128 ^ 8 := Nat.pow_le_pow_right (by omega) (by omega)
 have hm : x % 128 * 128 ^ k <= 127 * 128 ^ k := Nat.mul_le_mul_right _ (by omega)
 have e1 : ((x : Int) % 128 * 2 ^ (7 * k)) = ((x % 128 * 128 ^ k : Nat) : Int) := by rw [e128]; simp
 have e2 : IntKind.u64.wrap ((x : Int) % 128 * 2 ^ (7 * k)) = ((x % 128 * 128 ^ k : Nat) : Int) := by
  rw [e1]
  refine IntWalk.u64_in _ ?_
  generalize x % 128 * 128 ^ k = q at hm
  omega
 rw [e2, u64_or_nat _ _ (by omega) (by omega), Nat.or_comm, nat_join (7 * k) _ _ (by rw [e128]; exact Nat.mul_mod_left _ _) (by rw [<- e128]; exact ha), Nat.add_comm]
theorem ref_bad {w : World} {B b n c : Nat} {A : Option Addr} {f : Bool} (hb : Blk w b 68 #[.slice A n c, .bool f]) (h2 : n <= c) (h3 : c <= maxLen) (h4 : Lim 40 n) (h5 : B <= b) :
 RefAt (w.setCell ⟨b, 1, none⟩ (.bool true)) B b none := ⟨A, n, c, hb.set_ 1 (.bool true), h2, h3, h4, h5, fun l hl => by cases hl⟩
theorem ref_cut {w : World} {B b n c k : Nat} {A : Option Addr} {l : List Nat} (hb : Blk w b 68 #[.slice A n c, .bool false]) (h2 : n <= c) (h3 : c <= maxLen) (h4 : Lim 40 n) (h5 : B <= b) (hr : Rd w B A n (bv l)) (hl : ∀ x ∈ l, x < 256) (hk : k <= n) :
 RefAt (w.setCell ⟨b, 0, none⟩ (.slice (cutAt A c k) (n - k) (c - k))) B b (some (l.drop k)) := by
 refine ⟨cutAt A c k, n - k, c - k, hb.set_ 0 _, by omega, by omega, by have := h4.out; unfold Lim; omega, h5, fun l' hl' => ?_⟩
 injection hl' with hl'
 subst hl'
 have h6 := (hr.drop hk h2).keep (w' := w.setCell ⟨b, 0, none⟩ (.slice (cutAt A c k) (n - k) (c - k))) (fun p hp => World.cell?_setCell_other w _ p _ (fun e => by subst e; simp at hp; omega)) lR
 rw [<- bv_drop] at h6
 exact ⟨h6, fun x hx => hl x (List.mem_of_mem_drop hx)⟩
def RefNumP (w : World) (B b : Nat) (v : Nat) (s : Pk.St) (e : Ending) (w' : World) : Prop := e = .returned (.int .i64 (v : Int)) /\ RefAt w' B b s /\ Only b w w' /\ w'.heap.size = w.heap.size
set_option maxHeartbeats 2000000 in
set_option maxRecDepth 100000 in
theorem refrnum_any (w : World) (B b : Nat) (s : Pk.St) (most : Int) (h : RefAt w B b s) :
 Calls Tryz.prog 37 #[.pointer (some ⟨b, 0, none⟩), .int .i64 most] w (RefNumP w B b (Pk.numV s most) (Pk.numS s most)) := by
 have HR := hD h
 obtain ⟨A, n, c, hblk, h2, h3, h4, h5, h6⟩ := h
 have hc0 : w.cell? ⟨b, 0, none⟩ = some (.slice A n c) := hblk.cell 0
 have hc1 : w.cell? ⟨b, 1, none⟩ = some (.bool s.isNone) := hblk.cell 1
 have hf0 := hblk.frozen 0
 have hf1 := hblk.frozen 1
 have HB := hD hblk
 have HM := hD h3
 rcases s with _ | l
 · clear hblk h6 h3
   go_enter Tryz.func37, Tryz.ntmps37
   go_wp2_with fail
   go_loop [5, 6] (fun _ s6 => s6 = .int .i64 0) (fun _ i => 0)
   case atStart => rfl
   case round =>
    subst hrel
    go_wp2
    go_ret
    exact ⟨rfl, HR.out, only_refl b w, rfl⟩
 · obtain ⟨hrd, hl⟩ := h6 l rfl
   have HL := hD hrd.length
   have HX := hD hl
   have H := hD hrd
   have hm1 := fun (w : World) ts t => run_max0 (P := Tryz.prog) w ts t most
   have hm2 := fun (w : World) ts t => run_min_top (P := Tryz.prog) w ts t most
   clear hblk h6 hrd hl h3
   go_enter Tryz.func37, Tryz.ntmps37
   go_wp2_with fail
   go_loop [5, 6] (fun s5 s6 => ∃ k acc : Nat, k <= n /\ k <= 9 /\ s6 = .int .i64 k /\ s5 = .int .u64 acc /\ Hid (Pk.dec k acc (l.drop k) = Pk.first l /\ acc < 128 ^ k)) (fun _ i => 9 - (intOf i).toNat)
   case atStart => exact ⟨0, 0, by omega, by omega, rfl, rfl, hD ⟨rfl, by simp⟩⟩
   case round =>
    obtain ⟨k, acc, hk, hk9, rfl, rfl, hd⟩ := hrel
    by_cases hlt : k < n /\ k < 9
    · obtain ⟨hkn, hk8⟩ := hlt
      have hkl : k < l.length := by have := HL.out; omega
      obtain ⟨b', o, rfl, hk', hcell⟩ := H.out.bytes_at hkn
      obtain ⟨x, hxe⟩ : ∃ x, x = l[k] := ⟨_, rfl⟩
      have hx : x < 256 := by rw [hxe]; exact HX.out _ (List.getElem_mem hkl)
      rw [<- hxe] at hcell
      have HE := hD hxe
      have e127 := u8_and_127 hx
      have hk0 : (0 : Int) <= (k : Int) := by omega
      have hkn' : (k : Int) < (n : Int) := by omega
      clear hxe
      by_cases hbig : 128 <= x
      · have HD := hD (show Pk.dec k acc (l.drop k) = Pk.dec (k + 1) (acc + x % 128 * 128 ^ k) (l.drop (k + 1)) by
         rw [List.drop_eq_getElem_cons hkl, <- HE.out]
         simp only [Pk.dec]
         rw [if_neg (by omega), if_pos hbig])
        go_wp2
        go_round
        case rel =>
         refine ⟨k + 1, acc + x % 128 * 128 ^ k, by omega, by omega, by go_num, by rw [or_group64 (by omega) hd.out.2 hx], hD ⟨?_, ?_⟩⟩
         · rw [<- HD.out]; exact hd.out.1
         · have h1 := hd.out.2
           have h2 : 128 ^ (k + 1) = 128 * 128 ^ k := by rw [Nat.pow_succ, Nat.mul_comm]
           have h3 : x % 128 * 128 ^ k <= 127 * 128 ^ k := Nat.mul_le_mul_right _ (by omega)
           omega
        case measure => simp [intOf]; omega
      · obtain ⟨v, hv⟩ : ∃ v, v = acc + x * 128 ^ k := ⟨_, rfl⟩
        have he : bits .or .u64 (acc : Int) (IntKind.u64.wrap ((x : Int) % 128 * 2 ^ (7 * k))) = (v : Int) := by
         rw [or_group64 (by omega) hd.out.2 hx, hv, show x % 128 = x by omega]
        have hheld : ((Pk.held most : Nat) : Int) <= 4611686018427387904 := by have := Pk.held_le most; unfold Pk.top at this; omega
        have hheld0 : (0 : Int) <= ((Pk.held most : Nat) : Int) := by omega
        by_cases hz : x = 0 /\ 0 < k
        · have HN := hD (show Pk.numN (some l) most = none by
           have h1 : Pk.first l = (0, 0) := by
            rw [<- hd.out.1, List.drop_eq_getElem_cons hkl, <- HE.out]
            simp only [Pk.dec]
            rw [if_neg (by omega), if_neg hbig, if_pos hz]
           simp [Pk.numN, Pk.rNum, h1])
          have hz0 : ((x : Int) == 0) = true := by simp; omega
          have hk1 : (1 : Int) < (k : Int) + 1 := by omega
          clear hv hz hd
          go_wp2
          go_ret
          unfold RefNumP Pk.numV Pk.numS
          rw [HN.out]
          exact ⟨rfl, ref_bad HB.out h2 HM.out h4 h5, only_set (only_refl b w) 1 _, by simp [World.setCell]⟩
        · have hF : Pk.first l = (v, k + 1) := by
           rw [<- hd.out.1, List.drop_eq_getElem_cons hkl, <- HE.out]
           simp only [Pk.dec]
           rw [if_neg (by omega), if_neg hbig, if_neg hz, hv]
          have hvb : (v : Int) <= 9223372036854775807 := by have := Pk.first_lt l; rw [hF] at this; simp only at this; omega
          have HF := hD hF
          clear hF hv hd
          obtain ⟨d, hzd, hkd⟩ : ∃ d : Bool, ((x : Int) == 0) = d /\ (d = true -> ¬ (1 : Int) < (k : Int) + 1) := by
           by_cases h0 : x = 0
           · exact ⟨true, by simp; omega, fun _ => by omega⟩
           · exact ⟨false, by simp; omega, fun h => by cases h⟩
          have HKD := hD hkd
          have hz := hz
          clear hz hkd
          by_cases hm : Pk.held most < v
          · have HN := hD (show Pk.numN (some l) most = none by simp [Pk.numN, Pk.rNum, HF.out, hm])
            cases d
            case' true => have hk1 := HKD.out rfl
            all_goals
             go_wp2
             go_ret
             unfold RefNumP Pk.numV Pk.numS
             rw [HN.out]
             exact ⟨rfl, ref_bad HB.out h2 HM.out h4 h5, only_set (only_refl b w) 1 _, by simp [World.setCell]⟩
          · have HN := hD (show Pk.numN (some l) most = some (v, l.drop (k + 1)) by simp [Pk.numN, Pk.rNum, HF.out, hm])
            obtain ⟨i, hi1, hi2, hi3, hi4⟩ := info_parts byteT.info
            have hsl := run_slice_from (P := Tryz.prog) (t := 23) byteT.under hi1 hi3 (some ⟨b', o, none⟩) n c (k + 1) (by omega)
            have hsl' : ∀ w : World, (Instr.slice 23 (.slice (some ⟨b', o, none⟩) n c) (some (.int .i64 ((k : Int) + 1))) none none).run Tryz.prog w = .ok (.slice (cutAt (some ⟨b', o, none⟩) c (k + 1)) (n - (k + 1)) (c - (k + 1))) w := by
             intro w; have := hsl w; simpa using this
            have hkn1 : (k : Int) + 1 <= (n : Int) := by omega
            clear hsl hi1 hi2 hi3 hi4
            cases d
            case' true => have hk1 := HKD.out rfl
            all_goals
             go_wp2
             go_ret
             unfold RefNumP Pk.numV Pk.numS
             rw [HN.out]
             exact ⟨rfl, ref_cut HB.out h2 HM.out h4 h5 H.out HX.out (by omega), only_set (only_refl b w) 0 _, by simp [World.setCell]⟩
    · have HN := hD (show Pk.numN (some l) most = none by
       have h1 : Pk.first l = (0, 0) := by
        rw [<- hd.out.1]
        rcases Nat.lt_or_ge k l.length with h2 | h2
        · rw [List.drop_eq_getElem_cons h2]
          simp only [Pk.dec]
          rw [if_pos (by have := HL.out; omega)]
        · rw [List.drop_of_length_le h2]; rfl
       simp [Pk.numN, Pk.rNum, h1])
      clear hd
      by_cases hkn : k < n
      · have hk8 : (8 : Int) < (k : Int) := by omega
        go_wp2
        go_ret
        unfold RefNumP Pk.numV Pk.numS
        rw [HN.out]
        exact ⟨rfl, ref_bad HB.out h2 HM.out h4 h5, only_set (only_refl b w) 1 _, by simp [World.setCell]⟩
      · go_wp2
        go_ret
        unfold RefNumP Pk.numV Pk.numS
        rw [HN.out]
        exact ⟨rfl, ref_bad HB.out h2 HM.out h4 h5, only_set (only_refl b w) 1 _, by simp [World.setCell]⟩
def RefBytP (W : World) (B b : Nat) (vs : List Nat) (s : Pk.St) (e : Ending) (w' : World) : Prop := ∃ A n c, e = .returned (.slice A n c) /\ OwnB W w' A n c vs /\ RefAt w' B b s /\ Only b W w'
set_option maxHeartbeats 2000000 in
set_option maxRecDepth 100000 in
theorem refrbytes_any (w : World) (B b : Nat) (s : Pk.St) (most : Int) (h : RefAt w B b s) :
 Calls Tryz.prog 39 #[.pointer (some ⟨b, 0, none⟩), .int .i64 most] w (RefBytP w B b (Pk.bytV s most) (Pk.bytS s most)) := by
 have hbl := h.lt
 have hcall := hD (refrnum_any w B b s most h)
 obtain ⟨A0, n0, c0, hblk0, g2, g3, g4, g5, _⟩ := h
 have hc00 : w.cell? ⟨b, 0, none⟩ = some (.slice A0 n0 c0) := hblk0.cell 0
 have G3 := hD g3
 clear hblk0 g3
 by_cases hv : ((Pk.numS s most).getD []).length < Pk.numV s most \/ Pk.numS s most = none
 · obtain ⟨hb1, hb2⟩ : Pk.bytV s most = [] /\ Pk.bytS s most = none := by
    rcases hv with hv | hv
    · exact Pk.byt_no hv
    · unfold Pk.numS at hv
      have h0 : Pk.numN s most = none := by cases h : Pk.numN s most with
       | none => rfl
       | some p => rw [h] at hv; cases hv
      unfold Pk.bytV Pk.bytS Pk.bytN
      rw [h0]
      exact ⟨rfl, rfl⟩
   rw [hb1, hb2]
   clear hb1 hb2
   go_enter Tryz.func39, Tryz.ntmps39
   go_wp2_with fail
   refine hcall.out.mono ?_
   rintro e w1 ⟨rfl, hr1, ho1, hs1⟩
   obtain ⟨A, n, c, hblk, h2, h3, h4, h5, h6⟩ := hr1
   have hc0 : w1.cell? ⟨b, 0, none⟩ = some (.slice A n c) := hblk.cell 0
   have hc1 : w1.cell? ⟨b, 1, none⟩ = some (.bool (Pk.numS s most).isNone) := hblk.cell 1
   have hf0 := hblk.frozen 0
   have hf1 := hblk.frozen 1
   have HB := hD hblk
   have HO := hD ho1
   clear hblk h3 hc00 ho1 hs1
   rcases hq : Pk.numS s most with _ | l1
   · rw [hq] at hc1 hv HB
     clear hq h6 hv
     go_wp2
     go_ret
     exact ⟨none, 0, 0, rfl, World.ownsRow_nil _ _ _ _, ⟨A0, n0, c0, ref_set HB.out, g2, G3.out, g4, g5, fun l hl => by cases hl⟩, only_set (only_set HO.out 1 _) 0 _⟩
   · rw [hq] at hc1 hv HB
     have hlt : n < Pk.numV s most := by
      have := (h6 l1 hq).1.length
      rcases hv with hv | hv
      · have h9 : l1.length < Pk.numV s most := hv
        omega
      · cases hv
     clear hq h6 hv
     go_wp2
     go_ret
     exact ⟨none, 0, 0, rfl, World.ownsRow_nil _ _ _ _, ⟨A0, n0, c0, ref_set HB.out, g2, G3.out, g4, g5, fun l hl => by cases hl⟩, only_set (only_set HO.out 1 _) 0 _⟩
 · obtain ⟨l1, hq⟩ : ∃ l1, Pk.numS s most = some l1 := by
    cases h : Pk.numS s most with
    | none => exact absurd (Or.inr h) hv
    | some l1 => exact ⟨l1, rfl⟩
   have hv' : ¬ ((Pk.numS s most).getD []).length < Pk.numV s most := fun h => hv (Or.inl h)
   obtain ⟨hb1, hb2⟩ := Pk.byt_of hv'
   rw [hq] at hb1 hb2
   have HB1 := hD hb1
   have HB2 := hD hb2
   have HV := hD (show Pk.numV s most <= l1.length by rw [hq] at hv'; exact Nat.le_of_not_lt hv')
   have HQ := hD hq
   clear hb1 hb2 hv hv' hq
   go_enter Tryz.func39, Tryz.ntmps39
   go_wp2_with fail
   refine hcall.out.mono ?_
   rintro e w1 ⟨rfl, hr1, ho1, hs1⟩
   rw [HQ.out] at hr1
   obtain ⟨A, n, c, hblk, h2, h3, h4, h5, h6⟩ := hr1
   obtain ⟨hrd, hl⟩ := h6 l1 rfl
   have hc0 : w1.cell? ⟨b, 0, none⟩ = some (.slice A n c) := hblk.cell 0
   have hc1 : w1.cell? ⟨b, 1, none⟩ = some (.bool false) := hblk.cell 1
   have hlt : Pk.numV s most <= n := by have := hrd.length; have := HV.out; omega
   have hltc : Pk.numV s most <= c := by omega
   have HT := hD hrd
   have HB := hD hblk
   have HL := hD hl
   have HM := hD h3
   have HO := hD ho1
   have hB1 : Below w1.heap.size w1 w1 := Below.refl _ _
   have hca : ∀ o : Obj, (w1.alloc o).cell? ⟨b, 0, none⟩ = some (.slice A n c) := fun o => (HB.out.alloc o).cell 0
   obtain ⟨i, hi1, hi2, hi3, hi4⟩ := info_parts byteT.info
   have hs1' := run_slice_from (P := Tryz.prog) (t := 23) byteT.under hi1 hi3 A n c (Pk.numV s most) hlt
   have hs2 := run_slice_to (P := Tryz.prog) (t := 23) byteT.under hi1 A n c (Pk.numV s most) hltc
   clear hblk h3 hc00 ho1 hs1 hi1 hi2 hi3 hi4 hrd hl h6
   go_wp2_with (first
    | (at_builtin
       refine wpList_append_bytes (W := w1) (l := []) (l' := l1.take (Pk.numV s most)) byteT (.tmp 35) (.tmp 41) rfl (by rfl) rfl (own_empty hB1 5) rfl (((by rw [bv_take]; exact HT.out.take hlt) : Rd w1 B A (Pk.numV s most) (bv (l1.take (Pk.numV s most)))).fit.alloc lR _) (by have := h4.out; omega) (hB1.alloc lR _) ?_
       intro A2 c2 w2 hown2 hr2 hB2
       simp only [Nat.zero_add, List.nil_append] at hown2 hr2
       have hb2 := HB.out.below hB2
       have hc0' : w2.cell? ⟨b, 0, none⟩ = some (.slice A n c) := hb2.cell 0
       have hf0 := hb2.frozen 0
       have HB3 := hD hb2
       clear hb2)
    | fail)
   go_ret
   unfold RefBytP
   rw [HB1.out, HB2.out]
   have ho2 := only_set (only_below HO.out hB2 HO.out.size) 0 (.slice (cutAt A c (Pk.numV s most)) (n - Pk.numV s most) (c - Pk.numV s most))
   have HT2 : Rd w2 B A n (bv l1) := HT.out.keep (fun p hp => hB2.cell (by have := HB.out.lt; omega)) lR
   exact ⟨A2, _, c2, rfl, own_only (own_base hown2 HO.out.size) (only_set (only_refl b w2) 0 _) hbl, ref_cut HB3.out h2 HM.out h4 h5 HT2 HL.out hlt, ho2⟩
theorem refend_any (w : World) (B b : Nat) (s : Pk.St) (h : RefAt w B b s) :
 Calls Tryz.prog 41 #[.pointer (some ⟨b, 0, none⟩)] w fun e w' => e = .returned (.bool (Pk.endOf s)) /\ w = w' := by
 obtain ⟨A, n, c, hblk, h2, h3, h4, h5, h6⟩ := h
 have hc0 : w.cell? ⟨b, 0, none⟩ = some (.slice A n c) := hblk.cell 0
 have hc1 : w.cell? ⟨b, 1, none⟩ = some (.bool s.isNone) := hblk.cell 1
 rcases s with _ | l
 · clear hblk h2 h3 h4 h5 h6
   go_enter Tryz.func41, Tryz.ntmps41
   go_wp2
   go_ret
   exact ⟨rfl, rfl⟩
 · have hlen := (h6 l rfl).1.length
   obtain ⟨d, hd1, hd2⟩ : ∃ d : Bool, ((n : Int) == 0) = d /\ Pk.endOf (some l) = d := by
    refine ⟨_, rfl, ?_⟩
    have hl : l.length = n := hlen
    unfold Pk.endOf
    rw [Bool.eq_iff_iff]
    cases l with
    | nil => simp at hl; simp; omega
    | cons x l => simp at hl; simp; omega
   have HD := hD hd2
   clear hblk h2 h3 h4 h5 h6 hlen hd2
   cases d
   all_goals
    go_enter Tryz.func41, Tryz.ntmps41
    go_wp2
    go_ret
    exact ⟨by rw [HD.out]; rfl, rfl⟩
end Go.Proofs.YtmekamgohonffaaGreat
