/- BookOneWalk -/
import Derived.Test.YtaknfmionkkdjaaGreatFO13
import Derived.Test.YtaknfmionkkdjaaGreatFO38
import Derived.Test.YtaknfmionkkdjaaGreatFO48
import Derived.Test.YtaknfmionkkdjaaGreatFO52
import Derived.Test.YtaknfmionkkdjaaGreatFO53
import Derived.Deep.CutBlock
import Derived.Deep.DeepCutAuto
import Derived.Deep.RegionLaw
namespace Go.Proofs.YtaknfmionkkdjaaGreat
open Go.RowKit
set_option linter.unusedVariables false
theorem run_min30o {P : Program} (w : World) (ts : Array TypeId) (t : TypeId) (n : Nat) : (Builtin.min_ ts t #[.int .i64 (n : Int), .int .i64 30]).run P w = .ok (.int .i64 ((min n 30 : Nat) : Int)) w := by
  have e : ((min n 30 : Nat) : Int) = if (30 : Int) < (n : Int) then 30 else (n : Int) := by omega
  rw [e]
  simp [Builtin.min_, Builtin.min2]
def dstO21 (i : Nat) : Nat := ([87, 88, 89, 90, 91, 92, 93, 94, 95, 96, 97, 98, 99, 100, 101, 102, 103, 104, 105, 106, 107, 108, 109, 110, 111, 112] : List Nat).getD i 0
def depsO21 (i : Nat) : List Nat := ([[], [], [0, 1], [2], [3], [], [5], [4, 6], [7], [8], [8], [9, 10, 8], [8, 11], [12], [13], [13], [14, 15, 13], [16, 13], [17, 13], [13], [13], [19, 20, 13], [21, 13], [18, 22, 13], [23, 13], [13, 24]] : List (List Nat)).getD i []
def FrO21 (gd od ga oa c cd j cl q : Nat) (a1 a2 : CA) (e : En) (a : Act) : Prop := a.eval (.tmp 8) = .int .i64 (j : Int) ∧ a.eval (.tmp 9) = .slice (some ⟨gd, od, none⟩) c cd ∧ a.eval (.tmp 12) = .slice (some ⟨ga, oa, none⟩) j cl ∧ a.eval (.tmp 14) = .int .i64 (q : Int)
def kindsO21 (gd od ga oa c cd j cl q : Nat) (a1 a2 : CA) (e : En) : List KM := [.eq (.slice (some ⟨gd, od, none⟩) c cd), .eq (.int .i64 (q : Int)), .eq (.pointer (some ⟨gd, od + q * 11, none⟩)), .eq (.pointer (some ⟨gd, od + q * 11, none⟩)), .eq (.int .i64 ((q : Int) + 1)), .eq (.int .i64 (q : Int)), .eq (.int .i64 ((q : Int) + 1)), .eq (.bool false), .eq (.bool false), .eq (.int .i64 (q : Int)), .eq (.int .i64 (j : Int)), .eq (.bool false), .eq (.bool false), .eq (.bool false), .eq (.slice (some ⟨gd, od, none⟩) c cd), .eq (.int .i64 (q : Int)), .eq (.pointer (some ⟨gd, od + q * 11, none⟩)), .eq (.pointer (some ⟨gd, od + q * 11 + 1, none⟩)), .eq (.agg #[.int .i64 e.s, .int .i64 e.q, .int .i64 e.c.kind, .int .i64 e.c.who, .slice a1.Ak e.c.key.length a1.ck, .slice a1.Av e.c.val.length a1.cv, .slice a1.Ao e.c.old.length a1.co]), .eq (.slice (some ⟨ga, oa, none⟩) j cl), .eq (.int .i64 (q : Int)), .eq (.pointer (some ⟨ga, oa + q * 7, none⟩)), .eq (.agg #[.int .i64 e.s, .int .i64 e.q, .int .i64 e.c.kind, .int .i64 e.c.who, .slice a2.Ak e.c.key.length a2.ck, .slice a2.Av e.c.val.length a2.cv, .slice a2.Ao e.c.old.length a2.co]), .eq (.bool true), .eq (.bool false), .eq (.bool false)]
def frameO21 (gd od ga oa c cd j cl q : Nat) (a1 a2 : CA) (e : En) (x0 x1 x2 x3 x4 x5 x6 x7 x10 x11 x13 x15 x16 x17 x18 x19 x20 x21 x22 x23 x24 x25 x26 x27 x28 x29 x30 x31 x32 x33 x34 x35 x36 x37 x38 x39 x40 x41 x42 x43 x44 x45 x46 x47 x48 x49 x50 x51 x52 x53 x54 x55 x56 x57 x58 x59 x60 x61 x62 x63 x64 x65 x66 x67 x68 x69 x70 x71 x72 x73 x74 x75 x76 x77 x78 x79 x80 x81 x82 x83 x84 x85 x86 x113 x114 x115 x116 x117 x118 x119 x120 x121 x122 x123 x124 x125 x126 x127 x128 x129 x130 x131 x132 x133 x134 x135 x136 x137 x138 x139 x140 x141 x142 x143 x144 x145 x146 x147 x148 x149 x150 x151 x152 : Value) (U : Nat → Value) : Act := { tmps := List.toArray (x0 :: x1 :: x2 :: x3 :: x4 :: x5 :: x6 :: x7 :: .int .i64 (j : Int) :: .slice (some ⟨gd, od, none⟩) c cd :: x10 :: x11 :: .slice (some ⟨ga, oa, none⟩) j cl :: x13 :: .int .i64 (q : Int) :: x15 :: x16 :: x17 :: x18 :: x19 :: x20 :: x21 :: x22 :: x23 :: x24 :: x25 :: x26 :: x27 :: x28 :: x29 :: x30 :: x31 :: x32 :: x33 :: x34 :: x35 :: x36 :: x37 :: x38 :: x39 :: x40 :: x41 :: x42 :: x43 :: x44 :: x45 :: x46 :: x47 :: x48 :: x49 :: x50 :: x51 :: x52 :: x53 :: x54 :: x55 :: x56 :: x57 :: x58 :: x59 :: x60 :: x61 :: x62 :: x63 :: x64 :: x65 :: x66 :: x67 :: x68 :: x69 :: x70 :: x71 :: x72 :: x73 :: x74 :: x75 :: x76 :: x77 :: x78 :: x79 :: x80 :: x81 :: x82 :: x83 :: x84 :: x85 :: x86 :: U 87 :: U 88 :: U 89 :: U 90 :: U 91 :: U 92 :: U 93 :: U 94 :: U 95 :: U 96 :: U 97 :: U 98 :: U 99 :: U 100 :: U 101 :: U 102 :: U 103 :: U 104 :: U 105 :: U 106 :: U 107 :: U 108 :: U 109 :: U 110 :: U 111 :: U 112 :: x113 :: x114 :: x115 :: x116 :: x117 :: x118 :: x119 :: x120 :: x121 :: x122 :: x123 :: x124 :: x125 :: x126 :: x127 :: x128 :: x129 :: x130 :: x131 :: x132 :: x133 :: x134 :: x135 :: x136 :: x137 :: x138 :: x139 :: x140 :: x141 :: x142 :: x143 :: x144 :: x145 :: x146 :: x147 :: x148 :: x149 :: x150 :: x151 :: x152 :: []), defers := [] }
def dstO28 (i : Nat) : Nat := ([127, 128, 129, 130, 131, 132, 133, 134, 135, 136, 137] : List Nat).getD i 0
def depsO28 (i : Nat) : List Nat := ([[], [], [0, 1], [2], [3], [], [], [5, 6], [7], [4, 8], [9]] : List (List Nat)).getD i []
def FrO28 (gd od gr orr c cd cr q : Nat) (A1 A2 : Option Addr) (c1 c2 : Nat) (rr : MAns) (a : Act) : Prop := a.eval (.tmp 9) = .slice (some ⟨gd, od, none⟩) c cd ∧ a.eval (.tmp 16) = .slice (some ⟨gr, orr, none⟩) c cr ∧ a.eval (.tmp 17) = .int .i64 (q : Int)
def kindsO28 (gd od gr orr c cd cr q : Nat) (A1 A2 : Option Addr) (c1 c2 : Nat) (rr : MAns) : List KM := [.eq (.slice (some ⟨gd, od, none⟩) c cd), .eq (.int .i64 (q : Int)), .eq (.pointer (some ⟨gd, od + q * 11, none⟩)), .eq (.pointer (some ⟨gd, od + q * 11 + 8, none⟩)), .eq (.agg #[.int .i64 rr.e, .slice A1 rr.v.length c1, .int .i64 rr.n]), .eq (.slice (some ⟨gr, orr, none⟩) c cr), .eq (.int .i64 (q : Int)), .eq (.pointer (some ⟨gr, orr + q * 3, none⟩)), .eq (.agg #[.int .i64 rr.e, .slice A2 rr.v.length c2, .int .i64 rr.n]), .eq (.bool true), .eq (.bool false)]
def frameO28 (gd od gr orr c cd cr q : Nat) (A1 A2 : Option Addr) (c1 c2 : Nat) (rr : MAns) (x0 x1 x2 x3 x4 x5 x6 x7 x8 x10 x11 x12 x13 x14 x15 x18 x19 x20 x21 x22 x23 x24 x25 x26 x27 x28 x29 x30 x31 x32 x33 x34 x35 x36 x37 x38 x39 x40 x41 x42 x43 x44 x45 x46 x47 x48 x49 x50 x51 x52 x53 x54 x55 x56 x57 x58 x59 x60 x61 x62 x63 x64 x65 x66 x67 x68 x69 x70 x71 x72 x73 x74 x75 x76 x77 x78 x79 x80 x81 x82 x83 x84 x85 x86 x87 x88 x89 x90 x91 x92 x93 x94 x95 x96 x97 x98 x99 x100 x101 x102 x103 x104 x105 x106 x107 x108 x109 x110 x111 x112 x113 x114 x115 x116 x117 x118 x119 x120 x121 x122 x123 x124 x125 x126 x138 x139 x140 x141 x142 x143 x144 x145 x146 x147 x148 x149 x150 x151 x152 : Value) (U : Nat → Value) : Act := { tmps := List.toArray (x0 :: x1 :: x2 :: x3 :: x4 :: x5 :: x6 :: x7 :: x8 :: .slice (some ⟨gd, od, none⟩) c cd :: x10 :: x11 :: x12 :: x13 :: x14 :: x15 :: .slice (some ⟨gr, orr, none⟩) c cr :: .int .i64 (q : Int) :: x18 :: x19 :: x20 :: x21 :: x22 :: x23 :: x24 :: x25 :: x26 :: x27 :: x28 :: x29 :: x30 :: x31 :: x32 :: x33 :: x34 :: x35 :: x36 :: x37 :: x38 :: x39 :: x40 :: x41 :: x42 :: x43 :: x44 :: x45 :: x46 :: x47 :: x48 :: x49 :: x50 :: x51 :: x52 :: x53 :: x54 :: x55 :: x56 :: x57 :: x58 :: x59 :: x60 :: x61 :: x62 :: x63 :: x64 :: x65 :: x66 :: x67 :: x68 :: x69 :: x70 :: x71 :: x72 :: x73 :: x74 :: x75 :: x76 :: x77 :: x78 :: x79 :: x80 :: x81 :: x82 :: x83 :: x84 :: x85 :: x86 :: x87 :: x88 :: x89 :: x90 :: x91 :: x92 :: x93 :: x94 :: x95 :: x96 :: x97 :: x98 :: x99 :: x100 :: x101 :: x102 :: x103 :: x104 :: x105 :: x106 :: x107 :: x108 :: x109 :: x110 :: x111 :: x112 :: x113 :: x114 :: x115 :: x116 :: x117 :: x118 :: x119 :: x120 :: x121 :: x122 :: x123 :: x124 :: x125 :: x126 :: U 127 :: U 128 :: U 129 :: U 130 :: U 131 :: U 132 :: U 133 :: U 134 :: U 135 :: U 136 :: U 137 :: x138 :: x139 :: x140 :: x141 :: x142 :: x143 :: x144 :: x145 :: x146 :: x147 :: x148 :: x149 :: x150 :: x151 :: x152 :: []), defers := [] }
def dstO31 (i : Nat) : Nat := ([139, 140, 141, 142, 143, 144, 145, 146, 147, 148, 149, 150, 151, 152, 6] : List Nat).getD i 0
def depsO31 (i : Nat) : List Nat := ([[], [0], [], [2], [1, 3], [4], [5], [6, 5], [5], [7, 8, 5], [5, 9], [10], [11], [11, 12], [13]] : List (List Nat)).getD i []
def FrO31 (b g15 c cd : Nat) (Ad : Option Addr) (am : MA) (m : Mc) (a : Act) : Prop := a.eval (.tmp 7) = .pointer (some ⟨b, 0, none⟩) ∧ a.eval (.tmp 9) = .slice Ad c cd ∧ a.eval (.tmp 15) = .pointer (some ⟨g15, 0, none⟩)
def kindsO31 (b g15 c cd : Nat) (Ad : Option Addr) (am : MA) (m : Mc) : List KM := [.eq (.pointer (some ⟨b, 0, none⟩)), .eq (.int .i64 (c : Int)), .eq (.slice Ad c cd), .eq (.int .i64 (c : Int)), .eq (.bool true), .eq (.bool true), .eq (.pointer (some ⟨b, 0, none⟩)), .mac m, .eq (machV am m), .eq (.bool true), .eq (.bool true), .eq (.bool true), .eq (.bool true), .eq (.bool true), .eq (.bool true)]
def frameO31 (b g15 c cd : Nat) (Ad : Option Addr) (am : MA) (m : Mc) (x0 x1 x2 x3 x4 x5 x8 x10 x11 x12 x13 x14 x16 x17 x18 x19 x20 x21 x22 x23 x24 x25 x26 x27 x28 x29 x30 x31 x32 x33 x34 x35 x36 x37 x38 x39 x40 x41 x42 x43 x44 x45 x46 x47 x48 x49 x50 x51 x52 x53 x54 x55 x56 x57 x58 x59 x60 x61 x62 x63 x64 x65 x66 x67 x68 x69 x70 x71 x72 x73 x74 x75 x76 x77 x78 x79 x80 x81 x82 x83 x84 x85 x86 x87 x88 x89 x90 x91 x92 x93 x94 x95 x96 x97 x98 x99 x100 x101 x102 x103 x104 x105 x106 x107 x108 x109 x110 x111 x112 x113 x114 x115 x116 x117 x118 x119 x120 x121 x122 x123 x124 x125 x126 x127 x128 x129 x130 x131 x132 x133 x134 x135 x136 x137 x138 : Value) (U : Nat → Value) : Act := { tmps := List.toArray (x0 :: x1 :: x2 :: x3 :: x4 :: x5 :: U 6 :: .pointer (some ⟨b, 0, none⟩) :: x8 :: .slice Ad c cd :: x10 :: x11 :: x12 :: x13 :: x14 :: .pointer (some ⟨g15, 0, none⟩) :: x16 :: x17 :: x18 :: x19 :: x20 :: x21 :: x22 :: x23 :: x24 :: x25 :: x26 :: x27 :: x28 :: x29 :: x30 :: x31 :: x32 :: x33 :: x34 :: x35 :: x36 :: x37 :: x38 :: x39 :: x40 :: x41 :: x42 :: x43 :: x44 :: x45 :: x46 :: x47 :: x48 :: x49 :: x50 :: x51 :: x52 :: x53 :: x54 :: x55 :: x56 :: x57 :: x58 :: x59 :: x60 :: x61 :: x62 :: x63 :: x64 :: x65 :: x66 :: x67 :: x68 :: x69 :: x70 :: x71 :: x72 :: x73 :: x74 :: x75 :: x76 :: x77 :: x78 :: x79 :: x80 :: x81 :: x82 :: x83 :: x84 :: x85 :: x86 :: x87 :: x88 :: x89 :: x90 :: x91 :: x92 :: x93 :: x94 :: x95 :: x96 :: x97 :: x98 :: x99 :: x100 :: x101 :: x102 :: x103 :: x104 :: x105 :: x106 :: x107 :: x108 :: x109 :: x110 :: x111 :: x112 :: x113 :: x114 :: x115 :: x116 :: x117 :: x118 :: x119 :: x120 :: x121 :: x122 :: x123 :: x124 :: x125 :: x126 :: x127 :: x128 :: x129 :: x130 :: x131 :: x132 :: x133 :: x134 :: x135 :: x136 :: x137 :: x138 :: U 139 :: U 140 :: U 141 :: U 142 :: U 143 :: U 144 :: U 145 :: U 146 :: U 147 :: U 148 :: U 149 :: U 150 :: U 151 :: U 152 :: []), defers := [] }
set_option maxHeartbeats 16000000 in
set_option maxRecDepth 100000 in
theorem bookOne_walk (a0 : Option Addr) (len0 cap0 : Nat) (z0 : List Int) (a1 : Option Addr) (len1 cap1 : Nat) (z1 : List Int) (a2 : Option Addr) (len2 cap2 : Nat) (z2 : List Int) (w : World) (w0 : IsRow .i64 w a0 len0 cap0 z0) (w1 : IsRow .i64 w a1 len1 cap1 z1) (w2 : IsRow .i64 w a2 len2 cap2 z2) :
    Calls Tryz.prog 5 #[.slice a0 len0 cap0, .slice a1 len1 cap1, .slice a2 len2 cap2] w fun e w' => e = .returned (.bool true) ∧ Below w.heap.size w w' := by
  have hi0 := w0.ints
  have hi1 := w1.ints
  have hi2 := w2.ints
  obtain ⟨zs, hzs⟩ : ∃ x, z0.take len0 = x := ⟨_, rfl⟩
  obtain ⟨os, hos⟩ : ∃ x, z1.take len1 = x := ⟨_, rfl⟩
  obtain ⟨ts, hts⟩ : ∃ x, z2.take len2 = x := ⟨_, rfl⟩
  rw [hzs] at hi0
  rw [hos] at hi1
  rw [hts] at hi2
  have H0 := Lib.hid hi0.1
  have H1 := Lib.hid hi1.1
  have H2 := Lib.hid hi2.1
  have HZL : Hid (zs.length = len0 ∧ os.length = len1 ∧ ts.length = len2) := Lib.hid ⟨by have := hi0.1.1; rwa [iv_length] at this, by have := hi1.1.1; rwa [iv_length] at this, by have := hi2.1.1; rwa [iv_length] at this⟩
  have hmin := fun (w : World) ts t => run_min30o (P := Tryz.prog) w ts t len0
  obtain ⟨N, hN⟩ : ∃ N, min len0 30 = N := ⟨_, rfl⟩
  rw [hN] at hmin
  have hN30 : (N : Int) ≤ 30 := by omega
  have HNL := Lib.hid (show N ≤ len0 by omega)
  have HNW := Lib.hid (bkNew w)
  clear w0 w1 w2 hi0 hi1 hi2 hzs hos hts hN
  go_enter Tryz.func5, Tryz.ntmps5
  go_wp2_with fail
  refine HNW.out.mono ?_
  rintro en wa ⟨b, S0, rfl, h1, hb1, hs1⟩
  have HX1 := Lib.hid (And.intro h1 (And.intro hb1 hs1))
  clear h1 hb1 hs1 HNW
  have a255 := and_255

  go_wp2_with fail
  go_loopw [9, 10] (fun s9 s10 wr => ∃ (i c cd : Nat) (Ad : Option Addr) (k : Bk) (S : Nat → Prop), i ≤ 80 ∧ i ≤ len1 ∧ s10 = .int .i64 (i : Int) ∧ s9 = .slice Ad c cd ∧ Hid (OwnDs wa wr Ad c cd (Bk.playL ((Bk.eo zs N).take c) 0 Mc.zero).2) ∧ Hid (BkAt wr S b k) ∧ Hid (Bk.OneI zs N k c) ∧ Hid (Adv S0 wa S wr)) (fun _ s10 _ => 80 - (intOf s10).toNat)
  case atStart => exact ⟨0, 0, 0, none, Bk.new, S0, Nat.zero_le _, Nat.zero_le _, rfl, rfl, Lib.hid (OwnDs.nil _ _), Lib.hid HX1.out.1, Lib.hid (Bk.OneI.new _ _), Lib.hid (Adv.refl _ _)⟩
  case round =>
    obtain ⟨i, c, cd, Ad, k, S, hi80, hil, rfl, rfl, HD, HA, HI, HV⟩ := hrel
    have hwi : IntKind.i64.wrap ((i : Int) + 1) = (i : Int) + 1 := IntWalk.i64_in _ (by omega)
    have hi0 : (0 : Int) ≤ (i : Int) := by omega
    go_upto_region 7 with fail
    go_cut [35] from 24 to 35 (fun s35 wx => s35 = .bool (decide (i < len1 ∧ i < 80 ∧ 0 < N)) ∧ wx = wr)
    case first =>
      by_cases q1 : i < len1
      · have q1' : (i : Int) < (len1 : Int) := by omega
        by_cases q2 : i < 80
        · have q2' : (i : Int) < 80 := by omega
          by_cases q3 : 0 < N
          · have q3' : (0 : Int) < (N : Int) := by omega
            go_wp2_with fail
            go_meet
            exact ⟨by rw [decide_eq_true ⟨q1, q2, q3⟩], rfl⟩
          · have q3' : ¬ (0 : Int) < (N : Int) := by omega
            go_wp2_with fail
            go_meet
            exact ⟨by rw [decide_eq_false (fun h => q3 h.2.2)], rfl⟩
        · have q2' : ¬ (i : Int) < 80 := by omega
          go_wp2_with fail
          go_meet
          exact ⟨by rw [decide_eq_false (fun h => q2 h.2.1)], rfl⟩
      · have q1' : ¬ (i : Int) < (len1 : Int) := by omega
        go_wp2_with fail
        go_meet
        exact ⟨by rw [decide_eq_false (fun h => q1 h.1)], rfl⟩
    case rest =>
      obtain ⟨rfl, rfl⟩ := hcut
      rename World => wr
      obtain ⟨D, hD⟩ : ∃ D, decide (i < len1 ∧ i < 80 ∧ 0 < N) = D := ⟨_, rfl⟩
      rw [hD]
      cases D with
      | true =>
        obtain ⟨q1, q2, q3⟩ := of_decide_eq_true hD
        have hili : (i : Int) < (len1 : Int) := by omega
        have hb0 := HV.out.below HX1.out.2.1 HX1.out.2.2
        obtain ⟨z, hz⟩ : ∃ z, os[i]? = some z := ⟨_, List.getElem?_eq_getElem (by have := HZL.out; omega)⟩
        obtain ⟨ob, oo, rfl, _⟩ := H1.out.int_at q1
        have hc1 := (H1.out.below hb0).int_cell q1 hz
        obtain ⟨at_, hat, hatN⟩ : ∃ q : Nat, z % 256 % (N : Int) = (q : Int) ∧ q < N := ⟨(z % 256 % (N : Int)).toNat, by have := Int.emod_nonneg (z % 256) (by omega : (N : Int) ≠ 0); omega, by have := Int.emod_lt_of_pos (z % 256) (by omega : (0 : Int) < (N : Int)); have := Int.emod_nonneg (z % 256) (by omega : (N : Int) ≠ 0); omega⟩
        have hatl : at_ < len0 := by have := HNL.out; omega
        obtain ⟨y, hy⟩ : ∃ y, zs[at_]? = some y := ⟨_, List.getElem?_eq_getElem (by have := HZL.out; omega)⟩
        obtain ⟨zb, zo, rfl, _⟩ := H0.out.int_at hatl
        have hc0 := (H0.out.below hb0).int_cell hatl hy
        have hyd : zs.getD at_ 0 = y := by rw [List.getD_eq_getElem?_getD, hy]; rfl
        have hN0 : ((N : Int) == 0) = false := by simp; omega
        have hN0' : (N : Int) ≠ 0 := by omega
        have hat0 : (0 : Int) ≤ (at_ : Int) ∧ (at_ : Int) < (len0 : Int) := by omega
        obtain ⟨hat0, hat1⟩ := hat0
        have hwa : IntKind.i64.wrap ((at_ : Int) + 1) = (at_ : Int) + 1 := IntWalk.i64_in _ (by omega)
        have hmod0 : (0 : Int) ≤ z % 256 := by omega
        have htm : Int.tmod (z % 256) (N : Int) = (at_ : Int) := by rw [Int.tmod_eq_emod_of_nonneg hmod0]; exact hat
        have hwt : IntKind.i64.wrap (at_ : Int) = (at_ : Int) := IntWalk.i64_in _ (by omega)
        obtain ⟨mm, hmm⟩ : ∃ m, k.may ((at_ : Int) + 1) = m := ⟨_, rfl⟩
        have hok := HA.out.ok
        have hwh := HI.out.wh hok
        have hps := HI.out.pos
        have HI2 := Lib.hid (HI.out.add (j := at_) hatN)
        rw [hyd] at HI2
        obtain ⟨e, he⟩ : ∃ e, entOf y at_ = e := ⟨_, rfl⟩
        have HE := Lib.hid (entN_any y at_ (by omega) wr)
        rw [he] at HE HI2
        obtain ⟨k2, hk2⟩ : ∃ k2, k.add ((at_ : Int) + 1) e = k2 := ⟨_, rfl⟩
        rw [hk2] at HI2
        have HAD := Lib.hid (fun wx (hx : BkAt wx S b k) (ca : CA) (B : Nat) (hf : e.c.Fits) (hr : RdC wx B ca e.c) => bkAdd wx hx ((at_ : Int) + 1) (B := B) hmm hk2 hf hr (by omega))
        clear hb0 hz hy hyd hmm hok hwh hps he hk2 HI hD hat
        go_wp2_with fail
        refine HE.out.mono ?_
        rintro en wc ⟨ca, rfl, hf, hr, hb2⟩
        have HFR := Lib.hid (And.intro hf hr.rd)
        have HA2 := Lib.hid (HA.out.below hb2)
        have HV2 := Lib.hid (HV.out.trans (Adv.of_below S hb2))
        have HD2 := Lib.hid (HD.out.below hb2)
        clear hf hr hb2 hc0 hc1
        unfold entV
        go_wp2_with fail
        refine (HAD.out wc HA2.out _ _ HFR.out.1 HFR.out.2).mono ?_
        rintro en wd ⟨rfl, S3, h3, v3⟩
        have HA3 := Lib.hid h3
        have HV3 := Lib.hid (HV2.out.trans v3)
        have HD3 := Lib.hid (HD2.out.keeps v3.keeps HA2.out.of (by decide) (by decide))
        clear h3 v3 HA HV HD HA2 HV2 HD2 HAD HE
        by_cases q5 : i < len2
        · have q5' : (i : Int) < (len2 : Int) := by omega
          have hb0 := HV3.out.below HX1.out.2.1 HX1.out.2.2
          obtain ⟨x, hx⟩ : ∃ z, ts[i]? = some z := ⟨_, List.getElem?_eq_getElem (by have := HZL.out; omega)⟩
          obtain ⟨tb, to_, rfl, _⟩ := H2.out.int_at q5
          have hc2 := (H2.out.below hb0).int_cell q5 hx
          obtain ⟨T, hT⟩ : ∃ T, x % 32 = T := ⟨_, rfl⟩
          have ax := and_31 x
          rw [hT] at ax
          have hok2 := HA3.out.ok
          have hwh2 := HI2.out.wh hok2
          have hps2 := HI2.out.pos
          obtain ⟨hI3, hpl⟩ := HI2.out.apply hok2 T
          obtain ⟨k3, hk3⟩ : ∃ k3, k2.apply T = k3 := ⟨_, rfl⟩
          obtain ⟨ds, hds⟩ : ∃ ds, k2.dones T = ds := ⟨_, rfl⟩
          have hdl : k2.cnt T = ds.length := by rw [← hds]; unfold Bk.dones; rw [Bk.play_len]
          rw [hk3, hdl] at hI3
          rw [hdl, hds] at hpl
          have HI3 := Lib.hid hI3
          have HPL := Lib.hid hpl
          have hle3 := hI3.le
          have hcd : (c : Int) + (ds.length : Int) ≤ 30 := by omega
          have CAP := Lib.hid (bkApply wd HA3.out T hk3 hds (by omega) (by omega))
          clear hb0 hx hT hok2 hwh2 hps2 hI3 hpl hk3 hds hdl hle3
          go_wp2_with fail
          refine CAP.out.mono ?_
          rintro en we ⟨Ax, cx, rfl, hox, S4, h4, v4⟩
          have HA4 := Lib.hid h4
          have HV4 := Lib.hid (HV3.out.trans v4)
          obtain ⟨vs, q7, q8⟩ := HD3.out.keeps v4.keeps HA3.out.of (by decide) (by decide)
          obtain ⟨ws, p7, p8⟩ := hox.of HV3.out.keeps.size
          have HQ := Lib.hid (And.intro q7 (And.intro q8 (And.intro (Rd.ownS p7 (by omega)) p8)))
          have hone := p8.oneCell
          have HONE := Lib.hid hone
          clear h4 v4 q7 q8 p7 p8 hox hone hc2 CAP HD3
          have hcn : c + ds.length ≤ 1073741824 := by omega
          go_wp2_with (first
            | (at_builtin
               refine wpList_append_atE wa.heap.size HV4.out.keeps.size cellD (.tmp 59) (.tmp 66) rfl (by rfl) rfl HQ.out.1 rfl HQ.out.2.2.1 HONE.out hcn (by omega) ?_
               intro A4 c4 w4 hown4 hg4
               have HX4 := Lib.hid (And.intro hown4 hg4)
               clear hown4 hg4)
            | fail)
          go_roundw
          case rel =>
            refine ⟨i + 1, c + ds.length, c4, A4, k3, S4, by omega, by omega, by go_num, rfl, Lib.hid ?_, Lib.hid (HA4.out.grown HQ.out.1 (by decide) (by decide) (by decide) (by decide) (by decide) (by decide) HX4.out.2), HI3, Lib.hid (HV4.out.grown HQ.out.1 HX4.out.2)⟩
            rw [HPL.out]
            exact OwnDs.append HQ.out.1 HQ.out.2.1 HQ.out.2.2.2 HX4.out.2 HX4.out.1
          case measure => simp only [intOf]; omega
        · have q5' : ¬ (i : Int) < (len2 : Int) := by omega
          go_wp2_with fail
          go_roundw
          case rel => exact ⟨i + 1, c, cd, Ad, k2, S3, by omega, by omega, by go_num, rfl, HD3, HA3, HI2, HV3⟩
          case measure => simp only [intOf]; omega
      | false =>
        clear hD hi80 hil hwi hi0
        rename World => wb
        go_wp2_with fail
        go_loopw [12, 13] (fun s12 s13 wx => ∃ (j : Nat) (Al : Option Addr) (cl : Nat), j ≤ N ∧ s13 = .int .i64 (j : Int) ∧ s12 = .slice Al j cl ∧ Hid (OwnE9 wb wx Al j cl (Bk.eo zs j)) ∧ Hid (∀ e ∈ Bk.eo zs j, e.c.Fits) ∧ Hid (Below wb.heap.size wb wx)) (fun _ s13 _ => N - (intOf s13).toNat)
        case atStart => exact ⟨0, none, 0, Nat.zero_le _, rfl, rfl, Lib.hid (OwnE9.nil _ _), Lib.hid (by intro e he; simp [Bk.eo] at he), Lib.hid (Below.refl _ _)⟩
        case round =>
          obtain ⟨j, Al, cl, hj, rfl, rfl, HE9, HFS, HB⟩ := hrel
          have hwj : IntKind.i64.wrap ((j : Int) + 1) = (j : Int) + 1 := IntWalk.i64_in _ (by omega)
          have hj0 : (0 : Int) ≤ (j : Int) := by omega
          by_cases hlt : j < N
          · have hji : (j : Int) < (N : Int) := by omega
            have hjl : j < len0 := by have := HNL.out; omega
            have hjli : (j : Int) < (len0 : Int) := by omega
            have hb0 := (HV.out.trans (Adv.of_below S HB.out)).below HX1.out.2.1 HX1.out.2.2
            obtain ⟨y, hy⟩ : ∃ y, zs[j]? = some y := ⟨_, List.getElem?_eq_getElem (by have := HZL.out; omega)⟩
            obtain ⟨zb, zo, rfl, _⟩ := H0.out.int_at hjl
            have hc0 := (H0.out.below hb0).int_cell hjl hy
            have hyd : zs.getD j 0 = y := by rw [List.getD_eq_getElem?_getD, hy]; rfl
            have hsc := Bk.eo_succ zs j
            rw [hyd] at hsc
            obtain ⟨e, he⟩ : ∃ e, entOf y j = e := ⟨_, rfl⟩
            have HE := Lib.hid (entN_any y j (by omega) wr)
            rw [he] at HE hsc
            have HSC := Lib.hid hsc
            clear hb0 hy hyd hsc he
            go_wp2_with fail
            refine HE.out.mono ?_
            rintro en wc ⟨ca, rfl, hf, hr, hb2⟩
            have b1 : Below wc.heap.size wc (wc.alloc (.cells #[.int .i64 e.s, .int .i64 e.q, .int .i64 e.c.kind, .int .i64 e.c.who, .slice ca.Ak e.c.key.length ca.ck, .slice ca.Av e.c.val.length ca.cv, .slice ca.Ao e.c.old.length ca.co] 40)) := (Below.refl _ _).alloc (Nat.le_refl _) _
            have HR := Lib.hid ((RdC9.of8 hr).below b1)
            obtain ⟨vs, q1, q2⟩ := (HE9.out.below hb2).below b1
            have HQ := Lib.hid (And.intro q1 q2)
            have HBc := Lib.hid (HB.out.trans ((hb2.trans (b1.mono hb2.size)).mono HB.out.size))
            have HFE := Lib.hid hf
            clear hf hr hb2 q1 q2 b1 hc0 HE
            unfold entV entC
            go_wp2_with (first
              | (at_builtin
                 refine wpList_append_atE wb.heap.size HBc.out.size cellE (.tmp 73) (.tmp 80) rfl (by rfl) rfl HQ.out.1 rfl (Rd.entAt _ ca e _ rfl) (entL_one _ _) (by omega) (by omega) ?_
                 intro A4 c4 w4 hown4 hg4
                 have HX4 := Lib.hid (And.intro hown4 hg4)
                 clear hown4 hg4)
              | fail)
            go_roundw
            case rel =>
              refine ⟨j + 1, A4, c4, by omega, by go_num, rfl, Lib.hid ?_, Lib.hid ?_, Lib.hid ?_⟩
              · rw [HSC.out]
                exact OwnE9.snoc HQ.out.1 HQ.out.2 HR.out HX4.out.2 HX4.out.1
              · intro x hx
                rw [HSC.out] at hx
                rcases List.mem_append.1 hx with h | h
                · exact HFS.out x h
                · rw [List.mem_singleton.1 h]; exact HFE.out
              · exact HBc.out.grown HX4.out.2 HBc.out.size (fun q hq => (HQ.out.1.lt q hq).1)
            case measure => simp only [intOf]; omega
          · have hji : ¬ (j : Int) < (N : Int) := by omega
            have hjN : j = N := by omega
            subst hjN
            clear hj hlt
            have hEND := (HV.out.trans (Adv.of_below S HB.out)).below HX1.out.2.1 HX1.out.2.2
            have HEND := Lib.hid hEND
            have HDr := Lib.hid (HD.out.below HB.out)
            have HAr := Lib.hid (HA.out.below HB.out)
            have hcl := HE9.out.cap
            have hcN := HI.out.le
            have hcn : (c : Int) ≤ (j : Int) := by omega
            have HCN := Lib.hid (And.intro hcN hcl)
            obtain ⟨LA, hLA⟩ : ∃ l, Bk.eo zs j = l := ⟨_, rfl⟩
            have hLl : LA.length = j := by rw [← hLA]; exact Bk.eo_length _ _
            have hLf : ∀ e ∈ LA, e.c.Fits := by rw [← hLA]; exact HFS.out
            have him := HI.out.m
            rw [hLA] at HE9 him HDr
            obtain ⟨DS, hDS⟩ : ∃ l, (Bk.playL (LA.take c) 0 Mc.zero).2 = l := ⟨_, rfl⟩
            rw [hDS] at HDr
            have hDl : DS.length = c := by rw [← hDS, Bk.playL_len, List.length_take]; omega
            have hpk := Bk.playL_ok (LA.take c) 0 Mc.zero Mc.Ok.zero (fun e he => hLf e (List.mem_of_mem_take he))
            have HPL := Lib.hid (And.intro hLA (And.intro hDS (And.intro hDl (And.intro hLl (And.intro hLf (And.intro him hpk))))))
            clear hEND hLA hLl hLf him hDS hDl hpk hcN hcl HD HA HV HB HFS
            rename World => wx0
            go_wp2_with fail
            go_loopw [84] (fun s84 wx => ∃ (q : Nat), q ≤ c ∧ s84 = .int .i64 (q : Int) ∧ Hid (Below wx0.heap.size wx0 wx)) (fun s84 _ => c - (intOf s84).toNat)
            case atStart => exact ⟨0, Nat.zero_le _, rfl, Lib.hid (Below.refl _ _)⟩
            case round =>
              obtain ⟨q, hq, rfl, HB⟩ := hrel
              have hwq : IntKind.i64.wrap ((q : Int) + 1) = (q : Int) + 1 := IntWalk.i64_in _ (by omega)
              have hq0 : (0 : Int) ≤ (q : Int) := by omega
              by_cases hlt : q < c
              · have hqi : (q : Int) < (c : Int) := by omega
                obtain ⟨gd, od, d, a1, A1, c1, rfl, hd, hx, hxc, hxv⟩ := (HDr.out.below HB.out).rd.at hlt
                obtain ⟨ga, oa, e, a2, rfl, he, ⟨y0, y1, y2, y3, y4, y5, y6⟩, hyc⟩ := ((HE9.out.below HB.out).rd).at (show q < j by omega)
                rw [← HPL.out.2.1] at hd
                obtain ⟨hdi, hde⟩ := Bk.playL_at _ _ _ _ _ hd
                rw [List.getElem?_take_of_lt hlt, he] at hde
                injection hde with hde
                have hdi2 : d.i = (q : Int) + 1 := by omega
                have hfe := HPL.out.2.2.2.2.1 e (List.mem_of_getElem? he)
                have sub : ∀ (k : Nat) (cs : List Value), (∀ x v, cs[x]? = some v → (doneL a1 A1 c1 d)[k + x]? = some v) → ∀ wx, Below wr.heap.size wr wx → wx.rangeAt gd (od + q * 11 + k) cs := fun k cs hc wx hb x v hv => by
                  have q1 := hx (k + x) v (hc x v hv)
                  rw [← Nat.add_assoc] at q1
                  exact (Below.cell hb (p := ⟨gd, od + q * 11 + k + x, none⟩) (World.block_lt_of_cell? _ _ q1)).trans q1
                have HX0 : Hid (∀ wx, Below wr.heap.size wr wx → wx.cell? ⟨gd, od + q * 11, none⟩ = some (.int .i64 ((q : Int) + 1))) := Lib.hid (fun wx hb => by
                  have q1 := sub 0 [.int .i64 d.i] (fun x v hv => by match x with | 0 => simpa [doneL] using hv | x + 1 => simp at hv) wx hb 0 _ rfl
                  rw [hdi2] at q1
                  exact q1)
                have HX1b := Lib.hid (sub 1 [.int .i64 d.e.s, .int .i64 d.e.q, .int .i64 d.e.c.kind, .int .i64 d.e.c.who, .slice a1.Ak d.e.c.key.length a1.ck, .slice a1.Av d.e.c.val.length a1.cv, .slice a1.Ao d.e.c.old.length a1.co] (fun q v hv => by match q with | 0 => simpa [doneL] using hv | 1 => simpa [doneL] using hv | 2 => simpa [doneL] using hv | 3 => simpa [doneL] using hv | 4 => simpa [doneL] using hv | 5 => simpa [doneL] using hv | 6 => simpa [doneL] using hv | q + 7 => simp at hv))
                rw [← hde] at HX1b hxc
                have HY1 : Hid (∀ wx, Below wr.heap.size wr wx → wx.rangeAt ga (oa + q * 7) [.int .i64 e.s, .int .i64 e.q, .int .i64 e.c.kind, .int .i64 e.c.who, .slice a2.Ak e.c.key.length a2.ck, .slice a2.Av e.c.val.length a2.cv, .slice a2.Ao e.c.old.length a2.co]) := Lib.hid (fun wx hb => by
                  have hh : wr.rangeAt ga (oa + q * 7) [.int .i64 e.s, .int .i64 e.q, .int .i64 e.c.kind, .int .i64 e.c.who, .slice a2.Ak e.c.key.length a2.ck, .slice a2.Av e.c.val.length a2.cv, .slice a2.Ao e.c.old.length a2.co] := fun x v hv => by
                    match x with
                    | 0 => simp at hv; subst hv; exact y0
                    | 1 => simp at hv; subst hv; exact y1
                    | 2 => simp at hv; subst hv; exact y2
                    | 3 => simp at hv; subst hv; exact y3
                    | 4 => simp at hv; subst hv; exact y4
                    | 5 => simp at hv; subst hv; exact y5
                    | 6 => simp at hv; subst hv; exact y6
                    | x + 7 => simp at hv
                  exact fun x v hv => (Below.cell hb (p := ⟨ga, oa + q * 7 + x, none⟩) (World.block_lt_of_cell? _ _ (hh x v hv))).trans (hh x v hv))
                have CE : Hid (∀ wx, Below wr.heap.size wr wx → Calls Tryz.prog 25 #[.agg #[.int .i64 e.s, .int .i64 e.q, .int .i64 e.c.kind, .int .i64 e.c.who, .slice a1.Ak e.c.key.length a1.ck, .slice a1.Av e.c.val.length a1.cv, .slice a1.Ao e.c.old.length a1.co], .agg #[.int .i64 e.s, .int .i64 e.q, .int .i64 e.c.kind, .int .i64 e.c.who, .slice a2.Ak e.c.key.length a2.ck, .slice a2.Av e.c.val.length a2.cv, .slice a2.Ao e.c.old.length a2.co]] wx fun e w' => e = .returned (.bool true) ∧ Below wx.heap.size wx w') := Lib.hid (fun wx hb => (refSameEntry_any wx hfe hfe (hxc.below hb) (hyc.below hb)).mono fun e w' h => ⟨by rw [h.1]; simp, h.2⟩)
                have HJN := Lib.hid hqi
                have HJN2 : Hid ((q : Int) < (j : Int)) := Lib.hid (by omega)
                have HWJ := Lib.hid hwq
                clear hd hx hxc hxv he y0 y1 y2 y3 y4 y5 y6 hyc hdi hde hdi2 hfe sub
                go_upto_region 21 with fail
                go_cut [112] from 87 to 112 (fun s112 wx => s112 = .bool false ∧ Hid (Below wr.heap.size wr wx))
                case first =>
                  refine region_invB (U0 := fun n => ([u87, u88, u89, u90, u91, u92, u93, u94, u95, u96, u97, u98, u99, u100, u101, u102, u103, u104, u105, u106, u107, u108, u109, u110, u111, u112] : List Value).getD (n - 87) undef) (frameO21 gd od ga oa c cd j cl q a1 a2 e _ _ _ _ _ _ _ _ _ _ _ _ _ _ _ _ _ _ _ _ _ _ _ _ _ _ _ _ _ _ _ _ _ _ _ _ _ _ _ _ _ _ _ _ _ _ _ _ _ _ _ _ _ _ _ _ _ _ _ _ _ _ _ _ _ _ _ _ _ _ _ _ _ _ _ _ _ _ _ _ _ _ _ _ _ _ _ _ _ _ _ _ _ _ _ _ _ _ _ _ _ _ _ _ _ _ _ _ _ _ _ _ _ _ _ _ _ _ _ _ _ _ _) dstO21 depsO21 (fun _ => true) (VM (kindsO21 gd od ga oa c cd j cl q a1 a2 e)) (FrO21 gd od ga oa c cd j cl q a1 a2 e) ?hm ?hb ?inj ?dst ?deps ?want ?put ?ev ?fr (VM.ext _) (Below.refl _ _) ?hok ?done
                  case hok =>
                    refine all_ops (AllFrom.cons ?s0 (AllFrom.cons ?s1 (AllFrom.cons ?s2 (AllFrom.cons ?s3 (AllFrom.cons ?s4 (AllFrom.cons ?s5 (AllFrom.cons ?s6 (AllFrom.cons ?s7 (AllFrom.cons ?s8 (AllFrom.cons ?s9 (AllFrom.cons ?s10 (AllFrom.cons ?s11 (AllFrom.cons ?s12 (AllFrom.cons ?s13 (AllFrom.cons ?s14 (AllFrom.cons ?s15 (AllFrom.cons ?s16 (AllFrom.cons ?s17 (AllFrom.cons ?s18 (AllFrom.cons ?s19 (AllFrom.cons ?s20 (AllFrom.cons ?s21 (AllFrom.cons ?s22 (AllFrom.cons ?s23 (AllFrom.cons ?s24 (AllFrom.cons ?s25 AllFrom.nil))))))))))))))))))))))))))
                    case s0 =>
                      intro a w1 hF hB hdep K hK
                      rw [if_pos rfl]
                      have f9 : a.tmps[9]?.getD undef = .slice (some ⟨gd, od, none⟩) c cd := ev_tmpM hF.2.1
                      go_simp
                      exact hK.out _ _ (Below.refl _ _) hB rfl
                    case s1 =>
                      intro a w1 hF hB hdep K hK
                      rw [if_pos rfl]
                      have f14 : a.tmps[14]?.getD undef = .int .i64 (q : Int) := ev_tmpM hF.2.2.2
                      go_simp
                      exact hK.out _ _ (Below.refl _ _) hB rfl
                    case s2 =>
                      intro a w1 hF hB hdep K hK
                      rw [if_pos rfl]
                      have e0 : a.tmps[87]?.getD undef = .slice (some ⟨gd, od, none⟩) c cd := ev_tmpM (show a.eval (.tmp 87) = .slice (some ⟨gd, od, none⟩) c cd from hdep 0 (by decide))
                      have e1 : a.tmps[88]?.getD undef = .int .i64 (q : Int) := ev_tmpM (show a.eval (.tmp 88) = .int .i64 (q : Int) from hdep 1 (by decide))
                      have hjn := HJN.out
                      go_simp
                      exact hK.out _ _ (Below.refl _ _) hB rfl
                    case s3 =>
                      intro a w1 hF hB hdep K hK
                      rw [if_pos rfl]
                      have e2 : a.tmps[89]?.getD undef = .pointer (some ⟨gd, od + q * 11, none⟩) := ev_tmpM (show a.eval (.tmp 89) = .pointer (some ⟨gd, od + q * 11, none⟩) from hdep 2 (by decide))
                      go_simp
                      exact hK.out _ _ (Below.refl _ _) hB rfl
                    case s4 =>
                      intro a w1 hF hB hdep K hK
                      rw [if_pos rfl]
                      have e3 : a.tmps[90]?.getD undef = .pointer (some ⟨gd, od + q * 11, none⟩) := ev_tmpM (show a.eval (.tmp 90) = .pointer (some ⟨gd, od + q * 11, none⟩) from hdep 3 (by decide))
                      have q0 : w1.cell? ⟨gd, od + q * 11, none⟩ = some (.int .i64 ((q : Int) + 1)) := HX0.out w1 hB
                      go_simp
                      exact hK.out _ _ (Below.refl _ _) hB rfl
                    case s5 =>
                      intro a w1 hF hB hdep K hK
                      rw [if_pos rfl]
                      have f14 : a.tmps[14]?.getD undef = .int .i64 (q : Int) := ev_tmpM hF.2.2.2
                      go_simp
                      exact hK.out _ _ (Below.refl _ _) hB rfl
                    case s6 =>
                      intro a w1 hF hB hdep K hK
                      rw [if_pos rfl]
                      have e5 : a.tmps[92]?.getD undef = .int .i64 (q : Int) := ev_tmpM (show a.eval (.tmp 92) = .int .i64 (q : Int) from hdep 5 (by decide))
                      have hw1 := HWJ.out
                      go_simp
                      exact hK.out _ _ (Below.refl _ _) hB rfl
                    case s7 =>
                      intro a w1 hF hB hdep K hK
                      rw [if_pos rfl]
                      have e4 : a.tmps[91]?.getD undef = .int .i64 ((q : Int) + 1) := ev_tmpM (show a.eval (.tmp 91) = .int .i64 ((q : Int) + 1) from hdep 4 (by decide))
                      have e6 : a.tmps[93]?.getD undef = .int .i64 ((q : Int) + 1) := ev_tmpM (show a.eval (.tmp 93) = .int .i64 ((q : Int) + 1) from hdep 6 (by decide))
                      go_simp
                      exact hK.out _ _ (Below.refl _ _) hB rfl
                    case s8 =>
                      intro a w1 hF hB hdep K hK
                      rw [if_pos rfl]
                      have e7 : a.tmps[94]?.getD undef = .bool false := ev_tmpM (show a.eval (.tmp 94) = .bool false from hdep 7 (by decide))
                      go_simp
                      exact hK.out _ _ (Below.refl _ _) hB rfl
                    case s9 =>
                      intro a w1 hF hB hdep K hK
                      rw [if_pos rfl]
                      have f14 : a.tmps[14]?.getD undef = .int .i64 (q : Int) := ev_tmpM hF.2.2.2
                      go_simp
                      exact hK.out _ _ (Below.refl _ _) hB rfl
                    case s10 =>
                      intro a w1 hF hB hdep K hK
                      rw [if_pos rfl]
                      have f8 : a.tmps[8]?.getD undef = .int .i64 (j : Int) := ev_tmpM hF.1
                      go_simp
                      exact hK.out _ _ (Below.refl _ _) hB rfl
                    case s11 =>
                      intro a w1 hF hB hdep K hK
                      rw [if_pos rfl]
                      have e9 : a.tmps[96]?.getD undef = .int .i64 (q : Int) := ev_tmpM (show a.eval (.tmp 96) = .int .i64 (q : Int) from hdep 9 (by decide))
                      have e10 : a.tmps[97]?.getD undef = .int .i64 (j : Int) := ev_tmpM (show a.eval (.tmp 97) = .int .i64 (j : Int) from hdep 10 (by decide))
                      have hjn : ¬ (j : Int) ≤ (q : Int) := by have := HJN2.out; omega
                      go_simp
                      exact hK.out _ _ (Below.refl _ _) hB rfl
                    case s12 =>
                      intro a w1 hF hB hdep K hK
                      rw [if_pos rfl]
                      have e8 : a.tmps[95]?.getD undef = .bool false := ev_tmpM (show a.eval (.tmp 95) = .bool false from hdep 8 (by decide))
                      have e11 : a.tmps[98]?.getD undef = .bool false := ev_tmpM (show a.eval (.tmp 98) = .bool false from hdep 11 (by decide))
                      go_simp
                      exact hK.out _ _ (Below.refl _ _) hB rfl
                    case s13 =>
                      intro a w1 hF hB hdep K hK
                      rw [if_pos rfl]
                      have e12 : a.tmps[99]?.getD undef = .bool false := ev_tmpM (show a.eval (.tmp 99) = .bool false from hdep 12 (by decide))
                      go_simp
                      exact hK.out _ _ (Below.refl _ _) hB rfl
                    case s14 =>
                      intro a w1 hF hB hdep K hK
                      rw [if_pos rfl]
                      have f9 : a.tmps[9]?.getD undef = .slice (some ⟨gd, od, none⟩) c cd := ev_tmpM hF.2.1
                      go_simp
                      exact hK.out _ _ (Below.refl _ _) hB rfl
                    case s15 =>
                      intro a w1 hF hB hdep K hK
                      rw [if_pos rfl]
                      have f14 : a.tmps[14]?.getD undef = .int .i64 (q : Int) := ev_tmpM hF.2.2.2
                      go_simp
                      exact hK.out _ _ (Below.refl _ _) hB rfl
                    case s16 =>
                      intro a w1 hF hB hdep K hK
                      rw [if_pos rfl]
                      have e14 : a.tmps[101]?.getD undef = .slice (some ⟨gd, od, none⟩) c cd := ev_tmpM (show a.eval (.tmp 101) = .slice (some ⟨gd, od, none⟩) c cd from hdep 14 (by decide))
                      have e15 : a.tmps[102]?.getD undef = .int .i64 (q : Int) := ev_tmpM (show a.eval (.tmp 102) = .int .i64 (q : Int) from hdep 15 (by decide))
                      have hjn := HJN.out
                      go_simp
                      exact hK.out _ _ (Below.refl _ _) hB rfl
                    case s17 =>
                      intro a w1 hF hB hdep K hK
                      rw [if_pos rfl]
                      have e16 : a.tmps[103]?.getD undef = .pointer (some ⟨gd, od + q * 11, none⟩) := ev_tmpM (show a.eval (.tmp 103) = .pointer (some ⟨gd, od + q * 11, none⟩) from hdep 16 (by decide))
                      go_simp
                      exact hK.out _ _ (Below.refl _ _) hB rfl
                    case s18 =>
                      intro a w1 hF hB hdep K hK
                      rw [if_pos rfl]
                      refine wp_load_mid 40 (.tmp 104) rfl gd (od + q * 11 + 1) (hdep 17 (by decide)) [.int .i64 e.s, .int .i64 e.q, .int .i64 e.c.kind, .int .i64 e.c.who, .slice a1.Ak e.c.key.length a1.ck, .slice a1.Av e.c.val.length a1.cv, .slice a1.Ao e.c.old.length a1.co] _ (fun q v hv => HX1b.out w1 hB q v hv) Tryz.underlying40 rfl (by kernel_rfl) ?_
                      exact hK.out _ _ (Below.refl _ _) hB rfl
                    case s19 =>
                      intro a w1 hF hB hdep K hK
                      rw [if_pos rfl]
                      have f12 : a.tmps[12]?.getD undef = .slice (some ⟨ga, oa, none⟩) j cl := ev_tmpM hF.2.2.1
                      go_simp
                      exact hK.out _ _ (Below.refl _ _) hB rfl
                    case s20 =>
                      intro a w1 hF hB hdep K hK
                      rw [if_pos rfl]
                      have f14 : a.tmps[14]?.getD undef = .int .i64 (q : Int) := ev_tmpM hF.2.2.2
                      go_simp
                      exact hK.out _ _ (Below.refl _ _) hB rfl
                    case s21 =>
                      intro a w1 hF hB hdep K hK
                      rw [if_pos rfl]
                      have e19 : a.tmps[106]?.getD undef = .slice (some ⟨ga, oa, none⟩) j cl := ev_tmpM (show a.eval (.tmp 106) = .slice (some ⟨ga, oa, none⟩) j cl from hdep 19 (by decide))
                      have e20 : a.tmps[107]?.getD undef = .int .i64 (q : Int) := ev_tmpM (show a.eval (.tmp 107) = .int .i64 (q : Int) from hdep 20 (by decide))
                      have hjn := HJN2.out
                      go_simp
                      exact hK.out _ _ (Below.refl _ _) hB rfl
                    case s22 =>
                      intro a w1 hF hB hdep K hK
                      rw [if_pos rfl]
                      refine wp_load_mid 40 (.tmp 108) rfl ga (oa + q * 7) (hdep 21 (by decide)) [.int .i64 e.s, .int .i64 e.q, .int .i64 e.c.kind, .int .i64 e.c.who, .slice a2.Ak e.c.key.length a2.ck, .slice a2.Av e.c.val.length a2.cv, .slice a2.Ao e.c.old.length a2.co] _ (fun q v hv => HY1.out w1 hB q v hv) Tryz.underlying40 rfl (by kernel_rfl) ?_
                      exact hK.out _ _ (Below.refl _ _) hB rfl
                    case s23 =>
                      intro a w1 hF hB hdep K hK
                      rw [if_pos rfl]
                      have e18 : a.tmps[105]?.getD undef = .agg #[.int .i64 e.s, .int .i64 e.q, .int .i64 e.c.kind, .int .i64 e.c.who, .slice a1.Ak e.c.key.length a1.ck, .slice a1.Av e.c.val.length a1.cv, .slice a1.Ao e.c.old.length a1.co] := ev_tmpM (show a.eval (.tmp 105) = .agg #[.int .i64 e.s, .int .i64 e.q, .int .i64 e.c.kind, .int .i64 e.c.who, .slice a1.Ak e.c.key.length a1.ck, .slice a1.Av e.c.val.length a1.cv, .slice a1.Ao e.c.old.length a1.co] from hdep 18 (by decide))
                      have e22 : a.tmps[109]?.getD undef = .agg #[.int .i64 e.s, .int .i64 e.q, .int .i64 e.c.kind, .int .i64 e.c.who, .slice a2.Ak e.c.key.length a2.ck, .slice a2.Av e.c.val.length a2.cv, .slice a2.Ao e.c.old.length a2.co] := ev_tmpM (show a.eval (.tmp 109) = .agg #[.int .i64 e.s, .int .i64 e.q, .int .i64 e.c.kind, .int .i64 e.c.who, .slice a2.Ak e.c.key.length a2.ck, .slice a2.Av e.c.val.length a2.cv, .slice a2.Ao e.c.old.length a2.co] from hdep 22 (by decide))
                      go_simp
                      go_at_call 25
                      refine (CE.out w1 hB).mono ?_
                      rintro en w9 ⟨rfl, hb9⟩
                      go_simp
                      exact hK.out _ _ hb9 (hB.trans (hb9.mono hB.size)) rfl
                    case s24 =>
                      intro a w1 hF hB hdep K hK
                      rw [if_pos rfl]
                      have e23 : a.tmps[110]?.getD undef = .bool true := ev_tmpM (show a.eval (.tmp 110) = .bool true from hdep 23 (by decide))
                      go_simp
                      exact hK.out _ _ (Below.refl _ _) hB rfl
                    case s25 =>
                      intro a w1 hF hB hdep K hK
                      rw [if_pos rfl]
                      have e13 : a.tmps[100]?.getD undef = .bool false := ev_tmpM (show a.eval (.tmp 100) = .bool false from hdep 13 (by decide))
                      have e24 : a.tmps[111]?.getD undef = .bool false := ev_tmpM (show a.eval (.tmp 111) = .bool false from hdep 24 (by decide))
                      go_simp
                      exact hK.out _ _ (Below.refl _ _) hB rfl
                  case hm => kernel_rfl
                  case hb => kernel_rfl
                  case inj =>
                    intro i j hi hj h
                    have h1 : ((List.range 26).all fun i => (List.range 26).all fun j => !(dstO21 i == dstO21 j) || (i == j)) = true := by kernel_rfl
                    have h2 := List.all_eq_true.1 (List.all_eq_true.1 h1 i (List.mem_range.2 hi)) j (List.mem_range.2 hj)
                    simpa [h] using h2
                  case dst => exact all_ops (AllFrom.cons rfl (AllFrom.cons rfl (AllFrom.cons rfl (AllFrom.cons rfl (AllFrom.cons rfl (AllFrom.cons rfl (AllFrom.cons rfl (AllFrom.cons rfl (AllFrom.cons rfl (AllFrom.cons rfl (AllFrom.cons rfl (AllFrom.cons rfl (AllFrom.cons rfl (AllFrom.cons rfl (AllFrom.cons rfl (AllFrom.cons rfl (AllFrom.cons rfl (AllFrom.cons rfl (AllFrom.cons rfl (AllFrom.cons rfl (AllFrom.cons rfl (AllFrom.cons rfl (AllFrom.cons rfl (AllFrom.cons rfl (AllFrom.cons rfl (AllFrom.cons rfl AllFrom.nil))))))))))))))))))))))))))
                  case deps =>
                    intro i hi j hj
                    refine deps_ofM (deps := depsO21) ?_ i hi j hj
                    kernel_rfl
                  case want => exact all_ops (AllFrom.cons (fun U w hd => rfl) (AllFrom.cons (fun U w hd => rfl) (AllFrom.cons (fun U w hd => rfl) (AllFrom.cons (fun U w hd => rfl) (AllFrom.cons (fun U w hd => rfl) (AllFrom.cons (fun U w hd => rfl) (AllFrom.cons (fun U w hd => rfl) (AllFrom.cons (fun U w hd => rfl) (AllFrom.cons (fun U w hd => rfl) (AllFrom.cons (fun U w hd => wanted_ofM rfl (yielded_ofM (s := 95) (b := false) rfl ((show _ = some (U 95) from by kernel_rfl).trans (congrArg some (show U 95 = .bool false from hd 8 (by decide))))) rfl) (AllFrom.cons (fun U w hd => wanted_ofM rfl (yielded_ofM (s := 95) (b := false) rfl ((show _ = some (U 95) from by kernel_rfl).trans (congrArg some (show U 95 = .bool false from hd 8 (by decide))))) rfl) (AllFrom.cons (fun U w hd => wanted_ofM rfl (yielded_ofM (s := 95) (b := false) rfl ((show _ = some (U 95) from by kernel_rfl).trans (congrArg some (show U 95 = .bool false from hd 8 (by decide))))) rfl) (AllFrom.cons (fun U w hd => rfl) (AllFrom.cons (fun U w hd => rfl) (AllFrom.cons (fun U w hd => wanted_ofM rfl (yielded_ofM (s := 100) (b := false) rfl ((show _ = some (U 100) from by kernel_rfl).trans (congrArg some (show U 100 = .bool false from hd 13 (by decide))))) rfl) (AllFrom.cons (fun U w hd => wanted_ofM rfl (yielded_ofM (s := 100) (b := false) rfl ((show _ = some (U 100) from by kernel_rfl).trans (congrArg some (show U 100 = .bool false from hd 13 (by decide))))) rfl) (AllFrom.cons (fun U w hd => wanted_ofM rfl (yielded_ofM (s := 100) (b := false) rfl ((show _ = some (U 100) from by kernel_rfl).trans (congrArg some (show U 100 = .bool false from hd 13 (by decide))))) rfl) (AllFrom.cons (fun U w hd => wanted_ofM rfl (yielded_ofM (s := 100) (b := false) rfl ((show _ = some (U 100) from by kernel_rfl).trans (congrArg some (show U 100 = .bool false from hd 13 (by decide))))) rfl) (AllFrom.cons (fun U w hd => wanted_ofM rfl (yielded_ofM (s := 100) (b := false) rfl ((show _ = some (U 100) from by kernel_rfl).trans (congrArg some (show U 100 = .bool false from hd 13 (by decide))))) rfl) (AllFrom.cons (fun U w hd => wanted_ofM rfl (yielded_ofM (s := 100) (b := false) rfl ((show _ = some (U 100) from by kernel_rfl).trans (congrArg some (show U 100 = .bool false from hd 13 (by decide))))) rfl) (AllFrom.cons (fun U w hd => wanted_ofM rfl (yielded_ofM (s := 100) (b := false) rfl ((show _ = some (U 100) from by kernel_rfl).trans (congrArg some (show U 100 = .bool false from hd 13 (by decide))))) rfl) (AllFrom.cons (fun U w hd => wanted_ofM rfl (yielded_ofM (s := 100) (b := false) rfl ((show _ = some (U 100) from by kernel_rfl).trans (congrArg some (show U 100 = .bool false from hd 13 (by decide))))) rfl) (AllFrom.cons (fun U w hd => wanted_ofM rfl (yielded_ofM (s := 100) (b := false) rfl ((show _ = some (U 100) from by kernel_rfl).trans (congrArg some (show U 100 = .bool false from hd 13 (by decide))))) rfl) (AllFrom.cons (fun U w hd => wanted_ofM rfl (yielded_ofM (s := 100) (b := false) rfl ((show _ = some (U 100) from by kernel_rfl).trans (congrArg some (show U 100 = .bool false from hd 13 (by decide))))) rfl) (AllFrom.cons (fun U w hd => wanted_ofM rfl (yielded_ofM (s := 100) (b := false) rfl ((show _ = some (U 100) from by kernel_rfl).trans (congrArg some (show U 100 = .bool false from hd 13 (by decide))))) rfl) (AllFrom.cons (fun U w hd => rfl) AllFrom.nil))))))))))))))))))))))))))
                  case put => exact all_ops (AllFrom.cons (fun _ _ => by kernel_rfl) (AllFrom.cons (fun _ _ => by kernel_rfl) (AllFrom.cons (fun _ _ => by kernel_rfl) (AllFrom.cons (fun _ _ => by kernel_rfl) (AllFrom.cons (fun _ _ => by kernel_rfl) (AllFrom.cons (fun _ _ => by kernel_rfl) (AllFrom.cons (fun _ _ => by kernel_rfl) (AllFrom.cons (fun _ _ => by kernel_rfl) (AllFrom.cons (fun _ _ => by kernel_rfl) (AllFrom.cons (fun _ _ => by kernel_rfl) (AllFrom.cons (fun _ _ => by kernel_rfl) (AllFrom.cons (fun _ _ => by kernel_rfl) (AllFrom.cons (fun _ _ => by kernel_rfl) (AllFrom.cons (fun _ _ => by kernel_rfl) (AllFrom.cons (fun _ _ => by kernel_rfl) (AllFrom.cons (fun _ _ => by kernel_rfl) (AllFrom.cons (fun _ _ => by kernel_rfl) (AllFrom.cons (fun _ _ => by kernel_rfl) (AllFrom.cons (fun _ _ => by kernel_rfl) (AllFrom.cons (fun _ _ => by kernel_rfl) (AllFrom.cons (fun _ _ => by kernel_rfl) (AllFrom.cons (fun _ _ => by kernel_rfl) (AllFrom.cons (fun _ _ => by kernel_rfl) (AllFrom.cons (fun _ _ => by kernel_rfl) (AllFrom.cons (fun _ _ => by kernel_rfl) (AllFrom.cons (fun _ _ => by kernel_rfl) AllFrom.nil))))))))))))))))))))))))))
                  case ev => exact all_ops (AllFrom.cons (fun _ => by kernel_rfl) (AllFrom.cons (fun _ => by kernel_rfl) (AllFrom.cons (fun _ => by kernel_rfl) (AllFrom.cons (fun _ => by kernel_rfl) (AllFrom.cons (fun _ => by kernel_rfl) (AllFrom.cons (fun _ => by kernel_rfl) (AllFrom.cons (fun _ => by kernel_rfl) (AllFrom.cons (fun _ => by kernel_rfl) (AllFrom.cons (fun _ => by kernel_rfl) (AllFrom.cons (fun _ => by kernel_rfl) (AllFrom.cons (fun _ => by kernel_rfl) (AllFrom.cons (fun _ => by kernel_rfl) (AllFrom.cons (fun _ => by kernel_rfl) (AllFrom.cons (fun _ => by kernel_rfl) (AllFrom.cons (fun _ => by kernel_rfl) (AllFrom.cons (fun _ => by kernel_rfl) (AllFrom.cons (fun _ => by kernel_rfl) (AllFrom.cons (fun _ => by kernel_rfl) (AllFrom.cons (fun _ => by kernel_rfl) (AllFrom.cons (fun _ => by kernel_rfl) (AllFrom.cons (fun _ => by kernel_rfl) (AllFrom.cons (fun _ => by kernel_rfl) (AllFrom.cons (fun _ => by kernel_rfl) (AllFrom.cons (fun _ => by kernel_rfl) (AllFrom.cons (fun _ => by kernel_rfl) (AllFrom.cons (fun _ => by kernel_rfl) AllFrom.nil))))))))))))))))))))))))))
                  case fr => exact fun U => ⟨by kernel_rfl, by kernel_rfl, by kernel_rfl, by kernel_rfl⟩
                  case done =>
                    intro U w' hB hV
                    have e1 : U 112 = .bool false := hV 25 (by decide)
                    unfold frameO21
                    rw [e1]
                    have HB9 := Lib.hid hB
                    clear hV e1 hB
                    go_wp2_with fail
                    go_meet
                    exact ⟨rfl, HB9⟩
                case rest =>
                  obtain ⟨rfl, HB9⟩ := hcut
                  go_wp2_with fail
                  go_roundw
                  case rel => exact ⟨q + 1, by omega, by go_num, Lib.hid (HB.out.trans (HB9.out.mono HB.out.size))⟩
                  case measure => simp only [intOf]; omega
              · have hqi : ¬ (q : Int) < (c : Int) := by omega
                clear hq hlt hq0 hwq
                have HDs := Lib.hid (HDr.out.below HB.out)
                have HAs := Lib.hid (HAr.out.below HB.out)
                have HEs := Lib.hid (HE9.out.below HB.out)
                have HENDs := Lib.hid (HEND.out.trans (HB.out.mono HEND.out.size))
                clear HDr HAr HE9 HEND HB
                rename World => wf
                obtain ⟨i0, hi0, hi1, hi2, hi3⟩ := info_parts cellE.info
                have hs1 := run_slice_to (P := Tryz.prog) (t := 50) Tryz.underlying50 hi0 Al j cl c (by have := HCN.out; omega)
                obtain ⟨RS, hRS⟩ : ∃ l, DS.map (·.r) = l := ⟨_, rfl⟩
                have CF := Lib.hid (refFold wf (A := Al) (n := c) (c := cl) (es := LA.take c) (by have := HCN.out; omega) (fun e he => HPL.out.2.2.2.2.1 e (List.mem_of_mem_take he)) (by
                  obtain ⟨vs, q1, q2⟩ := HEs.out.rd
                  exact ⟨vs.take (c * 7), q1.take (Nat.mul_le_mul_right _ HCN.out.1), q2.take c⟩))
                rw [HPL.out.2.1, hRS, ← HPL.out.2.2.2.2.2.1] at CF
                have HRS := Lib.hid hRS
                obtain ⟨m, hm⟩ : ∃ m, k.m = m := ⟨_, rfl⟩
                rw [hm] at CF
                have HMO : Hid (m.Ok) := Lib.hid (by rw [← hm]; exact HAs.out.ok.m)
                have HMK := Lib.hid hm
                clear hi0 hi1 hi2 hi3 hRS hm
                go_wp2_with fail
                refine CF.out.mono ?_
                rintro en wg ⟨am, Ar, cr, rfl, hom, hor, hb⟩
                have HOM := Lib.hid hom
                have HOR := Lib.hid hor
                have HBg := Lib.hid hb
                clear hom hor hb CF hs1
                unfold machV machC
                go_upto_region 25 with (first
                  | (refine wpList_store_row rfl 33 (.tmp 15) (.tmp 120) rfl wg.heap.size (machC am m) rfl rfl 33 #[.slice none 0 0, .slice none 0 0, .slice none 0 0, .slice none 0 0, .slice none 0 0] (Blk.new wg 33 #[.slice none 0 0, .slice none 0 0, .slice none 0 0, .slice none 0 0, .slice none 0 0]) (by kernel_rfl) rfl (by kernel_rfl) ?_)
                  | fail)
                obtain ⟨g15, wh, hg5, hw5, hb5, hk5⟩ := boxed wg #[.slice none 0 0, .slice none 0 0, .slice none 0 0, .slice none 0 0, .slice none 0 0] (machC am m) 33
                rw [hg5, hw5]
                have HBh := Lib.hid (HBg.out.trans (hb5.mono HBg.out.size))
                have HK15 := Lib.hid hk5
                have HOMh := Lib.hid (HOM.out.below hb5)
                have HORh := Lib.hid (HOR.out.below hb5)
                clear hg5 hw5 hb5 hk5 HBg HOM HOR
                go_wp2_with fail
                go_loopw [124] (fun s124 wx => ∃ (q : Nat), q ≤ c ∧ s124 = .int .i64 (q : Int) ∧ Hid (Below wh.heap.size wh wx)) (fun s124 _ => c - (intOf s124).toNat)
                case atStart => exact ⟨0, Nat.zero_le _, rfl, Lib.hid (Below.refl _ _)⟩
                case round =>
                  obtain ⟨q, hq, rfl, HB⟩ := hrel
                  have hwq : IntKind.i64.wrap ((q : Int) + 1) = (q : Int) + 1 := IntWalk.i64_in _ (by omega)
                  have hq0 : (0 : Int) ≤ (q : Int) := by omega
                  by_cases hlt : q < c
                  · have hqi : (q : Int) < (c : Int) := by omega
                    obtain ⟨gd, od, d, a1, A1, c1, rfl, hd, hx, hxc, hxv⟩ := ((HDs.out.below HBh.out).below HB.out).rd.at hlt
                    obtain ⟨gr, orr, rr, A2, c2, rfl, hr, hy, hyv⟩ := (HORh.out.below HB.out).at hlt
                    have hdr : d.r = rr := by
                      rw [← HRS.out, List.getElem?_map, hd] at hr
                      simpa using hr
                    have hvb : ∀ x ∈ rr.v, x < 256 := by
                      rw [← hdr]
                      refine (HPL.out.2.2.2.2.2.2.2 d ?_).2.2
                      rw [HPL.out.2.1]
                      exact List.mem_of_getElem? hd
                    rw [hdr] at hxv
                    have HX8 : Hid (∀ wx, Below wr.heap.size wr wx → wx.rangeAt gd (od + q * 11 + 8) [.int .i64 rr.e, .slice A1 rr.v.length c1, .int .i64 rr.n]) := Lib.hid (fun wx hb x v hv => by
                      have q1 := hx (8 + x) v (by rw [← hdr] at hv; match x with | 0 => simpa [doneL] using hv | 1 => simpa [doneL] using hv | 2 => simpa [doneL] using hv | x + 3 => simp at hv)
                      rw [← Nat.add_assoc] at q1
                      exact (Below.cell hb (p := ⟨gd, od + q * 11 + 8 + x, none⟩) (World.block_lt_of_cell? _ _ q1)).trans q1)
                    have HY8 : Hid (∀ wx, Below wr.heap.size wr wx → wx.rangeAt gr (orr + q * 3) [.int .i64 rr.e, .slice A2 rr.v.length c2, .int .i64 rr.n]) := Lib.hid (fun wx hb x v hv => by
                      have q1 := hy x v hv
                      exact (Below.cell hb (p := ⟨gr, orr + q * 3 + x, none⟩) (World.block_lt_of_cell? _ _ q1)).trans q1)
                    have CR : Hid (∀ wx, Below wr.heap.size wr wx → Calls Tryz.prog 32 #[.agg #[.int .i64 rr.e, .slice A1 rr.v.length c1, .int .i64 rr.n], .agg #[.int .i64 rr.e, .slice A2 rr.v.length c2, .int .i64 rr.n]] wx fun e w' => e = .returned (.bool true) ∧ Below wx.heap.size wx w') := Lib.hid (fun wx hb => same_is wx _ _ hvb (hxv.below hb) (hyv.below hb))
                    have HJN := Lib.hid hqi
                    clear hd hx hxc hxv hr hy hyv hdr hvb
                    go_upto_region 28 with fail
                    go_cut [137] from 127 to 137 (fun s137 wx => s137 = .bool false ∧ Hid (Below wr.heap.size wr wx))
                    case first =>
                      refine region_invB (U0 := fun n => ([u127, u128, u129, u130, u131, u132, u133, u134, u135, u136, u137] : List Value).getD (n - 127) undef) (frameO28 gd od gr orr c cd cr q A1 A2 c1 c2 rr _ _ _ _ _ _ _ _ _ _ _ _ _ _ _ _ _ _ _ _ _ _ _ _ _ _ _ _ _ _ _ _ _ _ _ _ _ _ _ _ _ _ _ _ _ _ _ _ _ _ _ _ _ _ _ _ _ _ _ _ _ _ _ _ _ _ _ _ _ _ _ _ _ _ _ _ _ _ _ _ _ _ _ _ _ _ _ _ _ _ _ _ _ _ _ _ _ _ _ _ _ _ _ _ _ _ _ _ _ _ _ _ _ _ _ _ _ _ _ _ _ _ _ _ _ _ _ _ _ _ _ _ _ _ _ _ _ _ _) dstO28 depsO28 (fun _ => true) (VM (kindsO28 gd od gr orr c cd cr q A1 A2 c1 c2 rr)) (FrO28 gd od gr orr c cd cr q A1 A2 c1 c2 rr) ?hm ?hb ?inj ?dst ?deps ?want ?put ?ev ?fr (VM.ext _) (Below.refl _ _) ?hok ?done
                      case hok =>
                        refine all_ops (AllFrom.cons ?s0 (AllFrom.cons ?s1 (AllFrom.cons ?s2 (AllFrom.cons ?s3 (AllFrom.cons ?s4 (AllFrom.cons ?s5 (AllFrom.cons ?s6 (AllFrom.cons ?s7 (AllFrom.cons ?s8 (AllFrom.cons ?s9 (AllFrom.cons ?s10 AllFrom.nil)))))))))))
                        case s0 =>
                          intro a w1 hF hB hdep K hK
                          rw [if_pos rfl]
                          have f9 : a.tmps[9]?.getD undef = .slice (some ⟨gd, od, none⟩) c cd := ev_tmpM hF.1
                          go_simp
                          exact hK.out _ _ (Below.refl _ _) hB rfl
                        case s1 =>
                          intro a w1 hF hB hdep K hK
                          rw [if_pos rfl]
                          have f17 : a.tmps[17]?.getD undef = .int .i64 (q : Int) := ev_tmpM hF.2.2
                          go_simp
                          exact hK.out _ _ (Below.refl _ _) hB rfl
                        case s2 =>
                          intro a w1 hF hB hdep K hK
                          rw [if_pos rfl]
                          have e0 : a.tmps[127]?.getD undef = .slice (some ⟨gd, od, none⟩) c cd := ev_tmpM (show a.eval (.tmp 127) = .slice (some ⟨gd, od, none⟩) c cd from hdep 0 (by decide))
                          have e1 : a.tmps[128]?.getD undef = .int .i64 (q : Int) := ev_tmpM (show a.eval (.tmp 128) = .int .i64 (q : Int) from hdep 1 (by decide))
                          have hjn := HJN.out
                          go_simp
                          exact hK.out _ _ (Below.refl _ _) hB rfl
                        case s3 =>
                          intro a w1 hF hB hdep K hK
                          rw [if_pos rfl]
                          have e2 : a.tmps[129]?.getD undef = .pointer (some ⟨gd, od + q * 11, none⟩) := ev_tmpM (show a.eval (.tmp 129) = .pointer (some ⟨gd, od + q * 11, none⟩) from hdep 2 (by decide))
                          go_simp
                          exact hK.out _ _ (Below.refl _ _) hB rfl
                        case s4 =>
                          intro a w1 hF hB hdep K hK
                          rw [if_pos rfl]
                          refine wp_load_mid 47 (.tmp 130) rfl gd (od + q * 11 + 8) (hdep 3 (by decide)) [.int .i64 rr.e, .slice A1 rr.v.length c1, .int .i64 rr.n] _ (fun q v hv => HX8.out w1 hB q v hv) Tryz.underlying47 rfl (by kernel_rfl) ?_
                          exact hK.out _ _ (Below.refl _ _) hB rfl
                        case s5 =>
                          intro a w1 hF hB hdep K hK
                          rw [if_pos rfl]
                          have f16 : a.tmps[16]?.getD undef = .slice (some ⟨gr, orr, none⟩) c cr := ev_tmpM hF.2.1
                          go_simp
                          exact hK.out _ _ (Below.refl _ _) hB rfl
                        case s6 =>
                          intro a w1 hF hB hdep K hK
                          rw [if_pos rfl]
                          have f17 : a.tmps[17]?.getD undef = .int .i64 (q : Int) := ev_tmpM hF.2.2
                          go_simp
                          exact hK.out _ _ (Below.refl _ _) hB rfl
                        case s7 =>
                          intro a w1 hF hB hdep K hK
                          rw [if_pos rfl]
                          have e5 : a.tmps[132]?.getD undef = .slice (some ⟨gr, orr, none⟩) c cr := ev_tmpM (show a.eval (.tmp 132) = .slice (some ⟨gr, orr, none⟩) c cr from hdep 5 (by decide))
                          have e6 : a.tmps[133]?.getD undef = .int .i64 (q : Int) := ev_tmpM (show a.eval (.tmp 133) = .int .i64 (q : Int) from hdep 6 (by decide))
                          have hjn := HJN.out
                          go_simp
                          exact hK.out _ _ (Below.refl _ _) hB rfl
                        case s8 =>
                          intro a w1 hF hB hdep K hK
                          rw [if_pos rfl]
                          refine wp_load_mid 47 (.tmp 134) rfl gr (orr + q * 3) (hdep 7 (by decide)) [.int .i64 rr.e, .slice A2 rr.v.length c2, .int .i64 rr.n] _ (fun q v hv => HY8.out w1 hB q v hv) Tryz.underlying47 rfl (by kernel_rfl) ?_
                          exact hK.out _ _ (Below.refl _ _) hB rfl
                        case s9 =>
                          intro a w1 hF hB hdep K hK
                          rw [if_pos rfl]
                          have e4 : a.tmps[131]?.getD undef = .agg #[.int .i64 rr.e, .slice A1 rr.v.length c1, .int .i64 rr.n] := ev_tmpM (show a.eval (.tmp 131) = .agg #[.int .i64 rr.e, .slice A1 rr.v.length c1, .int .i64 rr.n] from hdep 4 (by decide))
                          have e8 : a.tmps[135]?.getD undef = .agg #[.int .i64 rr.e, .slice A2 rr.v.length c2, .int .i64 rr.n] := ev_tmpM (show a.eval (.tmp 135) = .agg #[.int .i64 rr.e, .slice A2 rr.v.length c2, .int .i64 rr.n] from hdep 8 (by decide))
                          go_simp
                          go_at_call 32
                          refine (CR.out w1 hB).mono ?_
                          rintro en w9 ⟨rfl, hb9⟩
                          go_simp
                          exact hK.out _ _ hb9 (hB.trans (hb9.mono hB.size)) rfl
                        case s10 =>
                          intro a w1 hF hB hdep K hK
                          rw [if_pos rfl]
                          have e9 : a.tmps[136]?.getD undef = .bool true := ev_tmpM (show a.eval (.tmp 136) = .bool true from hdep 9 (by decide))
                          go_simp
                          exact hK.out _ _ (Below.refl _ _) hB rfl
                      case hm => kernel_rfl
                      case hb => kernel_rfl
                      case inj =>
                        intro i j hi hj h
                        have h1 : ((List.range 11).all fun i => (List.range 11).all fun j => !(dstO28 i == dstO28 j) || (i == j)) = true := by kernel_rfl
                        have h2 := List.all_eq_true.1 (List.all_eq_true.1 h1 i (List.mem_range.2 hi)) j (List.mem_range.2 hj)
                        simpa [h] using h2
                      case dst => exact all_ops (AllFrom.cons rfl (AllFrom.cons rfl (AllFrom.cons rfl (AllFrom.cons rfl (AllFrom.cons rfl (AllFrom.cons rfl (AllFrom.cons rfl (AllFrom.cons rfl (AllFrom.cons rfl (AllFrom.cons rfl (AllFrom.cons rfl AllFrom.nil)))))))))))
                      case deps =>
                        intro i hi j hj
                        refine deps_ofM (deps := depsO28) ?_ i hi j hj
                        kernel_rfl
                      case want => exact all_ops (AllFrom.cons (fun U w hd => rfl) (AllFrom.cons (fun U w hd => rfl) (AllFrom.cons (fun U w hd => rfl) (AllFrom.cons (fun U w hd => rfl) (AllFrom.cons (fun U w hd => rfl) (AllFrom.cons (fun U w hd => rfl) (AllFrom.cons (fun U w hd => rfl) (AllFrom.cons (fun U w hd => rfl) (AllFrom.cons (fun U w hd => rfl) (AllFrom.cons (fun U w hd => rfl) (AllFrom.cons (fun U w hd => rfl) AllFrom.nil)))))))))))
                      case put => exact all_ops (AllFrom.cons (fun _ _ => by kernel_rfl) (AllFrom.cons (fun _ _ => by kernel_rfl) (AllFrom.cons (fun _ _ => by kernel_rfl) (AllFrom.cons (fun _ _ => by kernel_rfl) (AllFrom.cons (fun _ _ => by kernel_rfl) (AllFrom.cons (fun _ _ => by kernel_rfl) (AllFrom.cons (fun _ _ => by kernel_rfl) (AllFrom.cons (fun _ _ => by kernel_rfl) (AllFrom.cons (fun _ _ => by kernel_rfl) (AllFrom.cons (fun _ _ => by kernel_rfl) (AllFrom.cons (fun _ _ => by kernel_rfl) AllFrom.nil)))))))))))
                      case ev => exact all_ops (AllFrom.cons (fun _ => by kernel_rfl) (AllFrom.cons (fun _ => by kernel_rfl) (AllFrom.cons (fun _ => by kernel_rfl) (AllFrom.cons (fun _ => by kernel_rfl) (AllFrom.cons (fun _ => by kernel_rfl) (AllFrom.cons (fun _ => by kernel_rfl) (AllFrom.cons (fun _ => by kernel_rfl) (AllFrom.cons (fun _ => by kernel_rfl) (AllFrom.cons (fun _ => by kernel_rfl) (AllFrom.cons (fun _ => by kernel_rfl) (AllFrom.cons (fun _ => by kernel_rfl) AllFrom.nil)))))))))))
                      case fr => exact fun U => ⟨by kernel_rfl, by kernel_rfl, by kernel_rfl⟩
                      case done =>
                        intro U w' hB hV
                        have e1 : U 137 = .bool false := hV 10 (by decide)
                        unfold frameO28
                        rw [e1]
                        have HB9 := Lib.hid hB
                        clear hV e1 hB
                        go_wp2_with fail
                        go_meet
                        exact ⟨rfl, HB9⟩
                    case rest =>
                      obtain ⟨rfl, HB9⟩ := hcut
                      go_wp2_with fail
                      go_roundw
                      case rel => exact ⟨q + 1, by omega, by go_num, Lib.hid (HB.out.trans (HB9.out.mono HB.out.size))⟩
                      case measure => simp only [intOf]; omega
                  · have hqi : ¬ (q : Int) < (c : Int) := by omega
                    clear hq hlt hq0 hwq
                    have HBB := Lib.hid (HBh.out.trans (HB.out.mono HBh.out.size))
                    have HAz := Lib.hid (HAs.out.below HBB.out)
                    have HK15z := Lib.hid (HK15.out.below HB.out)
                    have HOMz := Lib.hid ((HOMh.out.below HB.out).rd)
                    have HENDz := Lib.hid (HENDs.out.trans (HBB.out.mono HENDs.out.size))
                    clear HDs HAs HEs HENDs HBh HK15 HOMh HORh HB HBB
                    rename World => wz
                    have CAT : Hid (∀ wx, Below wz.heap.size wz wx → Calls Tryz.prog 26 #[.pointer (some ⟨b, 0, none⟩)] wx fun e w' => e = .returned (.int .i64 (c : Int)) ∧ wx = w') := Lib.hid (fun wx hb => by have q1 := bkAt wx (HAz.out.below hb); rw [HI.out.pos] at q1; exact q1)
                    have CMA : Hid (∀ wx, Below wz.heap.size wz wx → Calls Tryz.prog 16 #[.pointer (some ⟨b, 0, none⟩)] wx fun e w' => ∃ a', e = .returned (machV a' m) ∧ OwnM wx w' a' m ∧ Below wx.heap.size wx w') := Lib.hid (fun wx hb => bkMachine wx (HAz.out.below hb) HMK.out)
                    have CSM : Hid (∀ wx (a : MA), Below wz.heap.size wz wx → RdM wx wx.heap.size a m → Calls Tryz.prog 15 #[machV a m, machV am m] wx fun e w' => e = .returned (.bool true) ∧ Below wx.heap.size wx w') := Lib.hid (fun wx a hb h => (refSame_any wx HMO.out HMO.out h ((HOMz.out.below hb))).mono fun e w' q => ⟨by rw [q.1]; simp, q.2⟩)
                    have HK15 := HK15z
                    go_upto_region 31 with fail
                    refine region_invB (U0 := fun n => ([undef, undef, undef, undef, undef, undef, u6] : List Value).getD n undef) (frameO31 b g15 c cd Ad am m _ _ _ _ _ _ _ _ _ _ _ _ _ _ _ _ _ _ _ _ _ _ _ _ _ _ _ _ _ _ _ _ _ _ _ _ _ _ _ _ _ _ _ _ _ _ _ _ _ _ _ _ _ _ _ _ _ _ _ _ _ _ _ _ _ _ _ _ _ _ _ _ _ _ _ _ _ _ _ _ _ _ _ _ _ _ _ _ _ _ _ _ _ _ _ _ _ _ _ _ _ _ _ _ _ _ _ _ _ _ _ _ _ _ _ _ _ _ _ _ _ _ _ _ _ _ _ _ _ _ _ _ _ _ _) dstO31 depsO31 (fun _ => true) (VM (kindsO31 b g15 c cd Ad am m)) (FrO31 b g15 c cd Ad am m) ?hm ?hb ?inj ?dst ?deps ?want ?put ?ev ?fr (VM.ext _) (Below.refl _ _) ?hok ?done
                    case hok =>
                      refine all_ops (AllFrom.cons ?s0 (AllFrom.cons ?s1 (AllFrom.cons ?s2 (AllFrom.cons ?s3 (AllFrom.cons ?s4 (AllFrom.cons ?s5 (AllFrom.cons ?s6 (AllFrom.cons ?s7 (AllFrom.cons ?s8 (AllFrom.cons ?s9 (AllFrom.cons ?s10 (AllFrom.cons ?s11 (AllFrom.cons ?s12 (AllFrom.cons ?s13 (AllFrom.cons ?s14 AllFrom.nil)))))))))))))))
                      case s0 =>
                        intro a w1 hF hB hdep K hK
                        rw [if_pos rfl]
                        have f7 : a.tmps[7]?.getD undef = .pointer (some ⟨b, 0, none⟩) := ev_tmpM hF.1
                        go_simp
                        exact hK.out _ _ (Below.refl _ _) hB rfl
                      case s1 =>
                        intro a w1 hF hB hdep K hK
                        rw [if_pos rfl]
                        have e0 : a.tmps[139]?.getD undef = .pointer (some ⟨b, 0, none⟩) := ev_tmpM (show a.eval (.tmp 139) = .pointer (some ⟨b, 0, none⟩) from hdep 0 (by decide))
                        go_simp
                        go_at_call 26
                        refine (CAT.out w1 hB).mono ?_
                        rintro en w9 ⟨rfl, rfl⟩
                        go_simp
                        exact hK.out _ _ (Below.refl _ _) hB rfl
                      case s2 =>
                        intro a w1 hF hB hdep K hK
                        rw [if_pos rfl]
                        have f9 : a.tmps[9]?.getD undef = .slice Ad c cd := ev_tmpM hF.2.1
                        go_simp
                        exact hK.out _ _ (Below.refl _ _) hB rfl
                      case s3 =>
                        intro a w1 hF hB hdep K hK
                        rw [if_pos rfl]
                        have e2 : a.tmps[141]?.getD undef = .slice Ad c cd := ev_tmpM (show a.eval (.tmp 141) = .slice Ad c cd from hdep 2 (by decide))
                        go_simp
                        exact hK.out _ _ (Below.refl _ _) hB rfl
                      case s4 =>
                        intro a w1 hF hB hdep K hK
                        rw [if_pos rfl]
                        have e1 : a.tmps[140]?.getD undef = .int .i64 (c : Int) := ev_tmpM (show a.eval (.tmp 140) = .int .i64 (c : Int) from hdep 1 (by decide))
                        have e3 : a.tmps[142]?.getD undef = .int .i64 (c : Int) := ev_tmpM (show a.eval (.tmp 142) = .int .i64 (c : Int) from hdep 3 (by decide))
                        go_simp
                        exact hK.out _ _ (Below.refl _ _) hB rfl
                      case s5 =>
                        intro a w1 hF hB hdep K hK
                        rw [if_pos rfl]
                        have e4 : a.tmps[143]?.getD undef = .bool true := ev_tmpM (show a.eval (.tmp 143) = .bool true from hdep 4 (by decide))
                        go_simp
                        exact hK.out _ _ (Below.refl _ _) hB rfl
                      case s6 =>
                        intro a w1 hF hB hdep K hK
                        rw [if_pos rfl]
                        have f7 : a.tmps[7]?.getD undef = .pointer (some ⟨b, 0, none⟩) := ev_tmpM hF.1
                        go_simp
                        exact hK.out _ _ (Below.refl _ _) hB rfl
                      case s7 =>
                        intro a w1 hF hB hdep K hK
                        rw [if_pos rfl]
                        have e6 : a.tmps[145]?.getD undef = .pointer (some ⟨b, 0, none⟩) := ev_tmpM (show a.eval (.tmp 145) = .pointer (some ⟨b, 0, none⟩) from hdep 6 (by decide))
                        go_simp
                        go_at_call 16
                        refine (CMA.out w1 hB).mono ?_
                        rintro en w9 ⟨a9, rfl, ho9, hb9⟩
                        go_simp
                        exact hK.out _ _ hb9 (hB.trans (hb9.mono hB.size)) ⟨a9, rfl, ho9.rd⟩
                      case s8 =>
                        intro a w1 hF hB hdep K hK
                        rw [if_pos rfl]
                        refine wp_load_row 33 (.tmp 15) rfl g15 hF.2.2 33 (machC am m) (0, 0) _ (HK15.out.below hB) Tryz.underlying33 rfl (by kernel_rfl) ?_
                        exact hK.out _ _ (Below.refl _ _) hB rfl
                      case s9 =>
                        intro a w1 hF hB hdep K hK
                        rw [if_pos rfl]
                        obtain ⟨am7, em7, hm7⟩ : ∃ am, a.eval (.tmp 146) = machV am m ∧ RdM w1 w1.heap.size am m := hdep 7 (by decide)
                        have e7 := ev_tmpM em7
                        have e8 : a.tmps[147]?.getD undef = machV am m := ev_tmpM (show a.eval (.tmp 147) = machV am m from hdep 8 (by decide))
                        go_simp
                        go_at_call 15
                        refine (CSM.out w1 _ hB hm7).mono ?_
                        rintro en w9 ⟨rfl, hb9⟩
                        go_simp
                        exact hK.out _ _ hb9 (hB.trans (hb9.mono hB.size)) rfl
                      case s10 =>
                        intro a w1 hF hB hdep K hK
                        rw [if_pos rfl]
                        have e5 : a.tmps[144]?.getD undef = .bool true := ev_tmpM (show a.eval (.tmp 144) = .bool true from hdep 5 (by decide))
                        have e9 : a.tmps[148]?.getD undef = .bool true := ev_tmpM (show a.eval (.tmp 148) = .bool true from hdep 9 (by decide))
                        go_simp
                        exact hK.out _ _ (Below.refl _ _) hB rfl
                      case s11 =>
                        intro a w1 hF hB hdep K hK
                        rw [if_pos rfl]
                        have e10 : a.tmps[149]?.getD undef = .bool true := ev_tmpM (show a.eval (.tmp 149) = .bool true from hdep 10 (by decide))
                        go_simp
                        exact hK.out _ _ (Below.refl _ _) hB rfl
                      case s12 =>
                        intro a w1 hF hB hdep K hK
                        rw [if_pos rfl]
                        go_simp
                        go_at_call 17
                        refine (awake16 w1).mono ?_
                        rintro en w9 ⟨rfl, hb9⟩
                        go_simp
                        exact hK.out _ _ hb9 (hB.trans (hb9.mono hB.size)) rfl
                      case s13 =>
                        intro a w1 hF hB hdep K hK
                        rw [if_pos rfl]
                        have e11 : a.tmps[150]?.getD undef = .bool true := ev_tmpM (show a.eval (.tmp 150) = .bool true from hdep 11 (by decide))
                        have e12 : a.tmps[151]?.getD undef = .bool true := ev_tmpM (show a.eval (.tmp 151) = .bool true from hdep 12 (by decide))
                        go_simp
                        exact hK.out _ _ (Below.refl _ _) hB rfl
                      case s14 =>
                        intro a w1 hF hB hdep K hK
                        rw [if_pos rfl]
                        have e13 : a.tmps[152]?.getD undef = .bool true := ev_tmpM (show a.eval (.tmp 152) = .bool true from hdep 13 (by decide))
                        go_simp
                        exact hK.out _ _ (Below.refl _ _) hB rfl
                    case hm => kernel_rfl
                    case hb => kernel_rfl
                    case inj =>
                      intro i j hi hj h
                      have h1 : ((List.range 15).all fun i => (List.range 15).all fun j => !(dstO31 i == dstO31 j) || (i == j)) = true := by kernel_rfl
                      have h2 := List.all_eq_true.1 (List.all_eq_true.1 h1 i (List.mem_range.2 hi)) j (List.mem_range.2 hj)
                      simpa [h] using h2
                    case dst => exact all_ops (AllFrom.cons rfl (AllFrom.cons rfl (AllFrom.cons rfl (AllFrom.cons rfl (AllFrom.cons rfl (AllFrom.cons rfl (AllFrom.cons rfl (AllFrom.cons rfl (AllFrom.cons rfl (AllFrom.cons rfl (AllFrom.cons rfl (AllFrom.cons rfl (AllFrom.cons rfl (AllFrom.cons rfl (AllFrom.cons rfl AllFrom.nil)))))))))))))))
                    case deps =>
                      intro i hi j hj
                      refine deps_ofM (deps := depsO31) ?_ i hi j hj
                      kernel_rfl
                    case want => exact all_ops (AllFrom.cons (fun U w hd => rfl) (AllFrom.cons (fun U w hd => rfl) (AllFrom.cons (fun U w hd => rfl) (AllFrom.cons (fun U w hd => rfl) (AllFrom.cons (fun U w hd => rfl) (AllFrom.cons (fun U w hd => rfl) (AllFrom.cons (fun U w hd => wanted_ofM rfl (yielded_ofM (s := 144) (b := true) rfl ((show _ = some (U 144) from by kernel_rfl).trans (congrArg some (show U 144 = .bool true from hd 5 (by decide))))) rfl) (AllFrom.cons (fun U w hd => wanted_ofM rfl (yielded_ofM (s := 144) (b := true) rfl ((show _ = some (U 144) from by kernel_rfl).trans (congrArg some (show U 144 = .bool true from hd 5 (by decide))))) rfl) (AllFrom.cons (fun U w hd => wanted_ofM rfl (yielded_ofM (s := 144) (b := true) rfl ((show _ = some (U 144) from by kernel_rfl).trans (congrArg some (show U 144 = .bool true from hd 5 (by decide))))) rfl) (AllFrom.cons (fun U w hd => wanted_ofM rfl (yielded_ofM (s := 144) (b := true) rfl ((show _ = some (U 144) from by kernel_rfl).trans (congrArg some (show U 144 = .bool true from hd 5 (by decide))))) rfl) (AllFrom.cons (fun U w hd => rfl) (AllFrom.cons (fun U w hd => rfl) (AllFrom.cons (fun U w hd => wanted_ofM rfl (yielded_ofM (s := 150) (b := true) rfl ((show _ = some (U 150) from by kernel_rfl).trans (congrArg some (show U 150 = .bool true from hd 11 (by decide))))) rfl) (AllFrom.cons (fun U w hd => rfl) (AllFrom.cons (fun U w hd => rfl) AllFrom.nil)))))))))))))))
                    case put => exact all_ops (AllFrom.cons (fun _ _ => by kernel_rfl) (AllFrom.cons (fun _ _ => by kernel_rfl) (AllFrom.cons (fun _ _ => by kernel_rfl) (AllFrom.cons (fun _ _ => by kernel_rfl) (AllFrom.cons (fun _ _ => by kernel_rfl) (AllFrom.cons (fun _ _ => by kernel_rfl) (AllFrom.cons (fun _ _ => by kernel_rfl) (AllFrom.cons (fun _ _ => by kernel_rfl) (AllFrom.cons (fun _ _ => by kernel_rfl) (AllFrom.cons (fun _ _ => by kernel_rfl) (AllFrom.cons (fun _ _ => by kernel_rfl) (AllFrom.cons (fun _ _ => by kernel_rfl) (AllFrom.cons (fun _ _ => by kernel_rfl) (AllFrom.cons (fun _ _ => by kernel_rfl) (AllFrom.cons (fun _ _ => by kernel_rfl) AllFrom.nil)))))))))))))))
                    case ev => exact all_ops (AllFrom.cons (fun _ => by kernel_rfl) (AllFrom.cons (fun _ => by kernel_rfl) (AllFrom.cons (fun _ => by kernel_rfl) (AllFrom.cons (fun _ => by kernel_rfl) (AllFrom.cons (fun _ => by kernel_rfl) (AllFrom.cons (fun _ => by kernel_rfl) (AllFrom.cons (fun _ => by kernel_rfl) (AllFrom.cons (fun _ => by kernel_rfl) (AllFrom.cons (fun _ => by kernel_rfl) (AllFrom.cons (fun _ => by kernel_rfl) (AllFrom.cons (fun _ => by kernel_rfl) (AllFrom.cons (fun _ => by kernel_rfl) (AllFrom.cons (fun _ => by kernel_rfl) (AllFrom.cons (fun _ => by kernel_rfl) (AllFrom.cons (fun _ => by kernel_rfl) AllFrom.nil)))))))))))))))
                    case fr => exact fun U => ⟨by kernel_rfl, by kernel_rfl, by kernel_rfl⟩
                    case done =>
                      intro U w' hB hV
                      have e1 : U 6 = .bool true := hV 14 (by decide)
                      unfold frameO31
                      rw [e1]
                      have HB9 := Lib.hid hB
                      clear hV e1 hB
                      go_wp2_with fail
                      go_ret
                      exact ⟨rfl, HENDz.out.trans (HB9.out.mono HENDz.out.size)⟩
end Go.Proofs.YtaknfmionkkdjaaGreat

