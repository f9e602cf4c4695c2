/-
  Logarithms: contracts of the program's function and of the model's.
-/
import Derived.Test.YtnipdbphfnppeacLog
import Derived.Test.YtnipdbphfnppeacAngC
namespace Go.Fl
open Ieee

def logS (x : Nat) : Nat := fop .quo .f64 (fop .sub .f64 x 4607182418800017408) (fop .add .f64 x 4607182418800017408)
def serQ (u : Nat) : Nat → Nat
  | 0 => 0
  | j + 1 => fop .add .f64 (fop .quo .f64 4607182418800017408 (floatOfInt .f64 (25 - 2 * (j : Int)))) (fop .mul .f64 u (serQ u j))
def logW (x : Nat) (e : Int) : Nat := fop .add .f64 (fop .mul .f64 4611686018427387904 (fop .mul .f64 (logS x) (serQ (fop .mul .f64 (logS x) (logS x)) 13))) (fop .mul .f64 (floatOfInt .f64 e) 4604418534313441775)

/-- Where halving and doubling stop. -/
structure Stop (Y j1 j2 : Nat) : Prop where
  a : ∀ i, i < j1 → fcmp .geq .f64 (halv Y i) 4609434218613702656 = true
  b : fcmp .geq .f64 (halv Y j1) 4609434218613702656 = false
  c : ∀ i, i < j2 → fcmp .lss .f64 (doub (halv Y j1) i) 4604930618986332160 = true
  d : fcmp .lss .f64 (doub (halv Y j1) j2) 4604930618986332160 = false

theorem Stop.one {Y a b c d : Nat} (h : Stop Y a b) (k : Stop Y c d) : a = c ∧ b = d := by
  have e : a = c := by
    rcases Nat.lt_trichotomy a c with l | l | l
    · have := k.a a l; rw [h.b] at this; exact absurd this (by decide)
    · exact l
    · have := h.a c l; rw [k.b] at this; exact absurd this (by decide)
  subst e
  refine ⟨rfl, ?_⟩
  rcases Nat.lt_trichotomy b d with l | l | l
  · have := k.c b l; rw [h.d] at this; exact absurd this (by decide)
  · exact l
  · have := h.c d l; rw [k.d] at this; exact absurd this (by decide)

theorem halv_pos {Y : Nat} (hp : Pos Y 1202) : ∀ j, j ≤ 128 → (∀ i, i < j → fcmp .geq .f64 (halv Y i) 4609434218613702656 = true) → Pos (halv Y j) (1202 - j)
  | 0, _, _ => hp
  | j + 1, hj, h => by
    have ih := halv_pos hp j (by omega) (fun i hi => h i (by omega))
    rw [show 1202 - j = 1074 + (127 - j) + 1 by omega] at ih
    have := ih.half (h j (by omega)) (by omega)
    rw [show 1202 - (j + 1) = 1074 + (127 - j) by omega]
    exact this

theorem halv_le {Y j : Nat} (hp : Pos Y 1202) (h : ∀ i, i < j → fcmp .geq .f64 (halv Y i) 4609434218613702656 = true) : j ≤ 128 := by
  refine Nat.le_of_not_lt fun hj => ?_
  have h1 := halv_pos hp 128 (by decide) (fun i hi => h i (by omega))
  have h2 := h 128 (by omega)
  have h3 := h1.ge15
  rw [show C15 = 4609434218613702656 from rfl, h2] at h3
  have h4 := of_decide_eq_true h3.symm
  have h5 := h1.bd.2
  have h6 := p2_two 1073
  have h7 := p2_pos 1073
  rw [show 1202 - 128 = 1073 + 1 from rfl, h6] at h5
  omega

theorem doub_lo {Z E : Nat} (hp : Pos Z E) : ∀ j, (∀ i, i < j → fcmp .lss .f64 (doub Z i) 4604930618986332160 = true) → ∃ F, Pos (doub Z j) F ∧ p2 j ≤ V FloatKind.f64.format (rung FloatKind.f64.format (doub Z j))
  | 0, _ => ⟨E, hp, hp.pos⟩
  | j + 1, h => by
    obtain ⟨F, ih, hv⟩ := doub_lo hp j (fun i hi => h i (by omega))
    have := ih.twice (h j (by omega))
    refine ⟨1075, this.1, ?_⟩
    refine Nat.le_trans ?_ this.2
    rw [p2_two]; omega

theorem doub_le {Z E j : Nat} (hp : Pos Z E) (h : ∀ i, i < j → fcmp .lss .f64 (doub Z i) 4604930618986332160 = true) : j ≤ 1074 := by
  refine Nat.le_of_not_lt fun hj => ?_
  obtain ⟨F, h1, h1v⟩ := doub_lo hp 1074 (fun i hi => h i (by omega))
  have h2 := h 1074 (by omega)
  have h3 := h1.lt75
  rw [show C75 = 4604930618986332160 from rfl, h2] at h3
  have h4 := of_decide_eq_true h3.symm
  have h6 := p2_four 1072
  have h7 := p2_pos 1072
  rw [show p2 1074 = p2 (1072 + 2) from rfl, h6] at h1v
  omega

end Go.Fl
namespace Go.Proofs.Ytnipdbphfnppeac
open Go.Fl Go.RowKit

set_option maxHeartbeats 2000000 in
theorem iLog_any (x Y : Nat) (ix : Is .f64 x Y) (HP : Hid (Pos Y 1202)) (w : World) : Calls Try.prog 35 #[.float .f64 x] w fun e w' => (∃ j1 j2 r, Stop Y j1 j2 ∧ e = .returned (.float .f64 r) ∧ Is .f64 r (logW (doub (halv Y j1) j2) ((j1 : Int) - (j2 : Int)))) ∧ ∃ n, w' = w.drewN n := by
  go_enter Try.func35, Try.ntmps35
  go_wp2
  go_loopw [0, 3] (fun p k wr => ∃ (j : Nat), k = .int .i64 (j : Int) ∧ (∃ r, p = .float .f64 r ∧ Is .f64 r (halv Y j)) ∧ Hid (∀ i, i < j → fcmp .geq .f64 (halv Y i) 4609434218613702656 = true) ∧ ∃ n, wr = w.drewN n) (fun _ k _ => (128 - intOf k).toNat)
  case atStart => exact ⟨0, rfl, ⟨_, rfl, by assumption⟩, Lib.hid (fun i hi => absurd hi (Nat.not_lt_zero i)), 0, rfl⟩
  case round =>
    obtain ⟨a, rfl, ⟨r, rfl, hr⟩, HA, n, rfl⟩ := hrel
    by_cases hg : fcmp .geq .f64 (halv Y a) 4609434218613702656 = true
    · have hall : ∀ i, i < a + 1 → fcmp .geq .f64 (halv Y i) 4609434218613702656 = true := fun i hi => by
        rcases Nat.lt_succ_iff_lt_or_eq.1 hi with l | l
        · exact HA.out i l
        · rw [l]; exact hg
      have hle := halv_le HP.out hall
      have HB := Lib.hid hall
      clear hall
      go_wp2_with (first | (apply wpList_fcmp; rfl; rfl; rfl; rfl; (first | with_reducible assumption | exact Is.const rfl); (first | with_reducible assumption | exact Is.const rfl); (first | with_reducible assumption | exact rfl)) | (apply wpList_same; rfl; rfl; exact U64; exact U64) | (apply wpList_farith; rfl; rfl; rfl; rfl; (first | with_reducible assumption | with_reducible exact intWord_is _ | exact Is.const rfl); (first | with_reducible assumption | with_reducible exact intWord_is _ | exact Is.const rfl); intro r n hr))
      go_roundw
      case rel => exact ⟨a + 1, by go_num, ⟨_, rfl, by assumption⟩, HB, _, rfl⟩
      case measure => simp [intOf]; omega
    · replace hg : fcmp .geq .f64 (halv Y a) 4609434218613702656 = false := by simpa using hg
      have hle := halv_le HP.out HA.out
      have HG := Lib.hid hg
      go_wp2_with (first | (apply wpList_fcmp; rfl; rfl; rfl; rfl; (first | with_reducible assumption | exact Is.const rfl); (first | with_reducible assumption | exact Is.const rfl); (first | with_reducible assumption | exact rfl)) | (apply wpList_same; rfl; rfl; exact U64; exact U64) | (apply wpList_farith; rfl; rfl; rfl; rfl; (first | with_reducible assumption | with_reducible exact intWord_is _ | exact Is.const rfl); (first | with_reducible assumption | with_reducible exact intWord_is _ | exact Is.const rfl); intro r n hr))
      clear hg
      go_simp
      go_loopw [0, 3] (fun p k wr => ∃ (j : Nat), k = .int .i64 ((a : Int) - (j : Int)) ∧ (∃ r, p = .float .f64 r ∧ Is .f64 r (doub (halv Y a) j)) ∧ Hid (∀ i, i < j → fcmp .lss .f64 (doub (halv Y a) i) 4604930618986332160 = true) ∧ ∃ n, wr = w.drewN n) (fun _ k _ => (intOf k + 1074).toNat)
      case atStart => exact ⟨0, by go_num, ⟨_, rfl, by assumption⟩, Lib.hid (fun i hi => absurd hi (Nat.not_lt_zero i)), _, rfl⟩
      case round =>
        obtain ⟨b, rfl, ⟨r2, rfl, hr2⟩, HC, n2, rfl⟩ := hrel
        by_cases hl : fcmp .lss .f64 (doub (halv Y a) b) 4604930618986332160 = true
        · have hall : ∀ i, i < b + 1 → fcmp .lss .f64 (doub (halv Y a) i) 4604930618986332160 = true := fun i hi => by
            rcases Nat.lt_succ_iff_lt_or_eq.1 hi with l | l
            · exact HC.out i l
            · rw [l]; exact hl
          have hle2 := doub_le (halv_pos HP.out a hle HA.out) hall
          have HD := Lib.hid hall
          clear hall
          go_wp2_with (first | (apply wpList_fcmp; rfl; rfl; rfl; rfl; (first | with_reducible assumption | exact Is.const rfl); (first | with_reducible assumption | exact Is.const rfl); (first | with_reducible assumption | exact rfl)) | (apply wpList_same; rfl; rfl; exact U64; exact U64) | (apply wpList_farith; rfl; rfl; rfl; rfl; (first | with_reducible assumption | with_reducible exact intWord_is _ | exact Is.const rfl); (first | with_reducible assumption | with_reducible exact intWord_is _ | exact Is.const rfl); intro r n hr))
          go_roundw
          case rel => exact ⟨b + 1, congrArg (Value.int .i64) (by omega), ⟨_, rfl, by assumption⟩, HD, _, rfl⟩
          case measure => simp [intOf]; omega
        · replace hl : fcmp .lss .f64 (doub (halv Y a) b) 4604930618986332160 = false := by simpa using hl
          have hle2 := doub_le (halv_pos HP.out a hle HA.out) HC.out
          have HL := Lib.hid hl
          go_wp2_with (first | (apply wpList_fcmp; rfl; rfl; rfl; rfl; (first | with_reducible assumption | exact Is.const rfl); (first | with_reducible assumption | exact Is.const rfl); (first | with_reducible assumption | exact rfl)) | (apply wpList_same; rfl; rfl; exact U64; exact U64) | (apply wpList_farith; rfl; rfl; rfl; rfl; (first | with_reducible assumption | with_reducible exact intWord_is _ | exact Is.const rfl); (first | with_reducible assumption | with_reducible exact intWord_is _ | exact Is.const rfl); intro r n hr))
          clear hl
          go_loopw [6, 7] (fun p k wr => ∃ (j : Nat) (K : Int), j ≤ 13 ∧ K = 25 - 2 * (j : Int) ∧ k = .int .i64 K ∧ (∃ r, p = .float .f64 r ∧ Is .f64 r (serQ (fop .mul .f64 (fop .quo .f64 (fop .sub .f64 (doub (halv Y a) b) 4607182418800017408) (fop .add .f64 (doub (halv Y a) b) 4607182418800017408)) (fop .quo .f64 (fop .sub .f64 (doub (halv Y a) b) 4607182418800017408) (fop .add .f64 (doub (halv Y a) b) 4607182418800017408))) j)) ∧ ∃ n, wr = w.drewN n) (fun _ k _ => (1 + intOf k).toNat)
          case atStart => exact ⟨0, 25, by omega, by omega, rfl, ⟨_, rfl, Is.const rfl⟩, _, rfl⟩
          case round =>
            obtain ⟨j, K, hj, hK, rfl, ⟨r3, rfl, hr3⟩, n3, rfl⟩ := hrel
            have hcase : j = 0 ∨ j = 1 ∨ j = 2 ∨ j = 3 ∨ j = 4 ∨ j = 5 ∨ j = 6 ∨ j = 7 ∨ j = 8 ∨ j = 9 ∨ j = 10 ∨ j = 11 ∨ j = 12 ∨ j = 13 := by omega
            rcases hcase with rfl | rfl | rfl | rfl | rfl | rfl | rfl | rfl | rfl | rfl | rfl | rfl | rfl | rfl
            · obtain rfl : K = 25 := by omega
              clear hK hj
              go_wp2_with (first | (apply wpList_fcmp; rfl; rfl; rfl; rfl; (first | with_reducible assumption | exact Is.const rfl); (first | with_reducible assumption | exact Is.const rfl); (first | with_reducible assumption | exact rfl)) | (apply wpList_same; rfl; rfl; exact U64; exact U64) | (apply wpList_farith; rfl; rfl; rfl; rfl; (first | with_reducible assumption | with_reducible exact intWord_is _ | exact Is.const rfl); (first | with_reducible assumption | with_reducible exact intWord_is _ | exact Is.const rfl); intro r n hr))
              go_roundw
              case rel => exact ⟨1, 23, by omega, by omega, rfl, ⟨_, rfl, by assumption⟩, _, rfl⟩
              case measure => simp [intOf]
            · obtain rfl : K = 23 := by omega
              clear hK hj
              go_wp2_with (first | (apply wpList_fcmp; rfl; rfl; rfl; rfl; (first | with_reducible assumption | exact Is.const rfl); (first | with_reducible assumption | exact Is.const rfl); (first | with_reducible assumption | exact rfl)) | (apply wpList_same; rfl; rfl; exact U64; exact U64) | (apply wpList_farith; rfl; rfl; rfl; rfl; (first | with_reducible assumption | with_reducible exact intWord_is _ | exact Is.const rfl); (first | with_reducible assumption | with_reducible exact intWord_is _ | exact Is.const rfl); intro r n hr))
              go_roundw
              case rel => exact ⟨2, 21, by omega, by omega, rfl, ⟨_, rfl, by assumption⟩, _, rfl⟩
              case measure => simp [intOf]
            · obtain rfl : K = 21 := by omega
              clear hK hj
              go_wp2_with (first | (apply wpList_fcmp; rfl; rfl; rfl; rfl; (first | with_reducible assumption | exact Is.const rfl); (first | with_reducible assumption | exact Is.const rfl); (first | with_reducible assumption | exact rfl)) | (apply wpList_same; rfl; rfl; exact U64; exact U64) | (apply wpList_farith; rfl; rfl; rfl; rfl; (first | with_reducible assumption | with_reducible exact intWord_is _ | exact Is.const rfl); (first | with_reducible assumption | with_reducible exact intWord_is _ | exact Is.const rfl); intro r n hr))
              go_roundw
              case rel => exact ⟨3, 19, by omega, by omega, rfl, ⟨_, rfl, by assumption⟩, _, rfl⟩
              case measure => simp [intOf]
            · obtain rfl : K = 19 := by omega
              clear hK hj
              go_wp2_with (first | (apply wpList_fcmp; rfl; rfl; rfl; rfl; (first | with_reducible assumption | exact Is.const rfl); (first | with_reducible assumption | exact Is.const rfl); (first | with_reducible assumption | exact rfl)) | (apply wpList_same; rfl; rfl; exact U64; exact U64) | (apply wpList_farith; rfl; rfl; rfl; rfl; (first | with_reducible assumption | with_reducible exact intWord_is _ | exact Is.const rfl); (first | with_reducible assumption | with_reducible exact intWord_is _ | exact Is.const rfl); intro r n hr))
              go_roundw
              case rel => exact ⟨4, 17, by omega, by omega, rfl, ⟨_, rfl, by assumption⟩, _, rfl⟩
              case measure => simp [intOf]
            · obtain rfl : K = 17 := by omega
              clear hK hj
              go_wp2_with (first | (apply wpList_fcmp; rfl; rfl; rfl; rfl; (first | with_reducible assumption | exact Is.const rfl); (first | with_reducible assumption | exact Is.const rfl); (first | with_reducible assumption | exact rfl)) | (apply wpList_same; rfl; rfl; exact U64; exact U64) | (apply wpList_farith; rfl; rfl; rfl; rfl; (first | with_reducible assumption | with_reducible exact intWord_is _ | exact Is.const rfl); (first | with_reducible assumption | with_reducible exact intWord_is _ | exact Is.const rfl); intro r n hr))
              go_roundw
              case rel => exact ⟨5, 15, by omega, by omega, rfl, ⟨_, rfl, by assumption⟩, _, rfl⟩
              case measure => simp [intOf]
            · obtain rfl : K = 15 := by omega
              clear hK hj
              go_wp2_with (first | (apply wpList_fcmp; rfl; rfl; rfl; rfl; (first | with_reducible assumption | exact Is.const rfl); (first | with_reducible assumption | exact Is.const rfl); (first | with_reducible assumption | exact rfl)) | (apply wpList_same; rfl; rfl; exact U64; exact U64) | (apply wpList_farith; rfl; rfl; rfl; rfl; (first | with_reducible assumption | with_reducible exact intWord_is _ | exact Is.const rfl); (first | with_reducible assumption | with_reducible exact intWord_is _ | exact Is.const rfl); intro r n hr))
              go_roundw
              case rel => exact ⟨6, 13, by omega, by omega, rfl, ⟨_, rfl, by assumption⟩, _, rfl⟩
              case measure => simp [intOf]
            · obtain rfl : K = 13 := by omega
              clear hK hj
              go_wp2_with (first | (apply wpList_fcmp; rfl; rfl; rfl; rfl; (first | with_reducible assumption | exact Is.const rfl); (first | with_reducible assumption | exact Is.const rfl); (first | with_reducible assumption | exact rfl)) | (apply wpList_same; rfl; rfl; exact U64; exact U64) | (apply wpList_farith; rfl; rfl; rfl; rfl; (first | with_reducible assumption | with_reducible exact intWord_is _ | exact Is.const rfl); (first | with_reducible assumption | with_reducible exact intWord_is _ | exact Is.const rfl); intro r n hr))
              go_roundw
              case rel => exact ⟨7, 11, by omega, by omega, rfl, ⟨_, rfl, by assumption⟩, _, rfl⟩
              case measure => simp [intOf]
            · obtain rfl : K = 11 := by omega
              clear hK hj
              go_wp2_with (first | (apply wpList_fcmp; rfl; rfl; rfl; rfl; (first | with_reducible assumption | exact Is.const rfl); (first | with_reducible assumption | exact Is.const rfl); (first | with_reducible assumption | exact rfl)) | (apply wpList_same; rfl; rfl; exact U64; exact U64) | (apply wpList_farith; rfl; rfl; rfl; rfl; (first | with_reducible assumption | with_reducible exact intWord_is _ | exact Is.const rfl); (first | with_reducible assumption | with_reducible exact intWord_is _ | exact Is.const rfl); intro r n hr))
              go_roundw
              case rel => exact ⟨8, 9, by omega, by omega, rfl, ⟨_, rfl, by assumption⟩, _, rfl⟩
              case measure => simp [intOf]
            · obtain rfl : K = 9 := by omega
              clear hK hj
              go_wp2_with (first | (apply wpList_fcmp; rfl; rfl; rfl; rfl; (first | with_reducible assumption | exact Is.const rfl); (first | with_reducible assumption | exact Is.const rfl); (first | with_reducible assumption | exact rfl)) | (apply wpList_same; rfl; rfl; exact U64; exact U64) | (apply wpList_farith; rfl; rfl; rfl; rfl; (first | with_reducible assumption | with_reducible exact intWord_is _ | exact Is.const rfl); (first | with_reducible assumption | with_reducible exact intWord_is _ | exact Is.const rfl); intro r n hr))
              go_roundw
              case rel => exact ⟨9, 7, by omega, by omega, rfl, ⟨_, rfl, by assumption⟩, _, rfl⟩
              case measure => simp [intOf]
            · obtain rfl : K = 7 := by omega
              clear hK hj
              go_wp2_with (first | (apply wpList_fcmp; rfl; rfl; rfl; rfl; (first | with_reducible assumption | exact Is.const rfl); (first | with_reducible assumption | exact Is.const rfl); (first | with_reducible assumption | exact rfl)) | (apply wpList_same; rfl; rfl; exact U64; exact U64) | (apply wpList_farith; rfl; rfl; rfl; rfl; (first | with_reducible assumption | with_reducible exact intWord_is _ | exact Is.const rfl); (first | with_reducible assumption | with_reducible exact intWord_is _ | exact Is.const rfl); intro r n hr))
              go_roundw
              case rel => exact ⟨10, 5, by omega, by omega, rfl, ⟨_, rfl, by assumption⟩, _, rfl⟩
              case measure => simp [intOf]
            · obtain rfl : K = 5 := by omega
              clear hK hj
              go_wp2_with (first | (apply wpList_fcmp; rfl; rfl; rfl; rfl; (first | with_reducible assumption | exact Is.const rfl); (first | with_reducible assumption | exact Is.const rfl); (first | with_reducible assumption | exact rfl)) | (apply wpList_same; rfl; rfl; exact U64; exact U64) | (apply wpList_farith; rfl; rfl; rfl; rfl; (first | with_reducible assumption | with_reducible exact intWord_is _ | exact Is.const rfl); (first | with_reducible assumption | with_reducible exact intWord_is _ | exact Is.const rfl); intro r n hr))
              go_roundw
              case rel => exact ⟨11, 3, by omega, by omega, rfl, ⟨_, rfl, by assumption⟩, _, rfl⟩
              case measure => simp [intOf]
            · obtain rfl : K = 3 := by omega
              clear hK hj
              go_wp2_with (first | (apply wpList_fcmp; rfl; rfl; rfl; rfl; (first | with_reducible assumption | exact Is.const rfl); (first | with_reducible assumption | exact Is.const rfl); (first | with_reducible assumption | exact rfl)) | (apply wpList_same; rfl; rfl; exact U64; exact U64) | (apply wpList_farith; rfl; rfl; rfl; rfl; (first | with_reducible assumption | with_reducible exact intWord_is _ | exact Is.const rfl); (first | with_reducible assumption | with_reducible exact intWord_is _ | exact Is.const rfl); intro r n hr))
              go_roundw
              case rel => exact ⟨12, 1, by omega, by omega, rfl, ⟨_, rfl, by assumption⟩, _, rfl⟩
              case measure => simp [intOf]
            · obtain rfl : K = 1 := by omega
              clear hK hj
              go_wp2_with (first | (apply wpList_fcmp; rfl; rfl; rfl; rfl; (first | with_reducible assumption | exact Is.const rfl); (first | with_reducible assumption | exact Is.const rfl); (first | with_reducible assumption | exact rfl)) | (apply wpList_same; rfl; rfl; exact U64; exact U64) | (apply wpList_farith; rfl; rfl; rfl; rfl; (first | with_reducible assumption | with_reducible exact intWord_is _ | exact Is.const rfl); (first | with_reducible assumption | with_reducible exact intWord_is _ | exact Is.const rfl); intro r n hr))
              go_roundw
              case rel => exact ⟨13, -1, by omega, by omega, rfl, ⟨_, rfl, by assumption⟩, _, rfl⟩
              case measure => simp [intOf]
            · obtain rfl : K = -1 := by omega
              clear hK hj
              go_wp2_with (first | (apply wpList_fcmp; rfl; rfl; rfl; rfl; (first | with_reducible assumption | exact Is.const rfl); (first | with_reducible assumption | exact Is.const rfl); (first | with_reducible assumption | exact rfl)) | (apply wpList_same; rfl; rfl; exact U64; exact U64) | (apply wpList_farith; rfl; rfl; rfl; rfl; (first | with_reducible assumption | with_reducible exact intWord_is _ | exact Is.const rfl); (first | with_reducible assumption | with_reducible exact intWord_is _ | exact Is.const rfl); intro r n hr))
              go_ret
              exact ⟨⟨a, b, _, ⟨HA.out, HG.out, HC.out, HL.out⟩, rfl, by assumption⟩, _, rfl⟩

theorem isInf1_any (x X : Nat) (ix : Is .f64 x X) (w : World) : Calls Try.prog 42 #[.float .f64 x, .int .i64 1] w fun e w' => e = .returned (.bool (fcmp .gtr .f64 X 9218868437227405311)) ∧ w = w' := by
  go_enter Try.func42, Try.ntmps42
  go_wp2_with (apply wpList_fcmp; rfl; rfl; rfl; rfl; (first | with_reducible assumption | exact Is.const rfl); (first | with_reducible assumption | exact Is.const rfl); (first | with_reducible assumption | exact rfl))
  go_ret
  exact ⟨rfl, rfl⟩

set_option maxHeartbeats 2000000 in
theorem sLog_any (x Y : Nat) (ix : Is .f64 x Y) (HP : Hid (Pos Y 1202)) (h1 : fcmp .neq .f64 Y Y = false) (h2 : fcmp .lss .f64 Y 0 = false) (h3 : fcmp .eql .f64 Y 0 = false) (h4 : fcmp .gtr .f64 Y 9218868437227405311 = false) (w : World) :
    Calls Try.prog 49 #[.float .f64 x] w fun e w' => (∃ j1 j2 r, Stop Y j1 j2 ∧ e = .returned (.float .f64 r) ∧ Is .f64 r (logW (doub (halv Y j1) j2) ((j1 : Int) - (j2 : Int)))) ∧ ∃ n, w' = w.drewN n := by
  go_enter Try.func49, Try.ntmps49
  go_wp2_with (first | (apply wpList_fcmp; rfl; rfl; rfl; rfl; (first | with_reducible assumption | exact Is.const rfl); (first | with_reducible assumption | exact Is.const rfl); (first | with_reducible assumption | exact rfl)) | (go_at_call 42; refine (isInf1_any _ _ ix _).mono ?_; rintro e w' ⟨rfl, rfl⟩; (try rw [h4])))
  go_loopw [0, 3] (fun p k wr => ∃ (j : Nat), k = .int .i64 (j : Int) ∧ (∃ r, p = .float .f64 r ∧ Is .f64 r (halv Y j)) ∧ Hid (∀ i, i < j → fcmp .geq .f64 (halv Y i) 4609434218613702656 = true) ∧ ∃ n, wr = w.drewN n) (fun _ k _ => (128 - intOf k).toNat)
  case atStart => exact ⟨0, rfl, ⟨_, rfl, by assumption⟩, Lib.hid (fun i hi => absurd hi (Nat.not_lt_zero i)), 0, rfl⟩
  case round =>
    obtain ⟨a, rfl, ⟨r, rfl, hr⟩, HA, n, rfl⟩ := hrel
    by_cases hg : fcmp .geq .f64 (halv Y a) 4609434218613702656 = true
    · have hall : ∀ i, i < a + 1 → fcmp .geq .f64 (halv Y i) 4609434218613702656 = true := fun i hi => by
        rcases Nat.lt_succ_iff_lt_or_eq.1 hi with l | l
        · exact HA.out i l
        · rw [l]; exact hg
      have hle := halv_le HP.out hall
      have HB := Lib.hid hall
      clear hall
      go_wp2_with (first | (apply wpList_fcmp; rfl; rfl; rfl; rfl; (first | with_reducible assumption | exact Is.const rfl); (first | with_reducible assumption | exact Is.const rfl); (first | with_reducible assumption | exact rfl)) | (apply wpList_same; rfl; rfl; exact U64; exact U64) | (apply wpList_farith; rfl; rfl; rfl; rfl; (first | with_reducible assumption | with_reducible exact intWord_is _ | exact Is.const rfl); (first | with_reducible assumption | with_reducible exact intWord_is _ | exact Is.const rfl); intro r n hr))
      go_roundw
      case rel => exact ⟨a + 1, by go_num, ⟨_, rfl, by assumption⟩, HB, _, rfl⟩
      case measure => simp [intOf]; omega
    · replace hg : fcmp .geq .f64 (halv Y a) 4609434218613702656 = false := by simpa using hg
      have hle := halv_le HP.out HA.out
      have HG := Lib.hid hg
      go_wp2_with (first | (apply wpList_fcmp; rfl; rfl; rfl; rfl; (first | with_reducible assumption | exact Is.const rfl); (first | with_reducible assumption | exact Is.const rfl); (first | with_reducible assumption | exact rfl)) | (apply wpList_same; rfl; rfl; exact U64; exact U64) | (apply wpList_farith; rfl; rfl; rfl; rfl; (first | with_reducible assumption | with_reducible exact intWord_is _ | exact Is.const rfl); (first | with_reducible assumption | with_reducible exact intWord_is _ | exact Is.const rfl); intro r n hr))
      clear hg
      go_simp
      go_loopw [0, 3] (fun p k wr => ∃ (j : Nat), k = .int .i64 ((a : Int) - (j : Int)) ∧ (∃ r, p = .float .f64 r ∧ Is .f64 r (doub (halv Y a) j)) ∧ Hid (∀ i, i < j → fcmp .lss .f64 (doub (halv Y a) i) 4604930618986332160 = true) ∧ ∃ n, wr = w.drewN n) (fun _ k _ => (intOf k + 1074).toNat)
      case atStart => exact ⟨0, by go_num, ⟨_, rfl, by assumption⟩, Lib.hid (fun i hi => absurd hi (Nat.not_lt_zero i)), _, rfl⟩
      case round =>
        obtain ⟨b, rfl, ⟨r2, rfl, hr2⟩, HC, n2, rfl⟩ := hrel
        by_cases hl : fcmp .lss .f64 (doub (halv Y a) b) 4604930618986332160 = true
        · have hall : ∀ i, i < b + 1 → fcmp .lss .f64 (doub (halv Y a) i) 4604930618986332160 = true := fun i hi => by
            rcases Nat.lt_succ_iff_lt_or_eq.1 hi with l | l
            · exact HC.out i l
            · rw [l]; exact hl
          have hle2 := doub_le (halv_pos HP.out a hle HA.out) hall
          have HD := Lib.hid hall
          clear hall
          go_wp2_with (first | (apply wpList_fcmp; rfl; rfl; rfl; rfl; (first | with_reducible assumption | exact Is.const rfl); (first | with_reducible assumption | exact Is.const rfl); (first | with_reducible assumption | exact rfl)) | (apply wpList_same; rfl; rfl; exact U64; exact U64) | (apply wpList_farith; rfl; rfl; rfl; rfl; (first | with_reducible assumption | with_reducible exact intWord_is _ | exact Is.const rfl); (first | with_reducible assumption | with_reducible exact intWord_is _ | exact Is.const rfl); intro r n hr))
          go_roundw
          case rel => exact ⟨b + 1, congrArg (Value.int .i64) (by omega), ⟨_, rfl, by assumption⟩, HD, _, rfl⟩
          case measure => simp [intOf]; omega
        · replace hl : fcmp .lss .f64 (doub (halv Y a) b) 4604930618986332160 = false := by simpa using hl
          have hle2 := doub_le (halv_pos HP.out a hle HA.out) HC.out
          have HL := Lib.hid hl
          go_wp2_with (first | (apply wpList_fcmp; rfl; rfl; rfl; rfl; (first | with_reducible assumption | exact Is.const rfl); (first | with_reducible assumption | exact Is.const rfl); (first | with_reducible assumption | exact rfl)) | (apply wpList_same; rfl; rfl; exact U64; exact U64) | (apply wpList_farith; rfl; rfl; rfl; rfl; (first | with_reducible assumption | with_reducible exact intWord_is _ | exact Is.const rfl); (first | with_reducible assumption | with_reducible exact intWord_is _ | exact Is.const rfl); intro r n hr))
          clear hl
          go_loopw [6, 7] (fun p k wr => ∃ (j : Nat) (K : Int), j ≤ 13 ∧ K = 25 - 2 * (j : Int) ∧ k = .int .i64 K ∧ (∃ r, p = .float .f64 r ∧ Is .f64 r (serQ (fop .mul .f64 (fop .quo .f64 (fop .sub .f64 (doub (halv Y a) b) 4607182418800017408) (fop .add .f64 (doub (halv Y a) b) 4607182418800017408)) (fop .quo .f64 (fop .sub .f64 (doub (halv Y a) b) 4607182418800017408) (fop .add .f64 (doub (halv Y a) b) 4607182418800017408))) j)) ∧ ∃ n, wr = w.drewN n) (fun _ k _ => (1 + intOf k).toNat)
          case atStart => exact ⟨0, 25, by omega, by omega, rfl, ⟨_, rfl, Is.const rfl⟩, _, rfl⟩
          case round =>
            obtain ⟨j, K, hj, hK, rfl, ⟨r3, rfl, hr3⟩, n3, rfl⟩ := hrel
            have hcase : j = 0 ∨ j = 1 ∨ j = 2 ∨ j = 3 ∨ j = 4 ∨ j = 5 ∨ j = 6 ∨ j = 7 ∨ j = 8 ∨ j = 9 ∨ j = 10 ∨ j = 11 ∨ j = 12 ∨ j = 13 := by omega
            rcases hcase with rfl | rfl | rfl | rfl | rfl | rfl | rfl | rfl | rfl | rfl | rfl | rfl | rfl | rfl
            · obtain rfl : K = 25 := by omega
              clear hK hj
              go_wp2_with (first | (apply wpList_fcmp; rfl; rfl; rfl; rfl; (first | with_reducible assumption | exact Is.const rfl); (first | with_reducible assumption | exact Is.const rfl); (first | with_reducible assumption | exact rfl)) | (apply wpList_same; rfl; rfl; exact U64; exact U64) | (apply wpList_farith; rfl; rfl; rfl; rfl; (first | with_reducible assumption | with_reducible exact intWord_is _ | exact Is.const rfl); (first | with_reducible assumption | with_reducible exact intWord_is _ | exact Is.const rfl); intro r n hr))
              go_roundw
              case rel => exact ⟨1, 23, by omega, by omega, rfl, ⟨_, rfl, by assumption⟩, _, rfl⟩
              case measure => simp [intOf]
            · obtain rfl : K = 23 := by omega
              clear hK hj
              go_wp2_with (first | (apply wpList_fcmp; rfl; rfl; rfl; rfl; (first | with_reducible assumption | exact Is.const rfl); (first | with_reducible assumption | exact Is.const rfl); (first | with_reducible assumption | exact rfl)) | (apply wpList_same; rfl; rfl; exact U64; exact U64) | (apply wpList_farith; rfl; rfl; rfl; rfl; (first | with_reducible assumption | with_reducible exact intWord_is _ | exact Is.const rfl); (first | with_reducible assumption | with_reducible exact intWord_is _ | exact Is.const rfl); intro r n hr))
              go_roundw
              case rel => exact ⟨2, 21, by omega, by omega, rfl, ⟨_, rfl, by assumption⟩, _, rfl⟩
              case measure => simp [intOf]
            · obtain rfl : K = 21 := by omega
              clear hK hj
              go_wp2_with (first | (apply wpList_fcmp; rfl; rfl; rfl; rfl; (first | with_reducible assumption | exact Is.const rfl); (first | with_reducible assumption | exact Is.const rfl); (first | with_reducible assumption | exact rfl)) | (apply wpList_same; rfl; rfl; exact U64; exact U64) | (apply wpList_farith; rfl; rfl; rfl; rfl; (first | with_reducible assumption | with_reducible exact intWord_is _ | exact Is.const rfl); (first | with_reducible assumption | with_reducible exact intWord_is _ | exact Is.const rfl); intro r n hr))
              go_roundw
              case rel => exact ⟨3, 19, by omega, by omega, rfl, ⟨_, rfl, by assumption⟩, _, rfl⟩
              case measure => simp [intOf]
            · obtain rfl : K = 19 := by omega
              clear hK hj
              go_wp2_with (first | (apply wpList_fcmp; rfl; rfl; rfl; rfl; (first | with_reducible assumption | exact Is.const rfl); (first | with_reducible assumption | exact Is.const rfl); (first | with_reducible assumption | exact rfl)) | (apply wpList_same; rfl; rfl; exact U64; exact U64) | (apply wpList_farith; rfl; rfl; rfl; rfl; (first | with_reducible assumption | with_reducible exact intWord_is _ | exact Is.const rfl); (first | with_reducible assumption | with_reducible exact intWord_is _ | exact Is.const rfl); intro r n hr))
              go_roundw
              case rel => exact ⟨4, 17, by omega, by omega, rfl, ⟨_, rfl, by assumption⟩, _, rfl⟩
              case measure => simp [intOf]
            · obtain rfl : K = 17 := by omega
              clear hK hj
              go_wp2_with (first | (apply wpList_fcmp; rfl; rfl; rfl; rfl; (first | with_reducible assumption | exact Is.const rfl); (first | with_reducible assumption | exact Is.const rfl); (first | with_reducible assumption | exact rfl)) | (apply wpList_same; rfl; rfl; exact U64; exact U64) | (apply wpList_farith; rfl; rfl; rfl; rfl; (first | with_reducible assumption | with_reducible exact intWord_is _ | exact Is.const rfl); (first | with_reducible assumption | with_reducible exact intWord_is _ | exact Is.const rfl); intro r n hr))
              go_roundw
              case rel => exact ⟨5, 15, by omega, by omega, rfl, ⟨_, rfl, by assumption⟩, _, rfl⟩
              case measure => simp [intOf]
            · obtain rfl : K = 15 := by omega
              clear hK hj
              go_wp2_with (first | (apply wpList_fcmp; rfl; rfl; rfl; rfl; (first | with_reducible assumption | exact Is.const rfl); (first | with_reducible assumption | exact Is.const rfl); (first | with_reducible assumption | exact rfl)) | (apply wpList_same; rfl; rfl; exact U64; exact U64) | (apply wpList_farith; rfl; rfl; rfl; rfl; (first | with_reducible assumption | with_reducible exact intWord_is _ | exact Is.const rfl); (first | with_reducible assumption | with_reducible exact intWord_is _ | exact Is.const rfl); intro r n hr))
              go_roundw
              case rel => exact ⟨6, 13, by omega, by omega, rfl, ⟨_, rfl, by assumption⟩, _, rfl⟩
              case measure => simp [intOf]
            · obtain rfl : K = 13 := by omega
              clear hK hj
              go_wp2_with (first | (apply wpList_fcmp; rfl; rfl; rfl; rfl; (first | with_reducible assumption | exact Is.const rfl); (first | with_reducible assumption | exact Is.const rfl); (first | with_reducible assumption | exact rfl)) | (apply wpList_same; rfl; rfl; exact U64; exact U64) | (apply wpList_farith; rfl; rfl; rfl; rfl; (first | with_reducible assumption | with_reducible exact intWord_is _ | exact Is.const rfl); (first | with_reducible assumption | with_reducible exact intWord_is _ | exact Is.const rfl); intro r n hr))
              go_roundw
              case rel => exact ⟨7, 11, by omega, by omega, rfl, ⟨_, rfl, by assumption⟩, _, rfl⟩
              case measure => simp [intOf]
            · obtain rfl : K = 11 := by omega
              clear hK hj
              go_wp2_with (first | (apply wpList_fcmp; rfl; rfl; rfl; rfl; (first | with_reducible assumption | exact Is.const rfl); (first | with_reducible assumption | exact Is.const rfl); (first | with_reducible assumption | exact rfl)) | (apply wpList_same; rfl; rfl; exact U64; exact U64) | (apply wpList_farith; rfl; rfl; rfl; rfl; (first | with_reducible assumption | with_reducible exact intWord_is _ | exact Is.const rfl); (first | with_reducible assumption | with_reducible exact intWord_is _ | exact Is.const rfl); intro r n hr))
              go_roundw
              case rel => exact ⟨8, 9, by omega, by omega, rfl, ⟨_, rfl, by assumption⟩, _, rfl⟩
              case measure => simp [intOf]
            · obtain rfl : K = 9 := by omega
              clear hK hj
              go_wp2_with (first | (apply wpList_fcmp; rfl; rfl; rfl; rfl; (first | with_reducible assumption | exact Is.const rfl); (first | with_reducible assumption | exact Is.const rfl); (first | with_reducible assumption | exact rfl)) | (apply wpList_same; rfl; rfl; exact U64; exact U64) | (apply wpList_farith; rfl; rfl; rfl; rfl; (first | with_reducible assumption | with_reducible exact intWord_is _ | exact Is.const rfl); (first | with_reducible assumption | with_reducible exact intWord_is _ | exact Is.const rfl); intro r n hr))
              go_roundw
              case rel => exact ⟨9, 7, by omega, by omega, rfl, ⟨_, rfl, by assumption⟩, _, rfl⟩
              case measure => simp [intOf]
            · obtain rfl : K = 7 := by omega
              clear hK hj
              go_wp2_with (first | (apply wpList_fcmp; rfl; rfl; rfl; rfl; (first | with_reducible assumption | exact Is.const rfl); (first | with_reducible assumption | exact Is.const rfl); (first | with_reducible assumption | exact rfl)) | (apply wpList_same; rfl; rfl; exact U64; exact U64) | (apply wpList_farith; rfl; rfl; rfl; rfl; (first | with_reducible assumption | with_reducible exact intWord_is _ | exact Is.const rfl); (first | with_reducible assumption | with_reducible exact intWord_is _ | exact Is.const rfl); intro r n hr))
              go_roundw
              case rel => exact ⟨10, 5, by omega, by omega, rfl, ⟨_, rfl, by assumption⟩, _, rfl⟩
              case measure => simp [intOf]
            · obtain rfl : K = 5 := by omega
              clear hK hj
              go_wp2_with (first | (apply wpList_fcmp; rfl; rfl; rfl; rfl; (first | with_reducible assumption | exact Is.const rfl); (first | with_reducible assumption | exact Is.const rfl); (first | with_reducible assumption | exact rfl)) | (apply wpList_same; rfl; rfl; exact U64; exact U64) | (apply wpList_farith; rfl; rfl; rfl; rfl; (first | with_reducible assumption | with_reducible exact intWord_is _ | exact Is.const rfl); (first | with_reducible assumption | with_reducible exact intWord_is _ | exact Is.const rfl); intro r n hr))
              go_roundw
              case rel => exact ⟨11, 3, by omega, by omega, rfl, ⟨_, rfl, by assumption⟩, _, rfl⟩
              case measure => simp [intOf]
            · obtain rfl : K = 3 := by omega
              clear hK hj
              go_wp2_with (first | (apply wpList_fcmp; rfl; rfl; rfl; rfl; (first | with_reducible assumption | exact Is.const rfl); (first | with_reducible assumption | exact Is.const rfl); (first | with_reducible assumption | exact rfl)) | (apply wpList_same; rfl; rfl; exact U64; exact U64) | (apply wpList_farith; rfl; rfl; rfl; rfl; (first | with_reducible assumption | with_reducible exact intWord_is _ | exact Is.const rfl); (first | with_reducible assumption | with_reducible exact intWord_is _ | exact Is.const rfl); intro r n hr))
              go_roundw
              case rel => exact ⟨12, 1, by omega, by omega, rfl, ⟨_, rfl, by assumption⟩, _, rfl⟩
              case measure => simp [intOf]
            · obtain rfl : K = 1 := by omega
              clear hK hj
              go_wp2_with (first | (apply wpList_fcmp; rfl; rfl; rfl; rfl; (first | with_reducible assumption | exact Is.const rfl); (first | with_reducible assumption | exact Is.const rfl); (first | with_reducible assumption | exact rfl)) | (apply wpList_same; rfl; rfl; exact U64; exact U64) | (apply wpList_farith; rfl; rfl; rfl; rfl; (first | with_reducible assumption | with_reducible exact intWord_is _ | exact Is.const rfl); (first | with_reducible assumption | with_reducible exact intWord_is _ | exact Is.const rfl); intro r n hr))
              go_roundw
              case rel => exact ⟨13, -1, by omega, by omega, rfl, ⟨_, rfl, by assumption⟩, _, rfl⟩
              case measure => simp [intOf]
            · obtain rfl : K = -1 := by omega
              clear hK hj
              go_wp2_with (first | (apply wpList_fcmp; rfl; rfl; rfl; rfl; (first | with_reducible assumption | exact Is.const rfl); (first | with_reducible assumption | exact Is.const rfl); (first | with_reducible assumption | exact rfl)) | (apply wpList_same; rfl; rfl; exact U64; exact U64) | (apply wpList_farith; rfl; rfl; rfl; rfl; (first | with_reducible assumption | with_reducible exact intWord_is _ | exact Is.const rfl); (first | with_reducible assumption | with_reducible exact intWord_is _ | exact Is.const rfl); intro r n hr))
              go_ret
              exact ⟨⟨a, b, _, ⟨HA.out, HG.out, HC.out, HL.out⟩, rfl, by assumption⟩, _, rfl⟩

end Go.Proofs.Ytnipdbphfnppeac
