/-
  TenthsOf: bounds of the logarithm; contracts.
-/
import Derived.Test.YtnipdbphfnppeacLogC
import Derived.Test.YtnipdbphfnppeacFloor
namespace Go.Fl
open Ieee

theorem sum_comm (s t : Bool) (m n : Nat) (i j : Int) : Datum.sum (.number s m i) (.number t n j) = Datum.sum (.number t n j) (.number s m i) := by
  unfold Datum.sum
  dsimp only
  rw [Int.min_comm i j, Int.add_comm (signed s m _), Bool.and_comm s t]

theorem add_comm' {x y E : Nat} (hx : Bd x E) (hy : Bd y E) : fop .add .f64 x y = fop .add .f64 y x := by
  unfold fop floatBits Format.add
  dsimp only
  rw [read_fin hx.1, read_fin hy.1, sum_comm]

/-- The difference of two numbers without a sign is bounded as they are. -/
theorem sub_nn {x y E : Nat} (hx : Bd x E) (hy : Bd y E) (nx : Nn x) (ny : Nn y) (hE : E < 2098) : Bd (fop .sub .f64 x y) E := by
  obtain ⟨s, m, u, e1, h1, hs, _⟩ := read_bd hx
  obtain ⟨t, n, v, e2, h2, ht, _⟩ := read_bd hy
  unfold Nn at nx ny
  rw [nx] at hs
  rw [ny] at ht
  subst hs ht
  unfold fop floatBits Format.sub
  rw [e1, e2]
  unfold Datum.opposite Datum.sum
  dsimp only
  rw [Option.map_some]
  dsimp only
  unfold Format.write
  dsimp only
  have f1 : ((-1074 : Int) + (u : Int) - min (-1074 + (u : Int)) (-1074 + (v : Int))).toNat = u - min u v := by omega
  have f2 : ((-1074 : Int) + (v : Int) - min (-1074 + (u : Int)) (-1074 + (v : Int))).toNat = v - min u v := by omega
  rw [f1, f2]
  refine near_bd _ hE ?_
  have e3 : (min (-1074 + (u : Int)) (-1074 + (v : Int)) + 1074).toNat = min u v := by omega
  have e4 : (-1074 - min (-1074 + (u : Int)) (-1074 + (v : Int))).toNat = 0 := by omega
  rw [e3, e4, Nat.pow_zero, Nat.mul_one]
  have g1 : signed false m (u - min u v) = ((m * 2 ^ (u - min u v) : Nat) : Int) := by unfold signed; simp [Nat.shiftLeft_eq]
  have g2 : signed (!false) n (v - min u v) = -((n * 2 ^ (v - min u v) : Nat) : Int) := by unfold signed; simp [Nat.shiftLeft_eq]
  rw [g1, g2]
  have k1 : m * 2 ^ (u - min u v) * 2 ^ min u v ≤ p2 E := by
    rw [Nat.mul_assoc, ← Nat.pow_add, show u - min u v + min u v = u by omega]; exact h1
  have k2 : n * 2 ^ (v - min u v) * 2 ^ min u v ≤ p2 E := by
    rw [Nat.mul_assoc, ← Nat.pow_add, show v - min u v + min u v = v by omega]; exact h2
  generalize m * 2 ^ (u - min u v) = A at *
  generalize n * 2 ^ (v - min u v) = B at *
  have k3 : ((A : Int) + -(B : Int)).natAbs ≤ max A B := by omega
  refine Nat.le_trans (Nat.mul_le_mul_right _ k3) ?_
  rcases Nat.le_total A B with h | h
  · rw [Nat.max_eq_right h]; exact k2
  · rw [Nat.max_eq_left h]; exact k1

theorem zero_bd : Bd 0 1074 := bd_of (by decide) (by decide +kernel)

theorem doub_pos {Z : Nat} (hp : Pos Z 1075) : ∀ j, (∀ i, i < j → fcmp .lss .f64 (doub Z i) 4604930618986332160 = true) → Pos (doub Z j) 1075
  | 0, _ => hp
  | j + 1, h => ((doub_pos hp j (fun i hi => h i (by omega))).twice (h j (by omega))).1

theorem stop_bd {Y a b : Nat} (hp : Pos Y 1202) (h : Stop Y a b) : Pos (doub (halv Y a) b) 1075 ∧ a ≤ 128 ∧ b ≤ 1074 := by
  have ha := halv_le hp h.a
  have h1 := halv_pos hp a ha h.a
  have h2 := h1.ge15
  rw [show C15 = 4609434218613702656 from rfl, h.b] at h2
  have h3 := of_decide_eq_false h2.symm
  have h4 : p2 1074 = 2 * p2 1073 := p2_two 1073
  have h5 : p2 1075 = 2 * p2 1074 := p2_two 1074
  have h6 : Pos (halv Y a) 1075 := ⟨⟨h1.bd.1, by omega⟩, h1.nn, h1.pos⟩
  exact ⟨doub_pos h6 b h.c, ha, doub_le h6 h.c⟩

theorem logS_bd {x : Nat} (h : Pos x 1075) : Bd (logS x) 1075 := by
  have hone : Bd 4607182418800017408 1075 := one_bd.mono (by decide)
  have hn : Nn 4607182418800017408 := one_nn
  have h1 := sub_nn h.bd hone h.nn hn (by decide)
  have h2 := h.bd.add hone (by decide)
  have h3 := (add_ge hone h.bd hn h.nn (by decide)).2
  rw [add_comm' hone h.bd] at h3
  have hV : V FloatKind.f64.format (rung FloatKind.f64.format 4607182418800017408) = p2 1074 := one_V
  rw [hV] at h3
  have h4 := p2_pos 1074
  exact Bd.div (K := 1) h1.1 h2.1 (by omega) (by
    refine Nat.le_trans h1.2 ?_
    rw [show 1075 = 1074 + 1 from rfl, p2_add]
    exact Nat.mul_le_mul_right _ h3) (by decide)

theorem serQ_bd {u : Nat} (hu : Bd u 1076) : ∀ j, j ≤ 13 → Bd (serQ u j) (1074 + 3 * j)
  | 0, _ => zero_bd
  | j + 1, hj => by
    have ih := serQ_bd hu j (by omega)
    have h1 : Bd (fop .quo .f64 4607182418800017408 (floatOfInt .f64 (25 - 2 * (j : Int)))) 1074 := Bd.div_int one_bd (by omega) (by omega) (by decide) (by decide)
    have h2 : Bd (fop .mul .f64 u (serQ u j)) (1076 + 3 * j) := hu.mul ih (by omega) (by omega)
    have h3 := (h1.mono (show 1074 ≤ 1076 + 3 * j by omega)).add h2 (by omega)
    rw [show 1076 + 3 * j + 1 = 1074 + 3 * (j + 1) by omega] at h3
    exact h3

theorem int_bd {n : Int} (h : n.natAbs ≤ 4095) : Bd (floatOfInt .f64 n) 1086 := by
  have hl : n.natAbs.log2 ≤ 52 := by
    rcases Nat.eq_zero_or_pos n.natAbs with h0 | h0
    · rw [h0]; decide
    · have := (Nat.log2_lt (k := 53) (by omega : n.natAbs ≠ 0)).2 (by omega); omega
  obtain ⟨h1, h2⟩ := intWord_V n hl
  refine ⟨h1, ?_⟩
  rw [h2, show 1086 = 12 + 1074 from rfl, p2_add]
  exact Nat.mul_le_mul_right _ (Nat.le_trans h (by decide))

def LN2 : Nat := 4604418534313441775
theorem ln2_bd : Bd LN2 1074 := bd_of (by decide) (by decide +kernel)
theorem db_bd : Bd 4631308968768463603 1080 := bd_of (by decide) (by decide +kernel)

theorem logW_bd {x : Nat} {e : Int} (h : Pos x 1075) (he : e.natAbs ≤ 4095) : Bd (logW x e) 1116 := by
  have hs := logS_bd h
  have hq := serQ_bd (hs.mul hs (show 1075 + 1075 ≤ 1076 + 1074 by decide) (by decide)) 13 (by decide)
  have h1 : Bd (fop .mul .f64 (logS x) (serQ (fop .mul .f64 (logS x) (logS x)) 13)) 1114 := hs.mul hq (by decide) (by decide)
  have h2 : Bd (fop .mul .f64 4611686018427387904 (fop .mul .f64 (logS x) (serQ (fop .mul .f64 (logS x) (logS x)) 13))) 1115 := two_bd.mul h1 (by decide) (by decide)
  have h3 : Bd (fop .mul .f64 (floatOfInt .f64 e) 4604418534313441775) 1086 := (int_bd he).mul ln2_bd (by decide) (by decide)
  exact h2.add (h3.mono (by decide)) (by decide)

/-- What TenthsOf rounds down, and what it returns. -/
def tenX (l : Nat) : Nat := fop .add .f64 (fop .mul .f64 l 4631308968768463603) 4602678819172646912
theorem tenX_bd {l : Nat} (h : Bd l 1116) : Bd (tenX l) 1123 := (h.mul db_bd (show 1116 + 1080 ≤ 1122 + 1074 by decide) (by decide)).add (half_bd.mono (by decide)) (by decide)
theorem ten_int {l : Nat} (h : Bd l 1116) : floatToIntVal .f64 (floorW (tenX l)) .i64 = some (tint (floorW (tenX l))) := by
  have hb := floorW_bd (tenX_bd h) (by decide) (by decide)
  exact short.toInt ⟨hb.1, Nat.lt_of_le_of_lt hb.2 (p2_lt (by decide))⟩

end Go.Fl
namespace Go.Fl
open Ieee
theorem pos_of {X : Nat} (hx : fin .f32 X = true) (hl : fcmp .leq .f32 X 0 = false) : Pos (wid X) 1202 := by
  have hn := nan_of_fin hx
  rw [fcmp_leq .f32 hn (by decide)] at hl
  have h1 := of_decide_eq_false hl
  have h0 : key FloatKind.f32.format 0 = 0 := by decide
  rw [h0] at h1
  have h2 : neg FloatKind.f32.format X = false := by
    cases h : neg FloatKind.f32.format X
    · rfl
    · unfold key at h1; rw [h] at h1; simp at h1
  have h3 : 0 < rung FloatKind.f32.format X := by
    unfold key at h1; rw [h2] at h1; simp at h1; omega
  have hw := wid_fin (of_decide_eq_true hx)
  refine ⟨Go.Proofs.Ytnipdbphfnppeac.wid_bd hx, ?_, ?_⟩
  · unfold Nn; rw [hw.1, h2]
  · rw [hw.2.2]
    have := V_lt FloatKind.f32.format h3
    rw [V_zero] at this
    exact Nat.mul_pos this (p2_pos _)
theorem Pos.facts {Y E : Nat} (h : Pos Y E) : fcmp .neq .f64 Y Y = false ∧ fcmp .lss .f64 Y 0 = false ∧ fcmp .eql .f64 Y 0 = false ∧ fcmp .gtr .f64 Y 9218868437227405311 = false := by
  have hn := h.bd.nan
  have hr : 0 < rung FloatKind.f64.format Y := by
    refine Nat.pos_of_ne_zero fun h0 => ?_
    have := h.pos
    rw [h0, V_zero] at this
    omega
  have h2 := h.bd.1
  rw [inf64] at h2
  have hk : key FloatKind.f64.format Y = (rung FloatKind.f64.format Y : Int) := by unfold key; rw [show neg FloatKind.f64.format Y = false from h.nn]; rfl
  have h0 : key FloatKind.f64.format 0 = 0 := by decide
  refine ⟨by rw [fcmp_neq_self, hn], ?_, ?_, ?_⟩
  · rw [fcmp_lss .f64 hn (by decide), hk, h0]; exact decide_eq_false (by omega)
  · rw [fcmp_eql .f64 hn (by decide), hk, h0]; exact decide_eq_false (by omega)
  · rw [fcmp_gtr .f64 hn (by decide), hk, show key FloatKind.f64.format 9218868437227405311 = 9218868437227405311 by decide]; exact decide_eq_false (by omega)
end Go.Fl
namespace Go.Proofs.Ytnipdbphfnppeac
open Go.Fl Go.RowKit

def tenV (x : Nat) (e : Int) : Int := tint (floorW (tenX (logW x e)))
def TenOut (Y : Nat) (e : Ending) : Prop := ∃ j1 j2 : Nat, Stop Y j1 j2 ∧ e = .returned (.tuple #[.int .i64 (tenV (doub (halv Y j1) j2) ((j1 : Int) - (j2 : Int))), .bool true])

theorem stop_log {Y a b : Nat} (hp : Pos Y 1202) (h : Stop Y a b) : Bd (logW (doub (halv Y a) b) ((a : Int) - (b : Int))) 1116 := by
  obtain ⟨h1, h2, h3⟩ := stop_bd hp h
  exact logW_bd h1 (by omega)

theorem iTen_yes (x X : Nat) (ix : Is .f32 x X) (hx : fin .f32 X = true) (hl : fcmp .leq .f32 X 0 = false) (HP : Hid (Pos (wid X) 1202)) (w : World) :
    Calls Try.prog 15 #[.float .f32 x] w fun e w' => TenOut (wid X) e ∧ ∃ n, w' = w.drewN n := by
  go_enter Try.func15, Try.ntmps15
  go_wp2_with (first | (apply wpList_fcmp; rfl; rfl; rfl; rfl; (first | with_reducible assumption | exact Is.const rfl); (first | with_reducible assumption | exact Is.const rfl); (first | with_reducible assumption | exact rfl)) | (apply wpList_wid; rfl; rfl; (first | with_reducible assumption | exact Is.const rfl); exact U32; exact U64; intro r n hr) | (go_at_call 29; refine (iFinite2_any _ _ ix _).mono ?_; rintro e w' ⟨rfl, n, rfl⟩; (try rw [hx])) | (go_at_call 35; refine (iLog_any _ _ (by assumption) HP _).mono ?_; rintro e w' ⟨⟨j1, j2, r, HS, rfl, hr⟩, n, rfl⟩; refine Hid.out ?_))
  refine Lib.hid ?_
  have hb := stop_log HP.out HS
  have hi := ten_int hb
  unfold tenX at hi
  have HS2 := Lib.hid HS
  clear hb HS
  go_wp2_with (first | (apply wpList_farith; rfl; rfl; rfl; rfl; (first | with_reducible assumption | exact Is.const rfl); (first | with_reducible assumption | exact Is.const rfl); intro r n hr) | (apply wpList_toInt; rfl; rfl; (first | with_reducible assumption | exact Is.const rfl); exact U64; exact UI; (with_reducible assumption)) | (apply wpList_same; rfl; rfl; exact U64; exact U64) | (go_at_call 36; refine (Floor_any _ _ (by assumption) _).mono ?_; rintro e w' ⟨⟨r, rfl, hr⟩, n, rfl⟩))
  go_ret2
  exact ⟨⟨_, _, HS2.out, rfl⟩, _, rfl⟩

theorem iTen_no (x X : Nat) (ix : Is .f32 x X) (hx : (fin .f32 X && !fcmp .leq .f32 X 0) = false) (w : World) :
    Calls Try.prog 15 #[.float .f32 x] w fun e w' => e = .returned (.tuple #[.int .i64 0, .bool false]) ∧ ∃ n, w' = w.drewN n := by
  by_cases h : fin .f32 X = true
  · have hl : fcmp .leq .f32 X 0 = true := by rw [h] at hx; simpa using hx
    clear hx
    go_enter Try.func15, Try.ntmps15
    go_wp2_with (first | (apply wpList_fcmp; rfl; rfl; rfl; rfl; (first | with_reducible assumption | exact Is.const rfl); (first | with_reducible assumption | exact Is.const rfl); (first | with_reducible assumption | exact rfl)) | (go_at_call 29; refine (iFinite2_any _ _ ix _).mono ?_; rintro e w' ⟨rfl, n, rfl⟩; (try rw [h])))
    go_ret2
    exact ⟨rfl, _, rfl⟩
  · have h' : fin .f32 X = false := by simpa using h
    clear hx h
    go_enter Try.func15, Try.ntmps15
    go_wp2_with (first | (apply wpList_fcmp; rfl; rfl; rfl; rfl; (first | with_reducible assumption | exact Is.const rfl); (first | with_reducible assumption | exact Is.const rfl); (first | with_reducible assumption | exact rfl)) | (go_at_call 29; refine (iFinite2_any _ _ ix _).mono ?_; rintro e w' ⟨rfl, n, rfl⟩; (try rw [h'])))
    go_ret2
    exact ⟨rfl, _, rfl⟩

theorem sFin_any (x X : Nat) (ix : Is .f32 x X) (w : World) : Calls Try.prog 33 #[.float .f32 x] w fun e w' => e = .returned (.bool (fin .f32 X)) ∧ ∃ n, w' = w.drewN n := by
  rw [← sub_self .f32 X]
  go_enter Try.func33, Try.ntmps33
  go_wp2_with (first | (apply wpList_farith; rfl; rfl; rfl; rfl; (first | with_reducible assumption | exact Is.const rfl); (first | with_reducible assumption | exact Is.const rfl); intro r n hr) | (apply wpList_fcmp; rfl; rfl; rfl; rfl; (first | with_reducible assumption | exact Is.const rfl); (first | with_reducible assumption | exact Is.const rfl); (first | with_reducible assumption | exact rfl)))
  go_ret
  exact ⟨rfl, _, rfl⟩

theorem sTenths_any (x X : Nat) (ix : Is .f32 x X) (HP : Hid (Pos (wid X) 1202)) (w : World) :
    Calls Try.prog 34 #[.float .f32 x] w fun e w' => (∃ j1 j2 : Nat, Stop (wid X) j1 j2 ∧ e = .returned (.int .i64 (tenV (doub (halv (wid X) j1) j2) ((j1 : Int) - (j2 : Int))))) ∧ ∃ n, w' = w.drewN n := by
  obtain ⟨f1, f2, f3, f4⟩ := HP.out.facts
  have F1 := Lib.hid f1
  have F2 := Lib.hid f2
  have F3 := Lib.hid f3
  have F4 := Lib.hid f4
  clear f1 f2 f3 f4
  go_enter Try.func34, Try.ntmps34
  go_wp2_with (first | (apply wpList_wid; rfl; rfl; (first | with_reducible assumption | exact Is.const rfl); exact U32; exact U64; intro r n hr) | (go_at_call 49; refine (sLog_any _ _ (by assumption) HP F1.out F2.out F3.out F4.out _).mono ?_; rintro e w' ⟨⟨j1, j2, r, HS, rfl, hr⟩, n, rfl⟩; refine Hid.out ?_))
  refine Lib.hid ?_
  have hb := stop_log HP.out HS
  have hi := ten_int hb
  unfold tenX at hi
  have HS2 := Lib.hid HS
  clear hb HS
  go_wp2_with (first | (apply wpList_farith; rfl; rfl; rfl; rfl; (first | with_reducible assumption | exact Is.const rfl); (first | with_reducible assumption | exact Is.const rfl); intro r n hr) | (apply wpList_toInt; rfl; rfl; (first | with_reducible assumption | exact Is.const rfl); exact U64; exact UI; (with_reducible assumption)) | (apply wpList_same; rfl; rfl; exact U64; exact U64) | (go_at_call 36; refine (Floor_any _ _ (by assumption) _).mono ?_; rintro e w' ⟨⟨r, rfl, hr⟩, n, rfl⟩))
  go_ret
  exact ⟨⟨_, _, HS2.out, rfl⟩, _, rfl⟩

theorem sTen_yes (x X : Nat) (ix : Is .f32 x X) (hx : fin .f32 X = true) (hl : fcmp .leq .f32 X 0 = false) (HP : Hid (Pos (wid X) 1202)) (w : World) :
    Calls Try.prog 14 #[.float .f32 x] w fun e w' => TenOut (wid X) e ∧ ∃ n, w' = w.drewN n := by
  go_enter Try.func14, Try.ntmps14
  go_wp2_with (first | (apply wpList_fcmp; rfl; rfl; rfl; rfl; (first | with_reducible assumption | exact Is.const rfl); (first | with_reducible assumption | exact Is.const rfl); (first | with_reducible assumption | exact rfl)) | (go_at_call 33; refine (sFin_any _ _ ix _).mono ?_; rintro e w' ⟨rfl, n, rfl⟩; (try rw [hx])) | (go_at_call 34; refine (sTenths_any _ _ ix HP _).mono ?_; rintro e w' ⟨⟨j1, j2, HS, rfl⟩, n, rfl⟩; have HS2 := Lib.hid HS; clear HS))
  go_ret2
  exact ⟨⟨_, _, HS2.out, rfl⟩, _, rfl⟩

theorem sTen_no (x X : Nat) (ix : Is .f32 x X) (hx : (fin .f32 X && !fcmp .leq .f32 X 0) = false) (w : World) :
    Calls Try.prog 14 #[.float .f32 x] w fun e w' => e = .returned (.tuple #[.int .i64 0, .bool false]) ∧ ∃ n, w' = w.drewN n := by
  by_cases h : fin .f32 X = true
  · have hl : fcmp .leq .f32 X 0 = true := by rw [h] at hx; simpa using hx
    clear hx
    go_enter Try.func14, Try.ntmps14
    go_wp2_with (first | (apply wpList_fcmp; rfl; rfl; rfl; rfl; (first | with_reducible assumption | exact Is.const rfl); (first | with_reducible assumption | exact Is.const rfl); (first | with_reducible assumption | exact rfl)) | (go_at_call 33; refine (sFin_any _ _ ix _).mono ?_; rintro e w' ⟨rfl, n, rfl⟩; (try rw [h])))
    go_ret2
    exact ⟨rfl, _, rfl⟩
  · have h' : fin .f32 X = false := by simpa using h
    clear hx h
    go_enter Try.func14, Try.ntmps14
    go_wp2_with (first | (apply wpList_fcmp; rfl; rfl; rfl; rfl; (first | with_reducible assumption | exact Is.const rfl); (first | with_reducible assumption | exact Is.const rfl); (first | with_reducible assumption | exact rfl)) | (go_at_call 33; refine (sFin_any _ _ ix _).mono ?_; rintro e w' ⟨rfl, n, rfl⟩; (try rw [h'])))
    go_ret2
    exact ⟨rfl, _, rfl⟩
end Go.Proofs.Ytnipdbphfnppeac
