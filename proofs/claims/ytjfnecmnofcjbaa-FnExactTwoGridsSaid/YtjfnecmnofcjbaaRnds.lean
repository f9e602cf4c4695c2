/-
  Rounds of sweeps of both colours, of the program and of the model.
-/
import Derived.Test.YtjfnecmnofcjbaaSwC
namespace Go.Proofs.Ytjfnecmnofcjbaa
open Go.Fl Go.RowKit
open Go.Joins (ownsRow_le)
set_option linter.unusedSimpArgs false
set_option linter.unusedVariables false

/-- The potential behind some rounds. -/
def roundsF (a b : Int) (L : Nat → Nat) (n : Nat) (F : Nat → Nat) : Nat → Nat → Nat
  | 0 => F
  | k + 1 => sweepF a b 1 L (sweepF a b 0 L (roundsF a b L n F k) n) n
theorem half_step {a b c : Int} {L F : Nat → Nat} {n : Nat} {es fs : List Nat} (ha : 4 ≤ a) (hb : 4 ≤ b) (hn : (n : Int) = a * b) (h : EqOn es F 0 n) (h2 : EqOn fs (sweepF a b c L (fun j => cn .f32 (es.getD j 0)) n) 0 n) : EqOn fs (sweepF a b c L F n) 0 n :=
  h2.congr (sweepF_congr ha hb hn (fun _ _ => rfl) (fun j hj => (h j (Nat.zero_le _) hj).eq) _ (Nat.le_refl _))
theorem roundsF_congr {a b : Int} {L L' F F' : Nat → Nat} {n : Nat} (ha : 4 ≤ a) (hb : 4 ≤ b) (hn : (n : Int) = a * b) (hL : ∀ j, j < n → L j = L' j) (hF : ∀ j, j < n → F j = F' j) : ∀ k j, j < n → roundsF a b L n F k j = roundsF a b L' n F' k j := by
  intro k
  induction k with
  | zero => exact hF
  | succ k ih =>
    intro j hj
    show sweepF a b 1 L (sweepF a b 0 L (roundsF a b L n F k) n) n j = sweepF a b 1 L' (sweepF a b 0 L' (roundsF a b L' n F' k) n) n j
    exact sweepF_congr ha hb hn hL (sweepF_congr ha hb hn hL ih _ (Nat.le_refl _)) _ (Nat.le_refl _) j hj

set_option maxHeartbeats 1000000 in
set_option maxRecDepth 100000 in
theorem makeRounds_any (a b : Int) (R gv capv gl capl : Nat) (xs ls : List Nat) (B : Nat) (w : World) (hR : R ≤ 60) (hv : RW B w gv capv xs) (hl : RW B w gl capl ls) (hne : gv ≠ gl) (h1 : fieldOk a b xs.length = true) (hll : ls.length = xs.length) (hwx : ∀ x ∈ xs, x < 2 ^ FloatKind.f32.format.width) (hwl : ∀ x ∈ ls, x < 2 ^ FloatKind.f32.format.width) :
    Calls Try.prog 98 #[.int .i64 R, .func (.func 94) #[BV a b (.slice (some ⟨gv, 0, none⟩) xs.length capv) (.slice (some ⟨gl, 0, none⟩) xs.length capl)] #[]] w fun e w' => (∃ es, e = .returned (.tuple #[]) ∧ es.length = xs.length ∧ (∀ x ∈ es, x < 2 ^ FloatKind.f32.format.width) ∧ EqOn es (roundsF a b (fun j => cn .f32 (ls.getD j 0)) xs.length (fun j => cn .f32 (xs.getD j 0)) R) 0 xs.length ∧ RW B w' gv capv es ∧ RW B w' gl capl ls) ∧ w.grownBy w' (some gv) := by
  have HA := Lib.hid (fieldOk_true h1)
  have H1 := Lib.hid h1; have HLL := Lib.hid hll; have HWL := Lib.hid hwl; have HNE := Lib.hid hne; have HWX := Lib.hid hwx
  have HV0 := Lib.hid hv; have HL0 := Lib.hid hl; have HD0 := Lib.hid (grown_refl w (some gv))
  have HE0 := Lib.hid (show EqOn xs (roundsF a b (fun j => cn .f32 (ls.getD j 0)) xs.length (fun j => cn .f32 (xs.getD j 0)) 0) 0 xs.length from fun q _ hq => FS.is hwx q hq)
  have HSW := Lib.hid (fun (c : Int) (es : List Nat) (w0 : World) (hel : es.length = xs.length) (h2 : RW B w0 gv capv es) (h3 : RW B w0 gl capl ls) (h4 : ∀ x ∈ es, x < 2 ^ FloatKind.f32.format.width) => (show Calls Try.prog 94 #[BV a b (.slice (some ⟨gv, 0, none⟩) xs.length capv) (.slice (some ⟨gl, 0, none⟩) xs.length capl), .int .i64 c] w0 (fun e w' => (∃ fs, e = .returned (.tuple #[]) ∧ fs.length = xs.length ∧ (∀ x ∈ fs, x < 2 ^ FloatKind.f32.format.width) ∧ EqOn fs (sweepF a b c (fun j => cn .f32 (ls.getD j 0)) (fun j => cn .f32 (es.getD j 0)) xs.length) 0 xs.length ∧ RW B w' gv capv fs ∧ RW B w' gl capl ls) ∧ w0.grownBy w' (some gv)) by
    have := sweep_any a b c gv capv gl capl es ls B w0 h2 h3 hne (by rw [hel]; exact h1) (by rw [hel]; exact hll) h4 hwl
    rw [hel, hll] at this
    exact this))
  clear h1 hll hwl hne hwx hv hl
  go_enter Try.func98, Try.ntmps98
  go_wp2_with fail
  go_loopw [6] (fun i wr => ∃ (k : Nat) (es : List Nat), i = .int .i64 (k : Int) ∧ k ≤ R ∧ Hid (es.length = xs.length) ∧ Hid (∀ x ∈ es, x < 2 ^ FloatKind.f32.format.width) ∧ Hid (EqOn es (roundsF a b (fun j => cn .f32 (ls.getD j 0)) xs.length (fun j => cn .f32 (xs.getD j 0)) k) 0 xs.length) ∧ Hid (RW B wr gv capv es) ∧ Hid (RW B wr gl capl ls) ∧ Hid (w.grownBy wr (some gv))) (fun i _ => R - (intOf i).toNat)
  case atStart => exact ⟨0, xs, rfl, Nat.zero_le _, Lib.hid rfl, HWX, HE0, HV0, HL0, HD0⟩
  case round =>
    clear HV0 HL0 HD0 HE0
    obtain ⟨k, es, rfl, hk, HEL, HEW, HE, HV, HL, HD⟩ := hrel
    by_cases hlt : k < R
    · have HLT := Lib.hid hlt
      go_wp2_with fail
      go_loopw [8] (fun i wx => ∃ (q : Nat) (fs : List Nat), i = .int .i64 (q : Int) ∧ q ≤ 2 ∧ Hid (fs.length = xs.length) ∧ Hid (∀ x ∈ fs, x < 2 ^ FloatKind.f32.format.width) ∧ Hid (EqOn fs ([roundsF a b (fun j => cn .f32 (ls.getD j 0)) xs.length (fun j => cn .f32 (xs.getD j 0)) k, sweepF a b 0 (fun j => cn .f32 (ls.getD j 0)) (roundsF a b (fun j => cn .f32 (ls.getD j 0)) xs.length (fun j => cn .f32 (xs.getD j 0)) k) xs.length, roundsF a b (fun j => cn .f32 (ls.getD j 0)) xs.length (fun j => cn .f32 (xs.getD j 0)) (k + 1)].getD q (fun _ => 0)) 0 xs.length) ∧ Hid (RW B wx gv capv fs) ∧ Hid (RW B wx gl capl ls) ∧ Hid (w.grownBy wx (some gv))) (fun i _ => 2 - (intOf i).toNat)
      case atStart => exact ⟨0, es, rfl, Nat.zero_le _, HEL, HEW, HE, HV, HL, HD⟩
      case round =>
        clear HEL HEW HE HV HL HD
        obtain ⟨q, fs, rfl, hq, HFL, HFW, HF, HV, HL, HD⟩ := hrel
        obtain rfl | rfl | rfl : q = 0 ∨ q = 1 ∨ q = 2 := by omega
        · go_wp2_with fail
          refine (HSW.out 0 fs _ HFL.out HV.out HL.out HFW.out).mono ?_; rintro e w2 ⟨⟨gs, rfl, hgl, hgw, hge, hgv, hgg⟩, hg⟩
          have HFL := Lib.hid hgl; have HFW := Lib.hid hgw; have HF := Lib.hid (half_step HA.out.1 HA.out.2.2.1 HA.out.2.2.2.2.1 (show EqOn fs (roundsF a b (fun j => cn .f32 (ls.getD j 0)) xs.length (fun j => cn .f32 (xs.getD j 0)) k) 0 xs.length from HF.out) hge)
          have HV := Lib.hid hgv; have HL := Lib.hid hgg; have HD := Lib.hid (grown_trans HD.out hg)
          clear hgl hgw hge hgv hgg hg
          go_wp2_with fail
          go_roundw
          case rel => exact ⟨1, gs, rfl, by omega, HFL, HFW, HF, HV, HL, HD⟩
          case measure => simp [intOf]
        · go_wp2_with fail
          refine (HSW.out 1 fs _ HFL.out HV.out HL.out HFW.out).mono ?_; rintro e w2 ⟨⟨gs, rfl, hgl, hgw, hge, hgv, hgg⟩, hg⟩
          have HFL := Lib.hid hgl; have HFW := Lib.hid hgw; have HF := Lib.hid (half_step HA.out.1 HA.out.2.2.1 HA.out.2.2.2.2.1 (show EqOn fs (sweepF a b 0 (fun j => cn .f32 (ls.getD j 0)) (roundsF a b (fun j => cn .f32 (ls.getD j 0)) xs.length (fun j => cn .f32 (xs.getD j 0)) k) xs.length) 0 xs.length from HF.out) hge)
          have HV := Lib.hid hgv; have HL := Lib.hid hgg; have HD := Lib.hid (grown_trans HD.out hg)
          clear hgl hgw hge hgv hgg hg
          go_wp2_with fail
          go_roundw
          case rel => exact ⟨2, gs, rfl, by omega, HFL, HFW, HF, HV, HL, HD⟩
          case measure => simp [intOf]
        · go_wp2_with fail
          go_roundw
          case rel => exact ⟨k + 1, fs, by go_num, by have := HLT.out; omega, HFL, HFW, Lib.hid (show EqOn fs (roundsF a b (fun j => cn .f32 (ls.getD j 0)) xs.length (fun j => cn .f32 (xs.getD j 0)) (k + 1)) 0 xs.length from HF.out), HV, HL, HD⟩
          case measure => simp [intOf]; have := HLT.out; omega
    · have hk2 : k = R := by omega
      have HK2 := Lib.hid hk2
      clear hk2
      go_wp2_with fail
      go_end0
      exact ⟨⟨es, rfl, HEL.out, HEW.out, by have := HE.out; rw [HK2.out] at this; exact this, HV.out, HL.out⟩, HD.out⟩

set_option maxHeartbeats 1000000 in
set_option maxRecDepth 100000 in
theorem sSweeps_any (a b : Int) (R kp gv capv gl capl : Nat) (xs ls : List Nat) (B : Nat) (w : World) (hR : R ≤ 60) (hp : w.heap[kp]? = some (.cells #[.int .i64 a, .int .i64 b] 27)) (hpv : kp ≠ gv) (hv : RW B w gv capv xs) (hl : RW B w gl capl ls) (hne : gl ≠ gv) (h1 : fieldOk a b xs.length = true) (hll : ls.length = xs.length) (hwx : ∀ x ∈ xs, x < 2 ^ FloatKind.f32.format.width) (hwl : ∀ x ∈ ls, x < 2 ^ FloatKind.f32.format.width) :
    Calls Try.prog 100 #[.pointer (some ⟨kp, 0, none⟩), .slice (some ⟨gv, 0, none⟩) xs.length capv, .slice (some ⟨gl, 0, none⟩) xs.length capl, .int .i64 R] w fun e w' => (∃ es, e = .returned (.tuple #[]) ∧ es.length = xs.length ∧ (∀ x ∈ es, x < 2 ^ FloatKind.f32.format.width) ∧ EqOn es (roundsF a b (fun j => cn .f32 (ls.getD j 0)) xs.length (fun j => cn .f32 (xs.getD j 0)) R) 0 xs.length ∧ RW B w' gv capv es ∧ RW B w' gl capl ls) ∧ w.grownBy w' (some gv) := by
  have HA := Lib.hid (fieldOk_true h1)
  have H1 := Lib.hid h1; have HLL := Lib.hid hll; have HWL := Lib.hid hwl; have HNE := Lib.hid hne; have HWX := Lib.hid hwx; have HPV := Lib.hid hpv
  have HV0 := Lib.hid hv; have HL0 := Lib.hid hl; have HD0 := Lib.hid (grown_refl w (some gv)); have HP := Lib.hid hp
  have HE0 := Lib.hid (show EqOn xs (roundsF a b (fun j => cn .f32 (ls.getD j 0)) xs.length (fun j => cn .f32 (xs.getD j 0)) 0) 0 xs.length from fun q _ hq => FS.is hwx q hq)
  have HSW := Lib.hid (fun (c : Int) (es : List Nat) (w0 : World) (hel : es.length = xs.length) (h2 : RW B w0 gv capv es) (h3 : RW B w0 gl capl ls) (h4 : ∀ x ∈ es, x < 2 ^ FloatKind.f32.format.width) (h5 : w0.heap[kp]? = some (.cells #[.int .i64 a, .int .i64 b] 27)) => (show Calls Try.prog 90 #[.pointer (some ⟨kp, 0, none⟩), .slice (some ⟨gv, 0, none⟩) xs.length capv, .slice (some ⟨gl, 0, none⟩) xs.length capl, .int .i64 c] w0 (fun e w' => (∃ fs, e = .returned (.tuple #[]) ∧ fs.length = xs.length ∧ (∀ x ∈ fs, x < 2 ^ FloatKind.f32.format.width) ∧ EqOn fs (sweepF a b c (fun j => cn .f32 (ls.getD j 0)) (fun j => cn .f32 (es.getD j 0)) xs.length) 0 xs.length ∧ RW B w' gv capv fs ∧ RW B w' gl capl ls) ∧ w0.grownBy w' (some gv)) by
    have := sSweep_any a b c kp gv capv gl capl es ls B w0 h5 hpv h2 h3 hne (by rw [hel]; exact h1) (by rw [hel]; exact hll) h4 hwl
    rw [hel, hll] at this
    exact this))
  clear h1 hll hwl hne hwx hv hl hp hpv
  go_enter Try.func100, Try.ntmps100
  go_wp2_with fail
  go_loopw [3] (fun i wr => ∃ (k : Nat) (es : List Nat), i = .int .i64 ((R - k : Nat) : Int) ∧ k ≤ R ∧ Hid (es.length = xs.length) ∧ Hid (∀ x ∈ es, x < 2 ^ FloatKind.f32.format.width) ∧ Hid (EqOn es (roundsF a b (fun j => cn .f32 (ls.getD j 0)) xs.length (fun j => cn .f32 (xs.getD j 0)) k) 0 xs.length) ∧ Hid (RW B wr gv capv es) ∧ Hid (RW B wr gl capl ls) ∧ Hid (wr.heap[kp]? = some (.cells #[.int .i64 a, .int .i64 b] 27)) ∧ Hid (w.grownBy wr (some gv))) (fun i _ => (intOf i).toNat)
  case atStart => exact ⟨0, xs, rfl, Nat.zero_le _, Lib.hid rfl, HWX, HE0, HV0, HL0, HP, HD0⟩
  case round =>
    clear HV0 HL0 HD0 HE0 HP
    obtain ⟨k, es, rfl, hk, HEL, HEW, HE, HV, HL, HP, HD⟩ := hrel
    obtain ⟨d, hd⟩ : ∃ d, R - k = d := ⟨_, rfl⟩
    rw [hd]
    have HDD := Lib.hid hd; have HKK := Lib.hid hk
    clear hd hk
    by_cases hlt : 0 < d
    · have HLT := Lib.hid hlt
      have q1 : (0 : Int) < (d : Int) := by omega
      have q2 : wrap64 ((d : Int) - 1) = ((d - 1 : Nat) : Int) := by have := HDD.out; rw [wrap64_of (by omega) (by omega)]; omega
      clear hlt
      go_wp2_with fail
      refine (HSW.out 0 es _ HEL.out HV.out HL.out HEW.out HP.out).mono ?_; rintro e w2 ⟨⟨gs, rfl, hgl, hgw, hge, hgv, hgg⟩, hg⟩
      have HFL := Lib.hid hgl; have HFW := Lib.hid hgw; have HF := Lib.hid (half_step HA.out.1 HA.out.2.2.1 HA.out.2.2.2.2.1 HE.out hge)
      have HV2 := Lib.hid hgv; have HL2 := Lib.hid hgg; have HP2 := Lib.hid ((hg.block kp (Array.getElem?_eq_some_iff.1 HP.out).1 (fun e => HPV.out (Option.some.inj e))).trans HP.out); have HD2 := Lib.hid (grown_trans HD.out hg)
      clear hgl hgw hge hgv hgg hg
      go_wp2_with fail
      refine (HSW.out 1 gs _ HFL.out HV2.out HL2.out HFW.out HP2.out).mono ?_; rintro e w3 ⟨⟨hs, rfl, hgl, hgw, hge, hgv, hgg⟩, hg⟩
      have HFL3 := Lib.hid hgl; have HFW3 := Lib.hid hgw; have HF3 := Lib.hid (show EqOn hs (roundsF a b (fun j => cn .f32 (ls.getD j 0)) xs.length (fun j => cn .f32 (xs.getD j 0)) (k + 1)) 0 xs.length from half_step HA.out.1 HA.out.2.2.1 HA.out.2.2.2.2.1 HF.out hge)
      have HV3 := Lib.hid hgv; have HL3 := Lib.hid hgg; have HP3 := Lib.hid ((hg.block kp (Array.getElem?_eq_some_iff.1 HP2.out).1 (fun e => HPV.out (Option.some.inj e))).trans HP2.out); have HD3 := Lib.hid (grown_trans HD2.out hg)
      clear hgl hgw hge hgv hgg hg
      go_wp2_with fail
      go_roundw
      case rel => exact ⟨k + 1, hs, by have h1 := HDD.out; have h2 := HLT.out; rw [show R - (k + 1) = d - 1 by omega]; first | exact congrArg (Value.int .i64) q2 | rfl, by have h1 := HDD.out; have h2 := HLT.out; omega, HFL3, HFW3, HF3, HV3, HL3, HP3, HD3⟩
      case measure => have h2 := HLT.out; simp [intOf]; omega
    · have q1 : ¬ (0 : Int) < (d : Int) := by omega
      have HK2 := Lib.hid (show k = R by have h1 := HDD.out; have h2 := HKK.out; omega)
      go_wp2_with fail
      go_end0
      exact ⟨⟨rfl, es, HEL.out, HEW.out, by have := HE.out; rw [HK2.out] at this; exact this, HV.out, HL.out⟩, HD.out⟩
end Go.Proofs.Ytjfnecmnofcjbaa
