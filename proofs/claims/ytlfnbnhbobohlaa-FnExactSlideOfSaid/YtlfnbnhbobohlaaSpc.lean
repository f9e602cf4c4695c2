/-
  Spectra of lists: lists of complex numbers under way; the model's spectrum.
-/
import Derived.Test.YtlfnbnhbobohlaaPhz
import Derived.Test.YtlfnbnhbobohlaaSby
import Derived.Test.YtlfnbnhbobohlaaCl
namespace Go.Proofs.Ytlfnbnhbobohlaa
open Go.Fl Go.RowKit
open Go.Joins (ownsRow_le)
set_option linter.unusedSimpArgs false
set_option linter.unusedVariables false

/-- The complex numbers of rs are those of F and G, up to the bits of not-a-numbers. -/
def EqC (rs : List (Nat × Nat)) (F G : Nat → Nat) : Prop := ∀ j, j < rs.length → Is .f32 (rs.getD j (0, 0)).1 (F j) ∧ Is .f32 (rs.getD j (0, 0)).2 (G j)
theorem EqC.nil (F G : Nat → Nat) : EqC [] F G := fun j h => absurd h (Nat.not_lt_zero j)
theorem EqC.snoc {rs : List (Nat × Nat)} {F G : Nat → Nat} {r s : Nat} (h : EqC rs F G) (hr : Is .f32 r (F rs.length)) (hs : Is .f32 s (G rs.length)) : EqC (rs ++ [(r, s)]) F G := by
  intro j hj
  rw [List.length_append, List.length_singleton] at hj
  rw [List.getD_eq_getElem?_getD]
  by_cases h1 : j < rs.length
  · rw [List.getElem?_append_left h1, ← List.getD_eq_getElem?_getD]; exact h j h1
  · obtain rfl : j = rs.length := by omega
    rw [List.getElem?_append_right (Nat.le_refl _), Nat.sub_self]
    exact ⟨hr, hs⟩
theorem EqC.c32 {rs : List (Nat × Nat)} {F G : Nat → Nat} (h : EqC rs F G) : c32 rs := by
  intro x hx
  obtain ⟨j, hj, rfl⟩ := List.mem_iff_getElem.1 hx
  have := h j hj
  rw [List.getD_eq_getElem?_getD, List.getElem?_eq_getElem hj, Option.getD_some] at this
  exact ⟨this.1.lt, this.2.lt⟩
/-- A result: a list of n complex numbers in the call's own memory. -/
def CRes (B : Nat) (w : World) (v : Value) (n : Nat) (F G : Nat → Nat) : Prop := ∃ rs, rs.length = n ∧ EqC rs F G ∧ COwn B w v rs
theorem cres_none (B : Nat) (w : World) (F G : Nat → Nat) : CRes B w (.slice none 0 0) 0 F G := ⟨[], rfl, EqC.nil _ _, World.ownsRow_nil w B 41 1⟩
theorem cres_le {B C : Nat} {w : World} {v : Value} {n : Nat} {F G : Nat → Nat} (h : CRes B w v n F G) (hl : C ≤ B) : CRes C w v n F G := by
  obtain ⟨rs, h1, h2, h3⟩ := h
  exact ⟨rs, h1, h2, ownsRow_le h3 hl⟩
theorem own_startC (B : Nat) (w : World) (h : B ≤ w.heap.size) : (w.alloc (.cells #[] 41)).ownsRow B 41 1 (.slice (some ⟨w.heap.size, 0, none⟩) 0 0) 0 [] :=
  World.ownsRow_made w #[] 0 h (Nat.zero_le _) rfl

/-- The numbers of a spectrum. -/
def specRe (xs : List Nat) (m : Nat) : Nat := sumFn .f32 (fun k => fop .mul .f32 (phRe (turnF (k * m % xs.length) xs.length)) (cn .f32 (xs.getD k 0))) xs.length
def specIm (xs : List Nat) (m : Nat) : Nat := sumFn .f32 (fun k => fop .mul .f32 (phIm (turnF (k * m % xs.length) xs.length)) (cn .f32 (xs.getD k 0))) xs.length
theorem spec_place {k m n : Nat} (hk : k < n) (hm : m < n) (hn : n ≤ 16) : ∃ p q : Nat, q = k * m ∧ p = q % n ∧ q ≤ 65536 ∧ p < n ∧ IntKind.i64.wrap ((k : Int) * (m : Int)) = (q : Int) ∧ wrap64 ((k : Int) * (m : Int)) = (q : Int) ∧ Int.tmod (q : Int) (n : Int) = (p : Int) ∧ (q : Int) % (n : Int) = (p : Int) ∧ (p : Int) < (n : Int) ∧ (0 : Int) ≤ (p : Int) := by
  have h1 : k * m ≤ 16 * 16 := Nat.mul_le_mul (by omega) (by omega)
  have h2 : (k : Int) * (m : Int) = ((k * m : Nat) : Int) := by simp
  have h3 := Nat.mod_lt (k * m) (show 0 < n by omega)
  refine ⟨k * m % n, k * m, rfl, rfl, by omega, h3, ?_⟩
  rw [h2, wrap_i64]
  generalize k * m = q at *
  have h4 : (q : Int) % (n : Int) = ((q % n : Nat) : Int) := by simp
  exact ⟨by unfold wrap64; omega, by unfold wrap64; omega, by rw [Int.tmod_eq_emod_of_nonneg (by omega)]; exact h4, h4, by omega, by omega⟩

set_option maxHeartbeats 1000000 in
set_option maxRecDepth 100000 in
theorem sSpectrum8_any (v : Value) (xs : List Nat) (w : World) (hv : FS .f32 w v xs) (hn : xs.length ≤ 16) :
    Calls Try.prog 72 #[v] w fun e w' => (∃ r, e = .returned r ∧ CRes w.heap.size w' r xs.length (specRe xs) (specIm xs)) ∧ Below w.heap.size w w' := by
  obtain ⟨i0, hi, hz0, hz1, hz2⟩ := info_parts C32info
  have HU := Lib.hid hv
  obtain ⟨a1, c1, rfl, hlc, hcm, hwf, hmem⟩ := hv
  have HWF := Lib.hid hwf
  have hcm' := hcm
  unfold maxLen at hcm'
  clear hmem hlc hcm hwf
  go_enter Try.func72, Try.ntmps72
  go_wp2_with fail
  have HO0 := Lib.hid (own_startC w.heap.size w (Nat.le_refl _))
  have HB0 := Lib.hid ((Below.refl w.heap.size w).alloc (Nat.le_refl _) (.cells #[] 41))
  generalize w.alloc (.cells #[] 41) = w2 at HO0 HB0 ⊢
  go_loopw [4, 5] (fun v i wr => ∃ rs : List (Nat × Nat), i = .int .i64 (rs.length : Int) ∧ rs.length ≤ xs.length ∧ Hid (EqC rs (specRe xs) (specIm xs)) ∧ (∃ gg cap, v = .slice (some ⟨gg, 0, none⟩) rs.length cap ∧ Hid (wr.ownsRow w.heap.size 41 1 v rs.length (rs.map cV))) ∧ Hid (Below w.heap.size w wr)) (fun _ i _ => xs.length - (intOf i).toNat)
  case atStart => exact ⟨[], rfl, Nat.zero_le _, Lib.hid (EqC.nil _ _), ⟨_, _, rfl, HO0⟩, HB0⟩
  case round =>
    clear HO0 HB0
    obtain ⟨rs, rfl, hk, HE, ⟨gg, cap, rfl, HO⟩, HB⟩ := hrel
    by_cases hlt : rs.length < xs.length
    · go_wp2_with fail
      go_loopw [6, 7] (fun s i w9 => ∃ k : Nat, i = .int .i64 (k : Int) ∧ k ≤ xs.length ∧ (∃ r t, s = .complex .f32 r t ∧ Is .f32 r (sumFn .f32 (fun k => fop .mul .f32 (phRe (turnF (k * rs.length % xs.length) xs.length)) (cn .f32 (xs.getD k 0))) k) ∧ Is .f32 t (sumFn .f32 (fun k => fop .mul .f32 (phIm (turnF (k * rs.length % xs.length) xs.length)) (cn .f32 (xs.getD k 0))) k)) ∧ ∃ n, w9 = wr.drewN n) (fun _ i _ => xs.length - (intOf i).toNat)
      case atStart => exact ⟨0, rfl, Nat.zero_le _, ⟨_, _, rfl, Is.const rfl, Is.const rfl⟩, 0, rfl⟩
      case round =>
        obtain ⟨k, rfl, hk, ⟨r, t, rfl, hr, ht⟩, n, rfl⟩ := hrel
        by_cases hly : k < xs.length
        · obtain ⟨p, q, hq, hp, hqb, hpn, e1, e2, e3, e4, i1, i2⟩ := spec_place hly hlt hn
          obtain ⟨b1, o1, he, hcx⟩ := FS.at HU.out HB.out hly
          obtain rfl := he
          have ix := FS.is HWF.out k hly
          have HS := Lib.hid (show sumFn .f32 (fun k => fop .mul .f32 (phRe (turnF (k * rs.length % xs.length) xs.length)) (cn .f32 (xs.getD k 0))) (k + 1) = fop .add .f32 (sumFn .f32 (fun k => fop .mul .f32 (phRe (turnF (k * rs.length % xs.length) xs.length)) (cn .f32 (xs.getD k 0))) k) (fop .mul .f32 (phRe (turnF p xs.length)) (cn .f32 (xs.getD k 0))) by rw [hp, hq]; rfl)
          have HT := Lib.hid (show sumFn .f32 (fun k => fop .mul .f32 (phIm (turnF (k * rs.length % xs.length) xs.length)) (cn .f32 (xs.getD k 0))) (k + 1) = fop .add .f32 (sumFn .f32 (fun k => fop .mul .f32 (phIm (turnF (k * rs.length % xs.length) xs.length)) (cn .f32 (xs.getD k 0))) k) (fop .mul .f32 (phIm (turnF p xs.length)) (cn .f32 (xs.getD k 0))) by rw [hp, hq]; rfl)
          have HPH := Lib.hid (fun w => sPhasor8_any k rs.length xs.length p q w (by omega) hq hp hqb e1 e2 e3 e4)
          generalize sumFn .f32 (fun k => fop .mul .f32 (phRe (turnF (k * rs.length % xs.length) xs.length)) (cn .f32 (xs.getD k 0))) k = R at hr HS
          generalize sumFn .f32 (fun k => fop .mul .f32 (phIm (turnF (k * rs.length % xs.length) xs.length)) (cn .f32 (xs.getD k 0))) k = T at ht HT
          generalize cn .f32 (xs.getD k 0) = X at ix HS HT
          generalize xs.getD k 0 = x at hcx ix
          have HL := Lib.hid hly
          have i3 : (k : Int) < (xs.length : Int) := by omega
          clear hq hp hqb hpn e1 e2 e3 e4 i1 i2
          go_wp2_with (first | ((with_reducible apply Loose.wp_start); kernel_rfl; kernel_rfl) | ((with_reducible apply Loose.start_cons)) | ((with_reducible apply Loose.start_nil)) | ((with_reducible apply Loose.walk_nil); intro n) | ((with_reducible apply Loose.walk_skip); exact rfl; (go_simp; first | done | exact rfl)) | ((with_reducible apply Loose.step_fc); rfl; rfl; rfl; rfl; (first | with_reducible assumption | exact Is.const rfl); (first | with_reducible assumption | exact Is.const rfl); (first | with_reducible assumption | exact rfl); exact rfl; (go_simp; first | done | exact rfl)) | ((with_reducible apply Loose.step_fa); rfl; rfl; rfl; rfl; (first | with_reducible assumption | exact Is.const rfl); (first | with_reducible assumption | exact Is.const rfl); exact rfl; (intro r; go_simp; first | done | exact rfl); intro r hr) | ((with_reducible apply Loose.step_wid); rfl; rfl; (first | with_reducible assumption | exact Is.const rfl); exact U32; exact U64; exact rfl; (intro r; go_simp; first | done | exact rfl); intro r hr) | ((with_reducible apply Loose.step_nar); rfl; rfl; (first | with_reducible assumption | exact Is.const rfl); exact U64; exact U32; (with_reducible assumption); exact rfl; (intro r; go_simp; first | done | exact rfl); intro r hr) | ((with_reducible apply Loose.step_assign); rfl; rfl; (with_reducible assumption); exact rfl; (intro r; go_simp; first | done | exact rfl); intro r hr) | ((with_reducible apply Loose.step_move); rfl; rfl; (with_reducible assumption); exact rfl; (intro r; go_simp; first | done | exact rfl); intro r hr) | ((with_reducible apply Loose.step_same); rfl; rfl; exact U32; exact U32; (first | with_reducible assumption | exact Is.const rfl); exact rfl; (intro r; go_simp; first | done | exact rfl); intro r hr) | ((with_reducible apply Loose.step_same); rfl; rfl; exact U64; exact U64; (first | with_reducible assumption | exact Is.const rfl); exact rfl; (intro r; go_simp; first | done | exact rfl); intro r hr) | ((with_reducible apply Loose.step_callC); rfl; (intro n; go_simp; first | exact ⟨rfl, rfl⟩ | exact rfl); (intro n; go_at_call 114; exact HPH.out _); exact rfl; (intro r s; go_simp; first | done | exact rfl); intro r1 s1 hr1 hs1) | ((with_reducible apply Loose.step_callC); rfl; (intro n; go_simp; first | exact ⟨rfl, rfl⟩ | exact rfl); (intro n; go_at_call 113; exact sScaleC_any _ _ _ _ _ _ hr1 hs1 ix _); exact rfl; (intro r s; go_simp; first | done | exact rfl); intro r2 s2 hr2 hs2) | ((with_reducible apply Loose.step_csum); rfl; exact .inl rfl; rfl; rfl; (with_reducible exact hr); (with_reducible exact ht); (with_reducible exact hr2); (with_reducible exact hs2); exact rfl; (intro r s; go_simp; first | done | exact rfl); intro r3 s3 hr3 hs3) | ((with_reducible apply Loose.step_assignC); rfl; rfl; (with_reducible exact hr3); (with_reducible exact hs3); exact rfl; (intro r s; go_simp; first | done | exact rfl); intro r4 s4 hr4 hs4) | ((with_reducible apply Loose.step_eq); rfl; (intro n; go_simp; first | done | exact rfl); exact rfl; (go_simp; first | done | exact rfl)))
          go_roundw
          case rel => exact ⟨k + 1, by go_num, by have := HL.out; omega, ⟨_, _, rfl, by rw [HS.out]; assumption, by rw [HT.out]; assumption⟩, _, rfl⟩
          case measure => have := HL.out; simp [intOf]; omega
        · obtain rfl : k = xs.length := by omega
          have HF := Lib.hid (show sumFn .f32 (fun k => fop .mul .f32 (phRe (turnF (k * rs.length % xs.length) xs.length)) (cn .f32 (xs.getD k 0))) xs.length = specRe xs rs.length from rfl)
          have HG := Lib.hid (show sumFn .f32 (fun k => fop .mul .f32 (phIm (turnF (k * rs.length % xs.length) xs.length)) (cn .f32 (xs.getD k 0))) xs.length = specIm xs rs.length from rfl)
          rw [HF.out] at hr; rw [HG.out] at ht
          have HON := Lib.hid (World.ownsRow.alloc (World.ownsRow.kept HO.out (grown_below (row := none) (below_drewN (Below.refl wr.heap.size wr) n)) (.inr (by simp [Value.ownBlock]))) (.cells #[.complex .f32 r t] 41))
          have HBN := Lib.hid ((below_drewN HB.out n).alloc (below_drewN HB.out n).size (.cells #[.complex .f32 r t] 41))
          clear hly HO HB
          generalize wr.drewN n = w8 at HON HBN ⊢
          go_wp2_with (at_builtin; refine wpList_append_lies _ rfl _ _ _ rfl w.heap.size 41 i0 _ 1 8 Try.underlying35 hi hz0 hz1 hz2 rfl (by omega) (.slice (some ⟨gg, 0, none⟩) rs.length cap) rs.length (rs.map cV) rfl HON.out ⟨w8.heap.size, 0, none⟩ 1 1 [.complex .f32 r t] rfl rfl (World.news_of_block (cs := #[.complex .f32 r t]) (t := 41) (fr := (0, 0)) (heap_alloc_new _ _)) (by simp [Value.oneCell']) (by omega) (by unfold maxLen; omega) (by omega) HBN.out.size (w8.heap.size + 1) (by simp) ?_; intro g2 cap2 w3 hown4 hgrow hat hltg)
          have hb5 := Lib.hid (HBN.out.grown hgrow HBN.out.size (fun k hk => (HON.out.lt k hk).1))
          have HO4 := Lib.hid (show w3.ownsRow w.heap.size 41 1 (.slice (some ⟨g2, 0, none⟩) (rs ++ [(r, t)]).length cap2) (rs ++ [(r, t)]).length ((rs ++ [(r, t)]).map cV) by simpa [cV] using hown4)
          have HE4 := Lib.hid (HE.out.snoc hr ht)
          have HL4 := Lib.hid (show (rs ++ [(r, t)]).length = rs.length + 1 by simp)
          clear hown4 hgrow hat
          go_wp2
          go_roundw
          case rel => exact ⟨rs ++ [(r, t)], by rw [HL4.out]; go_num, by rw [HL4.out]; omega, HE4, ⟨g2, cap2, by rw [HL4.out], by rw [HL4.out] at HO4 ⊢; exact HO4⟩, hb5⟩
          case measure => simp [intOf]; omega
    · have HK2 := Lib.hid (show rs.length = xs.length by omega)
      have i2 : ¬ ((rs.length : Int) < (xs.length : Int)) := by omega
      go_wp2
      go_ret
      exact ⟨⟨_, rfl, rs, HK2.out, HE.out, HO.out⟩, HB.out⟩
end Go.Proofs.Ytlfnbnhbobohlaa
