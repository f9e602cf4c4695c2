/-
  What is gathered from fields in eighths.
-/
import Derived.Test.YtlfnbnhbobohlaaDep
import Derived.Test.YtlfnbnhbobohlaaPl
namespace Go.Proofs.Ytlfnbnhbobohlaa
open Go.Fl Go.RowKit
open Go.Joins (ownsRow_le)
set_option linter.unusedSimpArgs false
set_option linter.unusedVariables false

/-- Numbers that stand for integers in eighths. -/
def DvL (xs : List Nat) (F : Nat → Int) : Prop := ∀ j, j < xs.length → Dv .f32 146 (xs.getD j 0) (F j)
theorem fs_some' {k : FloatKind} {w : World} {a : Option Addr} {n c : Nat} {xs : List Nat} (h : FS k w (.slice a n c) xs) (h0 : 0 < xs.length) : ∃ b off, a = some ⟨b, off, none⟩ := by
  obtain ⟨a', cap, hv, _, _, _, hm⟩ := h
  rcases hm with rfl | ⟨b, off, rfl, _, _⟩
  · simp at h0
  · simp only [Value.slice.injEq] at hv
    exact ⟨b, off, hv.1⟩
theorem two_new9 (w : World) (o1 o2 : Obj) : ((w.alloc o1).alloc o2).heap[w.heap.size]? = some o1 ∧ ((w.alloc o1).alloc o2).heap[w.heap.size + 1]? = some o2 ∧ Below w.heap.size w ((w.alloc o1).alloc o2) ∧ ((w.alloc o1).alloc o2).heap.size = w.heap.size + 2 := by
  refine ⟨?_, ?_, ((Below.refl _ _).alloc (Nat.le_refl _) _).alloc (by simp) _, by simp⟩
  · rw [heap_alloc_old _ _ (by simp), heap_alloc_new]
  · have := heap_alloc_new (w.alloc o1) o2
    rwa [World.size_alloc] at this
theorem sh_in9 (f h : Int) (f0 : 0 ≤ f) (f1 : f < 8) (h0 : 0 ≤ h) (h1 : h < 8) : (0 ≤ (8 - f) * (8 - h) ∧ (8 - f) * (8 - h) ≤ 64) ∧ (0 ≤ f * (8 - h) ∧ f * (8 - h) ≤ 64) ∧ (0 ≤ (8 - f) * h ∧ (8 - f) * h ≤ 64) ∧ (0 ≤ f * h ∧ f * h ≤ 64) := by
  have m := fun (x y : Int) (hx : 0 ≤ x ∧ x ≤ 8) (hy : 0 ≤ y ∧ y ≤ 8) => And.intro (Int.mul_nonneg hx.1 hy.1) (show x * y ≤ 64 from Int.mul_le_mul hx.2 hy.2 hy.1 (by omega))
  exact ⟨m _ _ (by omega) (by omega), m _ _ (by omega) (by omega), m _ _ (by omega) (by omega), m _ _ (by omega) (by omega)⟩
/-- The sum of the first corners. -/
def gsum (t0 t1 t2 t3 : Int) : Nat → Int
  | 0 => 0
  | 1 => t0
  | 2 => t0 + t1
  | 3 => t0 + t1 + t2
  | _ => t0 + t1 + t2 + t3
theorem sf_in {s f : Int} (hs : 0 ≤ s ∧ s ≤ 64) (hf : -32 ≤ f ∧ f ≤ 32) : -2048 ≤ s * f ∧ s * f ≤ 2048 := by
  have := mul_in (A := 32) (B := 64) hf.1 hf.2 hs.1 hs.2 (by omega)
  rw [Int.mul_comm]; omega
/-- What is gathered at a place, in units of 2 ^ -9. -/
def gatI (a b : Int) (F : Nat → Int) (n m : Int) : Int :=
  ((8 - n % 8) * (8 - m % 8)) * F (cornIx a b (n % (8 * a) / 8) (m % (8 * b) / 8)).toNat + (n % 8 * (8 - m % 8)) * F (cornIx a b (n % (8 * a) / 8 + 1) (m % (8 * b) / 8)).toNat
    + ((8 - n % 8) * (m % 8)) * F (cornIx a b (n % (8 * a) / 8) (m % (8 * b) / 8 + 1)).toNat + (n % 8 * (m % 8)) * F (cornIx a b (n % (8 * a) / 8 + 1) (m % (8 * b) / 8 + 1)).toNat

set_option maxHeartbeats 2000000 in
set_option maxRecDepth 100000 in
theorem gathered_any (v : Value) (xs : List Nat) (F : Nat → Int) (i0 i1 i2 i3 r0 r1 r2 r3 : Nat) (s0 s1 s2 s3 : Int) (w : World) (hv : FS .f32 w v xs) (hF : DvL xs F) (hb : ∀ j, -32 ≤ F j ∧ F j ≤ 32)
    (hi : i0 < xs.length ∧ i1 < xs.length ∧ i2 < xs.length ∧ i3 < xs.length) (hr : Dv .f32 143 r0 s0 ∧ Dv .f32 143 r1 s1 ∧ Dv .f32 143 r2 s2 ∧ Dv .f32 143 r3 s3)
    (hs : (0 ≤ s0 ∧ s0 ≤ 64) ∧ (0 ≤ s1 ∧ s1 ≤ 64) ∧ (0 ≤ s2 ∧ s2 ≤ 64) ∧ (0 ≤ s3 ∧ s3 ≤ 64)) :
    Calls Try.prog 100 #[v, .agg #[.int .i64 (i0 : Int), .int .i64 (i1 : Int), .int .i64 (i2 : Int), .int .i64 (i3 : Int)], .agg #[.float .f32 r0, .float .f32 r1, .float .f32 r2, .float .f32 r3]] w fun e w' =>
      (∃ r, e = .returned (.float .f32 r) ∧ Dy .f32 140 r (s0 * F i0 + s1 * F i1 + s2 * F i2 + s3 * F i3)) ∧ Below w.heap.size w w' := by
  have HV := Lib.hid hv
  obtain ⟨a1, c1, rfl, hlc, hcm, hwf, hmem⟩ := hv
  have HF := Lib.hid hF; have HR := Lib.hid hr; have HII := Lib.hid hi
  have HT := Lib.hid (And.intro (sf_in hs.1 (hb i0)) (And.intro (sf_in hs.2.1 (hb i1)) (And.intro (sf_in hs.2.2.1 (hb i2)) (sf_in hs.2.2.2 (hb i3)))))
  have D0 := Lib.hid (hr.1.mul32 (hF i0 hi.1) (w := 140) (by decide) (by have := HT.out.1; omega) (by decide))
  have D1 := Lib.hid (hr.2.1.mul32 (hF i1 hi.2.1) (w := 140) (by decide) (by have := HT.out.2.1; omega) (by decide))
  have D2 := Lib.hid (hr.2.2.1.mul32 (hF i2 hi.2.2.1) (w := 140) (by decide) (by have := HT.out.2.2.1; omega) (by decide))
  have D3 := Lib.hid (hr.2.2.2.mul32 (hF i3 hi.2.2.2) (w := 140) (by decide) (by have := HT.out.2.2.2; omega) (by decide))
  have HX := Lib.hid (show (∀ w', Below w.heap.size w w' → ∃ b o, a1 = some ⟨b, o, none⟩ ∧ w'.cell? ⟨b, o + i0, none⟩ = some (.float .f32 (xs.getD i0 0)) ∧ w'.cell? ⟨b, o + i1, none⟩ = some (.float .f32 (xs.getD i1 0)) ∧ w'.cell? ⟨b, o + i2, none⟩ = some (.float .f32 (xs.getD i2 0)) ∧ w'.cell? ⟨b, o + i3, none⟩ = some (.float .f32 (xs.getD i3 0))) from fun w' hb => by
    obtain ⟨b, o, rfl⟩ := fs_some' HV.out (by omega)
    exact ⟨b, o, rfl, FS.ever HV.out hi.1 w' hb, FS.ever HV.out hi.2.1 w' hb, FS.ever HV.out hi.2.2.1 w' hb, FS.ever HV.out hi.2.2.2 w' hb⟩)
  have X0 := Lib.hid (hF i0 hi.1).is; have X1 := Lib.hid (hF i1 hi.2.1).is; have X2 := Lib.hid (hF i2 hi.2.2.1).is; have X3 := Lib.hid (hF i3 hi.2.2.2).is
  generalize s0 * F i0 = t0 at D0 HT ⊢
  generalize s1 * F i1 = t1 at D1 HT ⊢
  generalize s2 * F i2 = t2 at D2 HT ⊢
  generalize s3 * F i3 = t3 at D3 HT ⊢
  generalize xs.getD i0 0 = x0 at D0 HX X0
  generalize xs.getD i1 0 = x1 at D1 HX X1
  generalize xs.getD i2 0 = x2 at D2 HX X2
  generalize xs.getD i3 0 = x3 at D3 HX X3
  obtain ⟨n1, n2, n3, n4⟩ := two_new9 w (.cells #[.int .i64 (i0 : Int), .int .i64 (i1 : Int), .int .i64 (i2 : Int), .int .i64 (i3 : Int)] 115) (.cells #[.float .f32 r0, .float .f32 r1, .float .f32 r2, .float .f32 r3] 117)
  have HB := Lib.hid n3
  have c := Four.cells n1; have c0 := c.1; have c1' := c.2.1; have c2 := c.2.2.1; have c3 := c.2.2.2; clear c
  have HS := Lib.hid (Four.cells n2)
  clear hlc hcm hwf hmem hF hb hi hr hs n1 n2 n3 n4
  go_enter Try.func100, Try.ntmps100
  go_wp2_with fail
  clear c0 c1' c2 c3
  generalize (w.alloc (.cells #[.int .i64 (i0 : Int), .int .i64 (i1 : Int), .int .i64 (i2 : Int), .int .i64 (i3 : Int)] 115)).alloc (.cells #[.float .f32 r0, .float .f32 r1, .float .f32 r2, .float .f32 r3] 117) = w1 at HB HS ⊢
  obtain ⟨b, o, rfl, y0, y1, y2, y3⟩ := HX.out w1 HB.out
  have Y := Lib.hid (And.intro y0 (And.intro y1 (And.intro y2 y3)))
  clear HX y0 y1 y2 y3
  go_loopw [7, 11] (fun s i wr => ∃ k : Nat, i = .int .i64 (k : Int) ∧ k ≤ 4 ∧ (∃ r, s = .float .f32 r ∧ Dy .f32 140 r (gsum t0 t1 t2 t3 k)) ∧ ∃ n, wr = w1.drewN n) (fun _ i _ => 4 - (intOf i).toNat)
  case atStart => exact ⟨0, rfl, by omega, ⟨_, rfl, show Dy .f32 140 0 0 from Dy.of (by decide +kernel)⟩, 0, rfl⟩
  case round =>
    obtain ⟨k, rfl, hk, ⟨r, rfl, hr⟩, n, rfl⟩ := hrel
    by_cases hlt : k < 4
    · have h4 : k = 0 ∨ k = 1 ∨ k = 2 ∨ k = 3 := by omega
      clear hk hlt
      have HD := Lib.hid hr
      rcases h4 with rfl | rfl | rfl | rfl
      · have ir := HD.out.is
        have iy := HR.out.1.is; have iz := X0.out
        have q := fun W => (index_four' (.int .i64 (i0 : Int)) (.int .i64 (i1 : Int)) (.int .i64 (i2 : Int)) (.int .i64 (i3 : Int)) W).1
        have d0 := HS.out.1; have d1 := Y.out.1
        have j1 : (i0 : Int) < (xs.length : Int) := by have := HII.out; omega
        have j2 : (0 : Int) ≤ (i0 : Int) := Int.natCast_nonneg _
        clear hr
        go_wp2_with (first | ((with_reducible apply Loose.wp_start); kernel_rfl; kernel_rfl) | ((with_reducible apply Loose.start_cons)) | ((with_reducible apply Loose.start_nil)) | ((with_reducible apply Loose.walk_nil); intro n) | ((with_reducible apply Loose.walk_skip); exact rfl; (go_simp; first | done | exact rfl)) | ((with_reducible apply Loose.step_fc); rfl; rfl; rfl; rfl; (first | with_reducible assumption | exact Is.const rfl); (first | with_reducible assumption | exact Is.const rfl); (first | with_reducible assumption | exact rfl); exact rfl; (go_simp; first | done | exact rfl)) | ((with_reducible apply Loose.step_fa); rfl; rfl; rfl; rfl; (first | with_reducible assumption | exact Is.const rfl); (first | with_reducible assumption | exact Is.const rfl); exact rfl; (intro r; go_simp; first | done | exact rfl); intro r hr) | ((with_reducible apply Loose.step_wid); rfl; rfl; (first | with_reducible assumption | exact Is.const rfl); exact U32; exact U64; exact rfl; (intro r; go_simp; first | done | exact rfl); intro r hr) | ((with_reducible apply Loose.step_nar); rfl; rfl; (first | with_reducible assumption | exact Is.const rfl); exact U64; exact U32; (with_reducible assumption); exact rfl; (intro r; go_simp; first | done | exact rfl); intro r hr) | ((with_reducible apply Loose.step_assign); rfl; rfl; (with_reducible assumption); exact rfl; (intro r; go_simp; first | done | exact rfl); intro r hr) | ((with_reducible apply Loose.step_move); rfl; rfl; (with_reducible assumption); exact rfl; (intro r; go_simp; first | done | exact rfl); intro r hr) | ((with_reducible apply Loose.step_same); rfl; rfl; exact U32; exact U32; (first | with_reducible assumption | exact Is.const rfl); exact rfl; (intro r; go_simp; first | done | exact rfl); intro r hr) | ((with_reducible apply Loose.step_same); rfl; rfl; exact U64; exact U64; (first | with_reducible assumption | exact Is.const rfl); exact rfl; (intro r; go_simp; first | done | exact rfl); intro r hr) | ((with_reducible apply Loose.step_eq); rfl; (intro n; go_simp; first | done | exact rfl); exact rfl; (go_simp; first | done | exact rfl)))
        go_roundw
        case rel => exact ⟨0 + 1, rfl, by omega, ⟨_, rfl, by have h9 := HD.out.addv32 D0.out (by decide) (by have := HT.out; simp only [gsum]; omega); simp only [gsum, Int.zero_add] at h9; exact dyis h9 (by assumption)⟩, _, rfl⟩
        case measure => simp [intOf]
      · have ir := HD.out.is
        have iy := HR.out.2.1.is; have iz := X1.out
        have q := fun W => (index_four' (.int .i64 (i0 : Int)) (.int .i64 (i1 : Int)) (.int .i64 (i2 : Int)) (.int .i64 (i3 : Int)) W).2.1
        have d0 := HS.out.2.1; have d1 := Y.out.2.1
        have j1 : (i1 : Int) < (xs.length : Int) := by have := HII.out; omega
        have j2 : (0 : Int) ≤ (i1 : Int) := Int.natCast_nonneg _
        clear hr
        go_wp2_with (first | ((with_reducible apply Loose.wp_start); kernel_rfl; kernel_rfl) | ((with_reducible apply Loose.start_cons)) | ((with_reducible apply Loose.start_nil)) | ((with_reducible apply Loose.walk_nil); intro n) | ((with_reducible apply Loose.walk_skip); exact rfl; (go_simp; first | done | exact rfl)) | ((with_reducible apply Loose.step_fc); rfl; rfl; rfl; rfl; (first | with_reducible assumption | exact Is.const rfl); (first | with_reducible assumption | exact Is.const rfl); (first | with_reducible assumption | exact rfl); exact rfl; (go_simp; first | done | exact rfl)) | ((with_reducible apply Loose.step_fa); rfl; rfl; rfl; rfl; (first | with_reducible assumption | exact Is.const rfl); (first | with_reducible assumption | exact Is.const rfl); exact rfl; (intro r; go_simp; first | done | exact rfl); intro r hr) | ((with_reducible apply Loose.step_wid); rfl; rfl; (first | with_reducible assumption | exact Is.const rfl); exact U32; exact U64; exact rfl; (intro r; go_simp; first | done | exact rfl); intro r hr) | ((with_reducible apply Loose.step_nar); rfl; rfl; (first | with_reducible assumption | exact Is.const rfl); exact U64; exact U32; (with_reducible assumption); exact rfl; (intro r; go_simp; first | done | exact rfl); intro r hr) | ((with_reducible apply Loose.step_assign); rfl; rfl; (with_reducible assumption); exact rfl; (intro r; go_simp; first | done | exact rfl); intro r hr) | ((with_reducible apply Loose.step_move); rfl; rfl; (with_reducible assumption); exact rfl; (intro r; go_simp; first | done | exact rfl); intro r hr) | ((with_reducible apply Loose.step_same); rfl; rfl; exact U32; exact U32; (first | with_reducible assumption | exact Is.const rfl); exact rfl; (intro r; go_simp; first | done | exact rfl); intro r hr) | ((with_reducible apply Loose.step_same); rfl; rfl; exact U64; exact U64; (first | with_reducible assumption | exact Is.const rfl); exact rfl; (intro r; go_simp; first | done | exact rfl); intro r hr) | ((with_reducible apply Loose.step_eq); rfl; (intro n; go_simp; first | done | exact rfl); exact rfl; (go_simp; first | done | exact rfl)))
        go_roundw
        case rel => exact ⟨1 + 1, rfl, by omega, ⟨_, rfl, by have h9 := HD.out.addv32 D1.out (by decide) (by have := HT.out; simp only [gsum]; omega); simp only [gsum, Int.zero_add] at h9; exact dyis h9 (by assumption)⟩, _, rfl⟩
        case measure => simp [intOf]
      · have ir := HD.out.is
        have iy := HR.out.2.2.1.is; have iz := X2.out
        have q := fun W => (index_four' (.int .i64 (i0 : Int)) (.int .i64 (i1 : Int)) (.int .i64 (i2 : Int)) (.int .i64 (i3 : Int)) W).2.2.1
        have d0 := HS.out.2.2.1; have d1 := Y.out.2.2.1
        have j1 : (i2 : Int) < (xs.length : Int) := by have := HII.out; omega
        have j2 : (0 : Int) ≤ (i2 : Int) := Int.natCast_nonneg _
        clear hr
        go_wp2_with (first | ((with_reducible apply Loose.wp_start); kernel_rfl; kernel_rfl) | ((with_reducible apply Loose.start_cons)) | ((with_reducible apply Loose.start_nil)) | ((with_reducible apply Loose.walk_nil); intro n) | ((with_reducible apply Loose.walk_skip); exact rfl; (go_simp; first | done | exact rfl)) | ((with_reducible apply Loose.step_fc); rfl; rfl; rfl; rfl; (first | with_reducible assumption | exact Is.const rfl); (first | with_reducible assumption | exact Is.const rfl); (first | with_reducible assumption | exact rfl); exact rfl; (go_simp; first | done | exact rfl)) | ((with_reducible apply Loose.step_fa); rfl; rfl; rfl; rfl; (first | with_reducible assumption | exact Is.const rfl); (first | with_reducible assumption | exact Is.const rfl); exact rfl; (intro r; go_simp; first | done | exact rfl); intro r hr) | ((with_reducible apply Loose.step_wid); rfl; rfl; (first | with_reducible assumption | exact Is.const rfl); exact U32; exact U64; exact rfl; (intro r; go_simp; first | done | exact rfl); intro r hr) | ((with_reducible apply Loose.step_nar); rfl; rfl; (first | with_reducible assumption | exact Is.const rfl); exact U64; exact U32; (with_reducible assumption); exact rfl; (intro r; go_simp; first | done | exact rfl); intro r hr) | ((with_reducible apply Loose.step_assign); rfl; rfl; (with_reducible assumption); exact rfl; (intro r; go_simp; first | done | exact rfl); intro r hr) | ((with_reducible apply Loose.step_move); rfl; rfl; (with_reducible assumption); exact rfl; (intro r; go_simp; first | done | exact rfl); intro r hr) | ((with_reducible apply Loose.step_same); rfl; rfl; exact U32; exact U32; (first | with_reducible assumption | exact Is.const rfl); exact rfl; (intro r; go_simp; first | done | exact rfl); intro r hr) | ((with_reducible apply Loose.step_same); rfl; rfl; exact U64; exact U64; (first | with_reducible assumption | exact Is.const rfl); exact rfl; (intro r; go_simp; first | done | exact rfl); intro r hr) | ((with_reducible apply Loose.step_eq); rfl; (intro n; go_simp; first | done | exact rfl); exact rfl; (go_simp; first | done | exact rfl)))
        go_roundw
        case rel => exact ⟨2 + 1, rfl, by omega, ⟨_, rfl, by have h9 := HD.out.addv32 D2.out (by decide) (by have := HT.out; simp only [gsum]; omega); simp only [gsum, Int.zero_add] at h9; exact dyis h9 (by assumption)⟩, _, rfl⟩
        case measure => simp [intOf]
      · have ir := HD.out.is
        have iy := HR.out.2.2.2.is; have iz := X3.out
        have q := fun W => (index_four' (.int .i64 (i0 : Int)) (.int .i64 (i1 : Int)) (.int .i64 (i2 : Int)) (.int .i64 (i3 : Int)) W).2.2.2
        have d0 := HS.out.2.2.2; have d1 := Y.out.2.2.2
        have j1 : (i3 : Int) < (xs.length : Int) := by have := HII.out; omega
        have j2 : (0 : Int) ≤ (i3 : Int) := Int.natCast_nonneg _
        clear hr
        go_wp2_with (first | ((with_reducible apply Loose.wp_start); kernel_rfl; kernel_rfl) | ((with_reducible apply Loose.start_cons)) | ((with_reducible apply Loose.start_nil)) | ((with_reducible apply Loose.walk_nil); intro n) | ((with_reducible apply Loose.walk_skip); exact rfl; (go_simp; first | done | exact rfl)) | ((with_reducible apply Loose.step_fc); rfl; rfl; rfl; rfl; (first | with_reducible assumption | exact Is.const rfl); (first | with_reducible assumption | exact Is.const rfl); (first | with_reducible assumption | exact rfl); exact rfl; (go_simp; first | done | exact rfl)) | ((with_reducible apply Loose.step_fa); rfl; rfl; rfl; rfl; (first | with_reducible assumption | exact Is.const rfl); (first | with_reducible assumption | exact Is.const rfl); exact rfl; (intro r; go_simp; first | done | exact rfl); intro r hr) | ((with_reducible apply Loose.step_wid); rfl; rfl; (first | with_reducible assumption | exact Is.const rfl); exact U32; exact U64; exact rfl; (intro r; go_simp; first | done | exact rfl); intro r hr) | ((with_reducible apply Loose.step_nar); rfl; rfl; (first | with_reducible assumption | exact Is.const rfl); exact U64; exact U32; (with_reducible assumption); exact rfl; (intro r; go_simp; first | done | exact rfl); intro r hr) | ((with_reducible apply Loose.step_assign); rfl; rfl; (with_reducible assumption); exact rfl; (intro r; go_simp; first | done | exact rfl); intro r hr) | ((with_reducible apply Loose.step_move); rfl; rfl; (with_reducible assumption); exact rfl; (intro r; go_simp; first | done | exact rfl); intro r hr) | ((with_reducible apply Loose.step_same); rfl; rfl; exact U32; exact U32; (first | with_reducible assumption | exact Is.const rfl); exact rfl; (intro r; go_simp; first | done | exact rfl); intro r hr) | ((with_reducible apply Loose.step_same); rfl; rfl; exact U64; exact U64; (first | with_reducible assumption | exact Is.const rfl); exact rfl; (intro r; go_simp; first | done | exact rfl); intro r hr) | ((with_reducible apply Loose.step_eq); rfl; (intro n; go_simp; first | done | exact rfl); exact rfl; (go_simp; first | done | exact rfl)))
        go_roundw
        case rel => exact ⟨3 + 1, rfl, by omega, ⟨_, rfl, by have h9 := HD.out.addv32 D3.out (by decide) (by have := HT.out; simp only [gsum]; omega); simp only [gsum, Int.zero_add] at h9; exact dyis h9 (by assumption)⟩, _, rfl⟩
        case measure => simp [intOf]
    · obtain rfl : k = 4 := by omega
      go_wp2_with fail
      go_ret
      exact ⟨⟨_, rfl, hr⟩, below_drewN HB.out _⟩

set_option maxHeartbeats 2000000 in
set_option maxRecDepth 100000 in
theorem iGather_e8 (a b : Int) (ha : 4 ≤ a) (ha' : a ≤ 7) (hb : 4 ≤ b) (hb' : b ≤ 7) (v : Value) (xs : List Nat) (F : Nat → Int) (n m : Int) (n0 : -112 ≤ n) (n1 : n < 248) (m0 : -112 ≤ m) (m1 : m < 248) (w : World)
    (hv : FS .f32 w v xs) (hF : DvL xs F) (hB : ∀ j, -32 ≤ F j ∧ F j ≤ 32) (hl : (xs.length : Int) = a * b) :
    Calls Try.prog 54 #[GV a b, v, .complex .f32 (E8 n) (E8 m)] w fun e w' => (∃ r, e = .returned (.tuple #[.float .f32 r, .bool true]) ∧ Dy .f32 140 r (gatI a b F n m)) ∧ Below w.heap.size w w' := by
  have hm1 : a * b ≤ 7 * 7 := Int.mul_le_mul ha' hb' (by omega) (by omega)
  have hm0 : 4 * 4 ≤ a * b := Int.mul_le_mul ha hb (by omega) (by omega)
  have H1 := Lib.hid (show fieldOk a b xs.length = true by unfold fieldOk; rw [small_grid ha ha' hb hb', wrap_i64, wrap64_of (by omega) (by omega), hl]; simp)
  have q0 := cornIx_in (a := a) (b := b) (x := n % (8 * a) / 8) (y := m % (8 * b) / 8) ha hb
  have q1 := cornIx_in (a := a) (b := b) (x := n % (8 * a) / 8 + 1) (y := m % (8 * b) / 8) ha hb
  have q2 := cornIx_in (a := a) (b := b) (x := n % (8 * a) / 8) (y := m % (8 * b) / 8 + 1) ha hb
  have q3 := cornIx_in (a := a) (b := b) (x := n % (8 * a) / 8 + 1) (y := m % (8 * b) / 8 + 1) ha hb
  obtain ⟨i0, e0⟩ := Int.eq_ofNat_of_zero_le q0.1
  obtain ⟨i1, e1⟩ := Int.eq_ofNat_of_zero_le q1.1
  obtain ⟨i2, e2⟩ := Int.eq_ofNat_of_zero_le q2.1
  obtain ⟨i3, e3⟩ := Int.eq_ofNat_of_zero_le q3.1
  have hg : gatI a b F n m = (8 - n % 8) * (8 - m % 8) * F i0 + n % 8 * (8 - m % 8) * F i1 + (8 - n % 8) * (m % 8) * F i2 + n % 8 * (m % 8) * F i3 := by
    unfold gatI; rw [e0, e1, e2, e3]; rfl
  rw [hg]
  rw [e0] at q0; rw [e1] at q1; rw [e2] at q2; rw [e3] at q3
  have HI := Lib.hid (show i0 < xs.length ∧ i1 < xs.length ∧ i2 < xs.length ∧ i3 < xs.length by omega)
  have HC := Lib.hid (fun W => iCorners_e8 a b ha ha' hb hb' n m n0 n1 m0 m1 W)
  have HSH := Lib.hid (fun W => iShares_e8 a b ha ha' hb hb' n m n0 n1 m0 m1 W)
  unfold CornV at HC
  unfold ShV at HSH
  rw [mod_of ha ha', mod_of hb hb'] at HSH
  rw [e0, e1, e2, e3] at HC
  have HD := Lib.hid (sh_dy (n % 8) (m % 8) (by omega) (by omega) (by omega) (by omega))
  have HSB := Lib.hid (sh_in9 (n % 8) (m % 8) (by omega) (by omega) (by omega) (by omega))
  have HFC := Lib.hid (fun W => iFiniteC_e8 n m n0 n1 m0 m1 W)
  have HV := Lib.hid hv
  obtain ⟨a1, c1, rfl, _⟩ := hv
  have HP := Lib.hid (gp_new w a b 27)
  have HB0 := Lib.hid ((Below.refl w.heap.size w).alloc (Nat.le_refl _) (.cells #[.int .i64 a, .int .i64 b] 27))
  clear q0 q1 q2 q3 e0 e1 e2 e3 hg hm1 hm0 hl
  go_enter Try.func54, Try.ntmps54
  go_wp2_with fail
  generalize w.alloc (.cells #[.int .i64 a, .int .i64 b] 27) = w1 at HB0 HP ⊢
  refine (iIsField_any a b a1 xs.length c1 _).mono ?_; rw [H1.out]; rintro e w2 ⟨rfl, hb2⟩
  have HB2 := Lib.hid (HB0.out.trans (hb2.mono HB0.out.size)); have HP2 := Lib.hid (GP.below HP.out hb2)
  clear hb2
  go_wp2_with fail
  refine (HFC.out _).mono ?_; rintro e w' ⟨rfl, k1, rfl⟩
  have HB3 := Lib.hid (below_drewN HB2.out k1); have HP3 := Lib.hid (GP.drewN HP2.out k1)
  generalize w2.drewN k1 = w3 at HB3 HP3 ⊢
  have c0 := HP3.out.cells.1; have c1' := HP3.out.cells.2
  go_wp2_with fail
  refine wp_region_noPanic ?_
  refine wp_region_held_drew (S := fun w' => w'.cell? ⟨w.heap.size, 0, none⟩ = some (.int .i64 a) ∧ w'.cell? ⟨w.heap.size, 1, none⟩ = some (.int .i64 b)) (by kernel_rfl) ⟨c0, c1'⟩ (fun hHeld => ?_)
  have hbd := (Below.refl w3.heap.size w3).drew
  have HB4 := Lib.hid (HB3.out.trans (hbd.mono HB3.out.size)); have HP4 := Lib.hid (GP.below HP3.out hbd)
  clear hbd c0 c1'
  generalize w3.drew = w4 at hHeld HB4 HP4 ⊢
  ((refine wpAnyH_take (i := 0) (v := ?_) rfl (by kernel_rfl) (by kernel_rfl) (by kernel_rfl) (fun _ _ _ h => h) (Or.inl ⟨by rfl, ?_⟩) (by assumption) ?_; rotate_left; (· intro w hSw; (try dsimp only at hSw); go_simp; first | done | with_reducible rfl); (try simp only [List.getElem_toArray, List.getElem_cons_zero, List.getElem_cons_succ, Act.put, List.setIfInBounds_toArray, List.set_cons_zero, List.set_cons_succ])); (refine wpAnyH_take (i := 1) (v := ?_) rfl (by kernel_rfl) (by kernel_rfl) (by kernel_rfl) (fun _ _ _ h => h) (Or.inl ⟨by rfl, ?_⟩) (by assumption) ?_; rotate_left; (· intro w hSw; (try dsimp only at hSw); go_simp; first | done | with_reducible rfl); (try simp only [List.getElem_toArray, List.getElem_cons_zero, List.getElem_cons_succ, Act.put, List.setIfInBounds_toArray, List.set_cons_zero, List.set_cons_succ])); (refine wpAnyH_take (i := 2) (v := ?_) rfl (by kernel_rfl) (by kernel_rfl) (by kernel_rfl) (fun _ _ _ h => h) (Or.inl ⟨by rfl, ?_⟩) (by assumption) ?_; rotate_left; (· intro w hSw; (try dsimp only at hSw); go_simp; first | done | with_reducible rfl); (try simp only [List.getElem_toArray, List.getElem_cons_zero, List.getElem_cons_succ, Act.put, List.setIfInBounds_toArray, List.set_cons_zero, List.set_cons_succ])); (refine wpAnyH_take (i := 4) (v := ?_) rfl (by kernel_rfl) (by kernel_rfl) (by kernel_rfl) (fun _ _ _ h => h) (Or.inl ⟨by rfl, ?_⟩) (by assumption) ?_; rotate_left; (· intro w hSw; (try dsimp only at hSw); go_simp; first | done | with_reducible rfl); (try simp only [List.getElem_toArray, List.getElem_cons_zero, List.getElem_cons_succ, Act.put, List.setIfInBounds_toArray, List.set_cons_zero, List.set_cons_succ])); (refine wpAnyH_take (i := 5) (v := ?_) rfl (by kernel_rfl) (by kernel_rfl) (by kernel_rfl) (fun _ _ _ h => h) (Or.inl ⟨by rfl, ?_⟩) (by assumption) ?_; rotate_left; (· intro w hSw; (try dsimp only at hSw); go_simp; first | done | with_reducible rfl); (try simp only [List.getElem_toArray, List.getElem_cons_zero, List.getElem_cons_succ, Act.put, List.setIfInBounds_toArray, List.set_cons_zero, List.set_cons_succ])))
  (refine wpAnyH_ready (rs := [3]) (by kernel_rfl) (by simp) ?_; refine AllReadyH.cons (i := 3) rfl (fun K hK => ?_) AllReadyH.nil)
  go_simp
  refine (HC.out _).mono ?_; rintro e w5 ⟨rfl, hb5⟩
  have HB5 := Lib.hid (HB4.out.trans (hb5.mono HB4.out.size)); have HP5 := Lib.hid (GP.below HP4.out hb5); clear hb5
  go_wp2_with fail
  (refine hK.out _ _ (HP5.out.cells) (fun hHeld => ?_); clear hK K; (try simp only [List.getElem_toArray, List.getElem_cons_zero, List.getElem_cons_succ, Act.put, List.setIfInBounds_toArray, List.set_cons_zero, List.set_cons_succ]))
  (refine wpAnyH_ready (rs := [6]) (by kernel_rfl) (by simp) ?_; refine AllReadyH.cons (i := 6) rfl (fun K hK => ?_) AllReadyH.nil)
  go_simp
  refine (HSH.out _).mono ?_; rintro e w6 ⟨rfl, hb6⟩
  have HB6 := Lib.hid (HB5.out.trans (hb6.mono HB5.out.size)); have HP6 := Lib.hid (GP.below HP5.out hb6); clear hb6
  go_wp2_with fail
  (refine hK.out _ _ (HP6.out.cells) (fun hHeld => ?_); clear hK K; (try simp only [List.getElem_toArray, List.getElem_cons_zero, List.getElem_cons_succ, Act.put, List.setIfInBounds_toArray, List.set_cons_zero, List.set_cons_succ]))
  (refine wpAnyH_ready (rs := [7]) (by kernel_rfl) (by simp) ?_; refine AllReadyH.cons (i := 7) rfl (fun K hK => ?_) AllReadyH.nil)
  go_simp
  refine (gathered_any _ xs F i0 i1 i2 i3 _ _ _ _ _ _ _ _ _ (HV.out.below HB6.out) hF hB HI.out ⟨HD.out.1.dv, HD.out.2.1.dv, HD.out.2.2.1.dv, HD.out.2.2.2.dv⟩ HSB.out).mono ?_; rintro e w7 ⟨⟨r, rfl, hr⟩, hb7⟩
  have HB7 := Lib.hid (HB6.out.trans (hb7.mono HB6.out.size)); have HP7 := Lib.hid (GP.below HP6.out hb7); clear hb7
  go_wp2_with fail
  (refine hK.out _ _ (HP7.out.cells) (fun hHeld => ?_); clear hK K; (try simp only [List.getElem_toArray, List.getElem_cons_zero, List.getElem_cons_succ, Act.put, List.setIfInBounds_toArray, List.set_cons_zero, List.set_cons_succ]))
  ((refine wpAnyH_take (i := 8) (v := ?_) rfl (by kernel_rfl) (by kernel_rfl) (by kernel_rfl) (fun _ _ _ h => h) (Or.inl ⟨by rfl, ?_⟩) (by assumption) ?_; rotate_left; (· intro w hSw; (try dsimp only at hSw); go_simp; first | done | with_reducible rfl); (try simp only [List.getElem_toArray, List.getElem_cons_zero, List.getElem_cons_succ, Act.put, List.setIfInBounds_toArray, List.set_cons_zero, List.set_cons_succ])); (refine wpAnyH_take (i := 9) (v := ?_) rfl (by kernel_rfl) (by kernel_rfl) (by kernel_rfl) (fun _ _ _ h => h) (Or.inl ⟨by rfl, ?_⟩) (by assumption) ?_; rotate_left; (· intro w hSw; (try dsimp only at hSw); go_simp; first | done | with_reducible rfl); (try simp only [List.getElem_toArray, List.getElem_cons_zero, List.getElem_cons_succ, Act.put, List.setIfInBounds_toArray, List.set_cons_zero, List.set_cons_succ])))
  (refine wpAnyH_done (by kernel_rfl) ?_ _; refine NoPanic.normal ?_)
  clear hHeld
  go_wp2_with fail
  go_ret2
  exact ⟨⟨_, rfl, hr⟩, HB7.out⟩
end Go.Proofs.Ytlfnbnhbobohlaa
