/-
  What FnNumbers draws: numbers of 32 bits (any: only that they are numbers is told), and lists of them.
-/
import Derived.Test.YtmalbjncjlhbaaaGreatDoorSrc
import Derived.Test.YtmalbjncjlhbaaaGreatDoorNum
import Derived.OneCell
import Derived.Lib.SmallJoins
namespace Go.Proofs.YtmalbjncjlhbaaaGreatDoor
open Go.Fl Go.RowKit Go.Nl
set_option linter.unusedSimpArgs false
set_option linter.unusedVariables false

theorem bn_tab : ((List.range 129).all fun n => isCanon .f32 (floatOfInt .f32 ((n : Int) - 64))) = true := by decide +kernel
theorem bn_int (x : Int) (h0 : 0 ≤ x) (h1 : x < 129) : Is .f32 (floatOfInt .f32 (x - 64)) (floatOfInt .f32 (x - 64)) := by
  have h := List.all_eq_true.1 bn_tab x.toNat (List.mem_range.2 (by omega))
  simp only [show ((x.toNat : Nat) : Int) = x by omega] at h
  exact Is.const h
theorem bn_wrap (x : Int) (h0 : 0 ≤ x) (h1 : x < 129) : wrap64 (x - 64) = x - 64 := by unfold wrap64; omega
theorem bn_word (x y : Int) (h0 : 0 ≤ x) (h1 : x < 65536) (h2 : 0 ≤ y) (h3 : y < 65536) : wrap64 (wrap64 (x * 65536) + y) = x * 65536 + y := by unfold wrap64; omega
theorem bn_word1 (x : Int) (h0 : 0 ≤ x) (h1 : x < 65536) : wrap64 (x * 65536) = x * 65536 := by unfold wrap64; omega
theorem bn_is {n : Int} (h0 : 0 ≤ n) (h1 : n ≤ 4294967295) : Is .f32 n.toNat (cn .f32 n.toNat) := Is.of_lt (by show n.toNat < 4294967296; omega)

set_option maxHeartbeats 1000000 in
set_option maxRecDepth 100000 in
theorem sPlain_any (w0 : World) (g k : Nat) (c : Value) (bs : List Int) (w : World) (hc : NS .u8 w0 c bs) (hk : k < 1152921504606846976) (h : Src w0 g w c k) :
    Calls Tryz.prog 75 #[.pointer (some ⟨g, 0, none⟩)] w fun e w' => ∃ (r X k' : Nat), k' ≤ k + 4 ∧ e = .returned (.float .f32 r) ∧ Is .f32 r X ∧ Src w0 g w' c k' ∧ w.grownBy w' (some g) := by
  have HS := Lib.hid h
  have HC := Lib.hid hc
  clear h hc
  go_enter Tryz.func75, Tryz.ntmps75
  go_wp2_with fail
  refine (sPick_any w0 g k c bs 129 _ HC.out (by omega) (by omega) (by omega) HS.out).mono ?_
  rintro e w1 ⟨n, k1, hn0, hn1, hk1, rfl, S1, G1⟩
  have hw := bn_wrap n hn0 hn1
  have i1 := bn_int n hn0 hn1
  have HS1 := Lib.hid S1; have HG1 := Lib.hid G1; have HK := Lib.hid hk1
  clear S1 G1 hn0 hn1 hk1
  go_wp2_with fail
  refine (sOne_any w0 g k1 c bs 4 _ HC.out (by have := HK.out; omega) (by omega) (by omega) HS1.out).mono ?_
  rintro e w2 ⟨b, k2, hk2, rfl, S2, G2⟩
  have HS2 := Lib.hid S2; have HG2 := Lib.hid (grown_trans HG1.out G2); have HK2 := Lib.hid hk2
  clear S2 G2 hk2
  cases b
  all_goals
    go_wp2_with ((apply wpList_farith; rfl; rfl; rfl; rfl; (first | with_reducible assumption | exact Is.const rfl); (first | with_reducible assumption | exact Is.const rfl); intro r n hr))
    go_ret
    exact ⟨_, _, k2, by have := HK.out; have := HK2.out; omega, rfl, by assumption, HS2.out.below (below_drewN (Below.refl _ _) _), grown_trans HG2.out (grown_below (below_drewN (Below.refl _ _) _))⟩

set_option maxHeartbeats 1000000 in
set_option maxRecDepth 100000 in
theorem sAmong_any (w0 : World) (g k : Nat) (c : Value) (bs : List Int) (v : Value) (xs : List Int) (w : World) (hc : NS .u8 w0 c bs) (hk : k < 1152921504606846976) (h : Src w0 g w c k) (hv : NS .i64 w v xs) (hgv : ∀ b off l m, v = .slice (some ⟨b, off, none⟩) l m → b ≠ g) (hn : 1 ≤ xs.length) :
    Calls Tryz.prog 76 #[.pointer (some ⟨g, 0, none⟩), v] w fun e w' => ∃ (x : Int) (k' : Nat), k' ≤ k + 2 ∧ x ∈ xs ∧ e = .returned (.int .i64 x) ∧ Src w0 g w' c k' ∧ w.grownBy w' (some g) := by
  obtain ⟨a, cap, rfl, hlc, hcm, hwf, hcell⟩ := hv
  rcases hcell with rfl | ⟨b, off, rfl, hbl, hcell⟩
  · simp at hn
  have hbg : b ≠ g := hgv b off _ _ rfl
  have HS := Lib.hid h
  have HC := Lib.hid hc
  have HCE := Lib.hid hcell
  have HBL := Lib.hid hbl
  unfold maxLen at hcm
  clear h hc hcell hwf hgv
  go_enter Tryz.func76, Tryz.ntmps76
  go_wp2_with fail
  refine (sPick_any w0 g k c bs (xs.length : Int) _ HC.out (by omega) (by omega) (by omega) HS.out).mono ?_
  rintro e w1 ⟨n, k1, hn0, hn1, hk1, rfl, S1, G1⟩
  obtain ⟨m, rfl⟩ : ∃ m : Nat, n = m := ⟨n.toNat, by omega⟩
  have hm : m < xs.length := by omega
  have hce : w1.cell? ⟨b, off + m, none⟩ = some (.int .i64 (xs.getD m 0)) := by
    have h1 := HCE.out m hm
    have h2 := G1.block b HBL.out (by simpa using hbg)
    rw [World.cell?, h2]
    exact h1
  have hmem : xs.getD m 0 ∈ xs := by rw [List.getD_eq_getElem?_getD, List.getElem?_eq_getElem hm]; exact List.getElem_mem hm
  have HM := Lib.hid hmem
  have HS1 := Lib.hid S1; have HG1 := Lib.hid G1; have HK := Lib.hid hk1
  clear S1 G1 hk1 hmem
  generalize xs.getD m 0 = x at hce HM
  go_wp2_with fail
  go_ret
  exact ⟨x, k1, HK.out, HM.out, rfl, HS1.out, HG1.out⟩

/-- A list of integers that has just been made. -/
theorem ns_lit (w : World) (xs : List Int) (t : TypeId) (hn : 1 ≤ xs.length) (hm : xs.length ≤ maxLen) (hw : ∀ x ∈ xs, (Lit.int .i64 x).wf = true) :
    NS .i64 (w.alloc (.cells (xs.map (Value.int .i64)).toArray t)) (.slice (some ⟨w.heap.size, 0, none⟩) xs.length xs.length) xs := by
  refine ⟨_, _, rfl, Nat.le_refl _, hm, hw, .inr ⟨w.heap.size, 0, rfl, by simp, fun i hi => ?_⟩⟩
  rw [Joins.cell_of_block (heap_alloc_new w _)]
  simp [hi, List.getD_eq_getElem?_getD]
theorem lt_snoc {rs : List Nat} {r N : Nat} (h : ∀ x ∈ rs, x < N) (hr : r < N) : ∀ x ∈ rs ++ [r], x < N := by
  intro x hx
  rcases List.mem_append.1 hx with hx | hx
  · exact h x hx
  · rw [List.mem_singleton.1 hx]; exact hr
theorem below_lit (w : World) (b : Obj) : Below w.heap.size w (w.alloc b) := (Below.refl _ _).alloc (Nat.le_refl _) _

set_option maxHeartbeats 4000000 in
set_option maxRecDepth 100000 in
theorem sFloat_any (w0 : World) (g k : Nat) (c : Value) (bs : List Int) (w : World) (hc : NS .u8 w0 c bs) (hk : k < 1000000000000) (h : Src w0 g w c k) :
    Calls Tryz.prog 42 #[.pointer (some ⟨g, 0, none⟩)] w fun e w' => ∃ (r X k' : Nat), k' ≤ k + 12 ∧ e = .returned (.float .f32 r) ∧ Is .f32 r X ∧ Src w0 g w' c k' ∧ w.grownBy w' (some g) := by
  have HS := Lib.hid h
  have HC := Lib.hid hc
  have hgl := h.lt
  clear h hc
  go_enter Tryz.func42, Tryz.ntmps42
  go_wp2_with fail
  refine (sOne_any w0 g k c bs 12 _ HC.out (by omega) (by omega) (by omega) HS.out).mono ?_
  rintro e w1 ⟨b, k1, hk1, rfl, S1, G1⟩
  have HS1 := Lib.hid S1; have HG1 := Lib.hid G1; have HK := Lib.hid hk1
  have hz1 := Nat.lt_of_lt_of_le hgl G1.size
  clear S1 G1 hk1
  cases b
  · go_wp2_with fail
    refine (sPlain_any w0 g k1 c bs _ HC.out (by have := HK.out; omega) HS1.out).mono ?_
    rintro e w2 ⟨r, X, k2, hk2, rfl, hr, S2, G2⟩
    have HS2 := Lib.hid S2; have HG2 := Lib.hid (grown_trans HG1.out G2); have HK2 := Lib.hid hk2
    clear S2 G2 hk2
    go_wp2_with fail
    go_ret
    exact ⟨r, X, k2, by have := HK.out; have := HK2.out; omega, rfl, hr, HS2.out, HG2.out⟩
  · go_wp2_with fail
    refine (sPick_any w0 g k1 c bs 4 _ HC.out (by have := HK.out; omega) (by omega) (by omega) HS1.out).mono ?_
    rintro e w2 ⟨y, k2, hy0, hy1, hk2, rfl, S2, G2⟩
    have HS2 := Lib.hid S2; have HG2 := Lib.hid (grown_trans HG1.out G2); have HK2 := Lib.hid hk2
    have hz2 := Nat.lt_of_lt_of_le hz1 G2.size
    clear S2 G2 hk2
    have hy : y = 0 ∨ y = 1 ∨ y = 2 ∨ y = 3 := by omega
    clear hy0 hy1
    rcases hy with rfl | rfl | rfl | rfl
    · have hl := ns_lit w2 [0, 2147483648, 2139095040, 4286578688, 2143289344, 1, 2139095039, 8388608, 8388607, 2147483649] 2 (by decide) (by unfold maxLen; decide) (by decide)
      have HL := Lib.hid hl
      have HS3 := Lib.hid (HS2.out.below (below_lit w2 (.cells (([0, 2147483648, 2139095040, 4286578688, 2143289344, 1, 2139095039, 8388608, 8388607, 2147483649] : List Int).map (Value.int .i64)).toArray 2)))
      have HG3 := Lib.hid (grown_trans HG2.out (grown_below (below_lit w2 (.cells (([0, 2147483648, 2139095040, 4286578688, 2143289344, 1, 2139095039, 8388608, 8388607, 2147483649] : List Int).map (Value.int .i64)).toArray 2))))
      clear hl
      go_wp2_with fail
      refine (sAmong_any w0 g k2 c bs _ _ _ HC.out (by have := HK.out; have := HK2.out; omega) HS3.out HL.out (by intro b off l m e; simp at e; omega) (by decide)).mono ?_
      rintro e w3 ⟨x, k3, hk3, hx, rfl, S3, G3⟩
      have HX := Lib.hid (show 0 ≤ x ∧ x ≤ 4294967295 by simp at hx; omega)
      have HS4 := Lib.hid S3; have HG4 := Lib.hid (grown_trans HG3.out G3); have HK3 := Lib.hid hk3
      clear S3 G3 hk3 hx
      go_wp2_with (go_at_call 41; refine (sFrom_any _ HX.out.1 HX.out.2 _).mono ?_; rintro e w' ⟨rfl, rfl⟩)
      go_ret
      exact ⟨_, _, k3, by have := HK.out; have := HK2.out; have := HK3.out; omega, rfl, bn_is HX.out.1 HX.out.2, HS4.out, HG4.out⟩
    · go_wp2_with fail
      refine (sPick_any w0 g k2 c bs 65536 _ HC.out (by have := HK.out; have := HK2.out; omega) (by omega) (by omega) HS2.out).mono ?_
      rintro e w3 ⟨n, k3, hn0, hn1, hk3, rfl, S3, G3⟩
      have HS3 := Lib.hid S3; have HG3 := Lib.hid (grown_trans HG2.out G3); have HK3 := Lib.hid hk3
      have HN := Lib.hid (And.intro hn0 hn1)
      clear S3 G3 hk3 hn0 hn1
      go_wp2_with fail
      refine (sPick_any w0 g k3 c bs 65536 _ HC.out (by have := HK.out; have := HK2.out; have := HK3.out; omega) (by omega) (by omega) HS3.out).mono ?_
      rintro e w4 ⟨m, k4, hm0, hm1, hk4, rfl, S4, G4⟩
      have HS4 := Lib.hid S4; have HG4 := Lib.hid (grown_trans HG3.out G4); have HK4 := Lib.hid hk4
      have hw := bn_word n m HN.out.1 HN.out.2 hm0 hm1
      have HX := Lib.hid (show 0 ≤ n * 65536 + m ∧ n * 65536 + m ≤ 4294967295 by have := HN.out; omega)
      clear S4 G4 hk4 hm0 hm1
      go_wp2_with (go_at_call 41; rw [hw]; refine (sFrom_any _ HX.out.1 HX.out.2 _).mono ?_; rintro e w' ⟨rfl, rfl⟩)
      go_ret
      exact ⟨_, _, k4, by have := HK.out; have := HK2.out; have := HK3.out; have := HK4.out; omega, rfl, bn_is HX.out.1 HX.out.2, HS4.out, HG4.out⟩
    · go_wp2_with fail
      refine (sPick_any w0 g k2 c bs 65536 _ HC.out (by have := HK.out; have := HK2.out; omega) (by omega) (by omega) HS2.out).mono ?_
      rintro e w3 ⟨n, k3, hn0, hn1, hk3, rfl, S3, G3⟩
      have HS3 := Lib.hid S3; have HG3 := Lib.hid (grown_trans HG2.out G3); have HK3 := Lib.hid hk3
      have hw := bn_word1 n hn0 hn1
      have HX := Lib.hid (show 0 ≤ n * 65536 ∧ n * 65536 ≤ 4294967295 by omega)
      clear S3 G3 hk3 hn0 hn1
      go_wp2_with (go_at_call 41; rw [hw]; refine (sFrom_any _ HX.out.1 HX.out.2 _).mono ?_; rintro e w' ⟨rfl, rfl⟩)
      go_ret
      exact ⟨_, _, k3, by have := HK.out; have := HK2.out; have := HK3.out; omega, rfl, bn_is HX.out.1 HX.out.2, HS3.out, HG3.out⟩
    · go_wp2_with fail
      refine (sPlain_any w0 g k2 c bs _ HC.out (by have := HK.out; have := HK2.out; omega) HS2.out).mono ?_
      rintro e w3 ⟨r, X, k3, hk3, rfl, hr, S3, G3⟩
      have hl := ns_lit w3 [8388608, 2130706432, 1610612736, 536870912] 2 (by decide) (by unfold maxLen; decide) (by decide)
      have HL := Lib.hid hl
      have HS3 := Lib.hid (S3.below (below_lit w3 (.cells (([8388608, 2130706432, 1610612736, 536870912] : List Int).map (Value.int .i64)).toArray 2)))
      have HG3 := Lib.hid (grown_trans (grown_trans HG2.out G3) (grown_below (below_lit w3 (.cells (([8388608, 2130706432, 1610612736, 536870912] : List Int).map (Value.int .i64)).toArray 2))))
      have HK3 := Lib.hid hk3; have HR := Lib.hid hr
      have hz3 := Nat.lt_of_lt_of_le hz2 G3.size
      clear hl S3 G3 hk3 hr
      go_wp2_with fail
      refine (sAmong_any w0 g k3 c bs _ _ _ HC.out (by have := HK.out; have := HK2.out; have := HK3.out; omega) HS3.out HL.out (by intro b off l m e; simp at e; omega) (by decide)).mono ?_
      rintro e w4 ⟨x, k4, hk4, hx, rfl, S4, G4⟩
      have HX := Lib.hid (show 0 ≤ x ∧ x ≤ 4294967295 by simp at hx; omega)
      have HS4 := Lib.hid S4; have HG4 := Lib.hid (grown_trans HG3.out G4); have HK4 := Lib.hid hk4
      have ix := bn_is HX.out.1 HX.out.2
      have ir := HR.out
      clear S4 G4 hk4 hx
      go_wp2_with (first | (go_at_call 41; refine (sFrom_any _ HX.out.1 HX.out.2 _).mono ?_; rintro e w' ⟨rfl, rfl⟩) | (apply wpList_farith; rfl; rfl; rfl; rfl; (first | with_reducible assumption | exact Is.const rfl); (first | with_reducible assumption | exact Is.const rfl); intro r n hr))
      go_ret
      exact ⟨_, _, k4, by have := HK.out; have := HK2.out; have := HK3.out; have := HK4.out; omega, rfl, by assumption, HS4.out.below (below_drewN (Below.refl _ _) _), grown_trans HG4.out (grown_below (below_drewN (Below.refl _ _) _))⟩

set_option maxHeartbeats 4000000 in
set_option maxRecDepth 100000 in
theorem sFloats_any (w0 : World) (g k : Nat) (c : Value) (bs : List Int) (n : Nat) (w : World) (hc : NS .u8 w0 c bs) (hn : n ≤ 1000) (hk : k < 1000000) (h : Src w0 g w c k) :
    Calls Tryz.prog 46 #[.pointer (some ⟨g, 0, none⟩), .int .i64 (n : Int)] w fun e w' => ∃ (v : Value) (xs : List Nat), e = .returned v ∧ xs.length = n ∧ (∀ x ∈ xs, x < 2 ^ FloatKind.f32.format.width) ∧ FOwn w.heap.size w' v xs ∧ Below w0.heap.size w0 w' := by
  obtain ⟨i0, hi, hz0, hz1, hz2⟩ := info_parts F32info
  have HI := Lib.hid hi; have HZ0 := Lib.hid hz0; have HZ1 := Lib.hid hz1; have HZ2 := Lib.hid hz2
  have HS := Lib.hid h
  have HC := Lib.hid hc
  have HG := Lib.hid h.lt
  have HG0 := Lib.hid h.2.1
  clear h hc hi hz0 hz1 hz2
  go_enter Tryz.func46, Tryz.ntmps46
  go_wp2_with fail
  have HO1 := Lib.hid (own_start w.heap.size w (Nat.le_refl _))
  have HS1 := Lib.hid (HS.out.below (below_lit w (.cells #[] 24)))
  have HZ := Lib.hid (show w.heap.size ≤ (w.alloc (.cells #[] 24)).heap.size by simp)
  generalize w.alloc (.cells #[] 24) = w1 at HO1 HS1 HZ ⊢
  clear HS
  generalize hB : w.heap.size = B at HO1 HG HZ ⊢
  have HBE := Lib.hid hB
  clear hB
  refine (sOne_any w0 g k c bs 4 _ HC.out (by omega) (by omega) (by omega) HS1.out).mono ?_
  rintro e w2 ⟨st, k1, hk1, rfl, S2, G2⟩
  have HO2 := Lib.hid (World.ownsRow.kept HO1.out G2 (.inr (by have := HG.out; simp [Value.ownBlock]; omega)))
  have HS2 := Lib.hid S2
  have HZ2w := Lib.hid (Nat.le_trans HZ.out G2.size)
  clear S2 G2 HO1 HS1 HZ
  go_wp2_with fail
  go_loopw [1, 5] (fun m v wr => ∃ (rs : List Nat) (M k' : Nat), m = .int .i64 (M : Int) ∧ rs.length + M = n ∧ k' + 12 * M ≤ k + 2 + 12 * n ∧ Hid (Src w0 g wr c k') ∧ Hid (∀ x ∈ rs, x < 2 ^ FloatKind.f32.format.width) ∧ (∃ gv cap, v = .slice (some ⟨gv, 0, none⟩) rs.length cap ∧ Hid (wr.ownsRow B 24 1 (.slice (some ⟨gv, 0, none⟩) rs.length cap) rs.length (rs.map (Value.float .f32)))) ∧ B ≤ wr.heap.size) (fun m _ _ => (intOf m).toNat)
  case atStart => exact ⟨[], n, k1, rfl, by simp, by omega, HS2, Lib.hid (fun x hx => (by cases hx)), ⟨_, _, rfl, HO2⟩, HZ2w.out⟩
  case round =>
    clear HS2 HO2 HZ2w
    obtain ⟨rs, M, k', rfl, hl, hk', HSR, HD, ⟨gv, cap, rfl, HO⟩, hz⟩ := hrel
    by_cases hM : 0 < M
    · have HM := Lib.hid hM
      cases st
      all_goals
        go_wp2_with fail
        first
          | refine (sFloat_any w0 g k' c bs _ HC.out (by omega) HSR.out).mono ?_
          | refine (sPlain_any w0 g k' c bs _ HC.out (by omega) HSR.out).mono ?_
        rintro e w4 ⟨r, X, k4, hk4, rfl, hr, S4, G4⟩
        have hgv := HO.out.lt gv rfl
        have hgne : gv ≠ g := by have := HG.out; omega
        have HO4 := Lib.hid (World.ownsRow.alloc (World.ownsRow.kept HO.out G4 (.inr (by simp [Value.ownBlock]; exact hgne))) (.cells #[.float .f32 r] 24))
        have HS4 := Lib.hid (S4.below (below_lit w4 (.cells #[.float .f32 r] 24)))
        have HR := Lib.hid hr.lt
        have hz4 : B ≤ (w4.alloc (.cells #[.float .f32 r] 24)).heap.size := by have := G4.size; simp; omega
        have HK4 := Lib.hid hk4
        have hlen : rs.length ≤ 1000 := by omega
        clear S4 G4 hr hk4 hgv
        go_wp2_with (at_builtin; refine wpList_append_lies _ rfl _ _ _ rfl B 24 i0 _ 1 4 Tryz.underlying30 HI.out HZ0.out HZ1.out HZ2.out rfl (by omega) (.slice (some ⟨gv, 0, none⟩) rs.length cap) rs.length (rs.map (Value.float .f32)) rfl HO4.out ⟨w4.heap.size, 0, none⟩ 1 1 [.float .f32 r] rfl rfl (World.news_of_block (cs := #[.float .f32 r]) (t := 24) (fr := (0, 0)) (heap_alloc_new _ _)) (by simp [Value.oneCell']) (by omega) (by unfold maxLen; omega) (by omega) hz4 (w4.heap.size + 1) (by simp) ?_; intro g2 cap2 w5 hown5 hgrow hat hltg)
        have hgw : w0.heap.size ≤ gv := by have h1 := (HO4.out.lt gv rfl).1; have h2 := HG.out; have h3 := HG0.out; omega
        have HSN := Lib.hid (HS4.out.kept hgrow (fun e => hgne (Option.some.inj e)) (HS4.out.1.trans ⟨hgrow.os, hgrow.tape, hgrow.output, hgrow.size, fun i hi => hgrow.block i (Nat.lt_of_lt_of_le hi HS4.out.1.size) (fun e => by have h4 : gv = i := Option.some.inj e.symm; omega)⟩))
        have HON := Lib.hid (show w5.ownsRow B 24 1 (.slice (some ⟨g2, 0, none⟩) (rs ++ [r]).length cap2) (rs ++ [r]).length ((rs ++ [r]).map (Value.float .f32)) by simpa using hown5)
        have hzN : B ≤ w5.heap.size := Nat.le_trans hz4 hgrow.size
        clear hown5 hgrow hat HO4 HS4 hgne hgw hz4
        go_wp2_with fail
        go_roundw
        case rel => exact ⟨rs ++ [r], M - 1, k4, by have := HM.out; rw [Int.natCast_sub (by omega)]; go_num, by rw [List.length_append, List.length_singleton]; have := HM.out; omega, by have := HM.out; have := HK4.out; omega, HSN, Lib.hid (lt_snoc HD.out HR.out), ⟨g2, cap2, by rw [List.length_append, List.length_singleton], HON⟩, hzN⟩
        case measure => simp [intOf]; have := HM.out; omega
    · obtain rfl : M = 0 := by omega
      clear hM
      go_wp2
      go_ret
      exact ⟨_, rs, rfl, by omega, HD.out, by rw [HBE.out]; exact HO.out, HSR.out.1⟩

set_option maxHeartbeats 1000000 in
set_option maxRecDepth 100000 in
/-- A list of any numbers, of the call's own. -/
theorem sNumbers_any (c : Value) (bs : List Int) (n : Nat) (w : World) (hc : NS .u8 w c bs) (hn : n ≤ 1000) :
    Calls Tryz.prog 10 #[c, .int .i64 (n : Int)] w fun e w' => ∃ (v : Value) (xs : List Nat), e = .returned v ∧ xs.length = n ∧ (∀ x ∈ xs, x < 2 ^ FloatKind.f32.format.width) ∧ FOwn w.heap.size w' v xs ∧ Below w.heap.size w w' := by
  have HC := Lib.hid hc
  clear hc
  go_enter Tryz.func10, Tryz.ntmps10
  go_wp2_with fail
  refine (sFrom_src c bs _ HC.out).mono ?_
  rintro e w1 ⟨g, rfl, S1⟩
  have HS1 := Lib.hid S1
  have hz1 := S1.1.size
  clear S1
  go_wp2_with fail
  refine (sFloats_any w g 0 c bs n _ HC.out hn (by omega) HS1.out).mono ?_
  rintro e w2 ⟨v, xs, rfl, hl, hx, ho, hb⟩
  have HL := Lib.hid hl; have HX := Lib.hid hx; have HO := Lib.hid (Joins.ownsRow_le ho hz1); have HB := Lib.hid hb
  clear hl hx ho hb
  go_wp2_with fail
  go_ret
  exact ⟨v, xs, rfl, HL.out, HX.out, HO.out, HB.out⟩

set_option maxHeartbeats 1000000 in
set_option maxRecDepth 100000 in
/-- Any number. -/
theorem sNumber_any (c : Value) (bs : List Int) (w : World) (hc : NS .u8 w c bs) :
    Calls Tryz.prog 6 #[c] w fun e w' => ∃ (r X : Nat), e = .returned (.float .f32 r) ∧ Is .f32 r X ∧ Below w.heap.size w w' := by
  have HC := Lib.hid hc
  clear hc
  go_enter Tryz.func6, Tryz.ntmps6
  go_wp2_with fail
  refine (sFrom_src c bs _ HC.out).mono ?_
  rintro e w1 ⟨g, rfl, S1⟩
  have HS1 := Lib.hid S1
  clear S1
  go_wp2_with fail
  refine (sOne_any w g 0 c bs 2 _ HC.out (by omega) (by omega) (by omega) HS1.out).mono ?_
  rintro e w2 ⟨b, k2, hk2, rfl, S2, G2⟩
  have HS2 := Lib.hid S2
  have HK2 := Lib.hid hk2
  clear S2 G2 hk2 HS1
  cases b
  · go_wp2_with fail
    refine (sFloat_any w g k2 c bs _ HC.out (by have := HK2.out; omega) HS2.out).mono ?_
    rintro e w3 ⟨r, X, k3, hk3, rfl, hr, S3, G3⟩
    have HB := Lib.hid S3.1
    clear S3 G3
    go_wp2_with fail
    go_ret
    exact ⟨r, X, rfl, hr, HB.out⟩
  · go_wp2_with fail
    refine (sPick_any w g k2 c bs 65536 _ HC.out (by have := HK2.out; omega) (by omega) (by omega) HS2.out).mono ?_
    rintro e w3 ⟨n, k3, hn0, hn1, hk3, rfl, S3, G3⟩
    have HS3 := Lib.hid S3; have HK3 := Lib.hid hk3
    have HN := Lib.hid (And.intro hn0 hn1)
    clear S3 G3 hk3 hn0 hn1
    go_wp2_with fail
    refine (sPick_any w g k3 c bs 65536 _ HC.out (by have := HK2.out; have := HK3.out; omega) (by omega) (by omega) HS3.out).mono ?_
    rintro e w4 ⟨m, k4, hm0, hm1, hk4, rfl, S4, G4⟩
    have hw := bn_word n m HN.out.1 HN.out.2 hm0 hm1
    have HX := Lib.hid (show 0 ≤ n * 65536 + m ∧ n * 65536 + m ≤ 4294967295 by have := HN.out; omega)
    have HB := Lib.hid S4.1
    clear S4 G4 hk4 hm0 hm1
    go_wp2_with (go_at_call 41; rw [hw]; refine (sFrom_any _ HX.out.1 HX.out.2 _).mono ?_; rintro e w' ⟨rfl, rfl⟩)
    go_ret
    exact ⟨_, _, rfl, bn_is HX.out.1 HX.out.2, HB.out⟩
end Go.Proofs.YtmalbjncjlhbaaaGreatDoor
