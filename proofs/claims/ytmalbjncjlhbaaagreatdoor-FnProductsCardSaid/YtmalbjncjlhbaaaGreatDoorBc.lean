/-
  What FnProducts draws: lists of any complex numbers (only that their parts are numbers is told).
-/
import Derived.Test.YtmalbjncjlhbaaaGreatDoorBn
import Derived.Test.YtmalbjncjlhbaaaGreatDoorCl
namespace Go.Proofs.YtmalbjncjlhbaaaGreatDoor
open Go.Fl Go.RowKit Go.Nl
set_option linter.unusedSimpArgs false
set_option linter.unusedVariables false

theorem bc_tab : ((List.range 65).all fun n => isCanon .f32 (floatOfInt .f32 ((n : Int) - 32))) = true := by decide +kernel
theorem bc_int (x : Int) (h0 : 0 ≤ x) (h1 : x < 65) : Is .f32 (floatOfInt .f32 (x - 32)) (floatOfInt .f32 (x - 32)) := by
  have h := List.all_eq_true.1 bc_tab x.toNat (List.mem_range.2 (by omega))
  simp only [show ((x.toNat : Nat) : Int) = x by omega] at h
  exact Is.const h
theorem bc_wrap (x : Int) (h0 : 0 ≤ x) (h1 : x < 65) : wrap64 (x - 32) = x - 32 := by unfold wrap64; omega
theorem c32_snoc {rs : List (Nat × Nat)} {r s : Nat} (h : c32 rs) (hr : r < 2 ^ FloatKind.f32.format.width) (hs : s < 2 ^ FloatKind.f32.format.width) : c32 (rs ++ [(r, s)]) := by
  intro x hx
  rcases List.mem_append.1 hx with hx | hx
  · exact h x hx
  · rw [List.mem_singleton.1 hx]; exact ⟨hr, hs⟩

set_option maxHeartbeats 1000000 in
set_option maxRecDepth 100000 in
theorem sFine_any (w0 : World) (g k : Nat) (c : Value) (bs : List Int) (w : World) (hc : NS .u8 w0 c bs) (hk : k < 1000000000) (h : Src w0 g w c k) :
    Calls Tryz.prog 70 #[.pointer (some ⟨g, 0, none⟩)] w fun e w' => ∃ (r s X Y k' : Nat), k' ≤ k + 24 ∧ e = .returned (.complex .f32 r s) ∧ Is .f32 r X ∧ Is .f32 s Y ∧ Src w0 g w' c k' ∧ w.grownBy w' (some g) := by
  have HS := Lib.hid h
  have HC := Lib.hid hc
  clear h hc
  go_enter Tryz.func70, Tryz.ntmps70
  go_wp2_with fail
  refine (sPick_any w0 g k c bs 65 _ HC.out (by omega) (by omega) (by omega) HS.out).mono ?_
  rintro e w1 ⟨n, k1, hn0, hn1, hk1, rfl, S1, G1⟩
  have hw := bc_wrap n hn0 hn1
  have i1 := bc_int n hn0 hn1
  have HK := Lib.hid hk1
  have HS1 := Lib.hid S1; have HG1 := Lib.hid G1
  clear S1 G1 hn0 hn1 hk1
  go_wp2_with ((apply wpList_farith; rfl; rfl; rfl; rfl; (first | with_reducible assumption | exact Is.const rfl); (first | with_reducible assumption | exact Is.const rfl); intro r n hr))
  have HR := Lib.hid (by assumption : Is .f32 r _)
  clear hw i1 hr
  have HS2 := Lib.hid (fun d => HS1.out.below (below_drewN (Below.refl w1.heap.size w1) d))
  refine (sPick_any w0 g k1 c bs 65 _ HC.out (by have := HK.out; omega) (by omega) (by omega) (HS2.out _)).mono ?_
  rintro e w2 ⟨m, k2, hm0, hm1, hk2, rfl, S2, G2⟩
  have hw := bc_wrap m hm0 hm1
  have i1 := bc_int m hm0 hm1
  have HS3 := Lib.hid S2; have HG3 := Lib.hid (grown_trans HG1.out (grown_trans (grown_below (below_drewN (Below.refl w1.heap.size w1) _)) G2)); have HK2 := Lib.hid hk2
  clear S2 G2 hm0 hm1 hk2
  go_wp2_with ((apply wpList_farith; rfl; rfl; rfl; rfl; (first | with_reducible assumption | exact Is.const rfl); (first | with_reducible assumption | exact Is.const rfl); intro r n hr))
  go_ret
  exact ⟨_, _, _, _, k2, by have := HK.out; have := HK2.out; omega, rfl, HR.out, by assumption, HS3.out.below (below_drewN (Below.refl _ _) _), grown_trans HG3.out (grown_below (below_drewN (Below.refl _ _) _))⟩

set_option maxHeartbeats 1000000 in
set_option maxRecDepth 100000 in
theorem sCDraw_any (w0 : World) (g k : Nat) (c : Value) (bs : List Int) (w : World) (hc : NS .u8 w0 c bs) (hk : k < 1000000000) (h : Src w0 g w c k) :
    Calls Tryz.prog 69 #[.pointer (some ⟨g, 0, none⟩)] w fun e w' => ∃ (r s X Y k' : Nat), k' ≤ k + 24 ∧ e = .returned (.complex .f32 r s) ∧ Is .f32 r X ∧ Is .f32 s Y ∧ Src w0 g w' c k' ∧ w.grownBy w' (some g) := by
  have HS := Lib.hid h
  have HC := Lib.hid hc
  clear h hc
  go_enter Tryz.func69, Tryz.ntmps69
  go_wp2_with fail
  refine (sFloat_any w0 g k c bs _ HC.out (by omega) HS.out).mono ?_
  rintro e w1 ⟨r, X, k1, hk1, rfl, hr, S1, G1⟩
  have HS1 := Lib.hid S1; have HG1 := Lib.hid G1; have HK := Lib.hid hk1; have HR := Lib.hid hr
  clear S1 G1 hk1 hr
  go_wp2_with fail
  refine (sFloat_any w0 g k1 c bs _ HC.out (by have := HK.out; omega) HS1.out).mono ?_
  rintro e w2 ⟨s, Y, k2, hk2, rfl, hs, S2, G2⟩
  have HS2 := Lib.hid S2; have HG2 := Lib.hid (grown_trans HG1.out G2); have HK2 := Lib.hid hk2; have HRS := Lib.hid hs
  clear S2 G2 hk2 hs
  go_wp2_with fail
  go_ret
  exact ⟨r, s, X, Y, k2, by have := HK.out; have := HK2.out; omega, rfl, HR.out, HRS.out, HS2.out, HG2.out⟩

set_option maxHeartbeats 4000000 in
set_option maxRecDepth 100000 in
theorem sComplexes_any (w0 : World) (g k : Nat) (c : Value) (bs : List Int) (n : Nat) (w : World) (hc : NS .u8 w0 c bs) (hn : n ≤ 1000) (hk : k < 1000000) (h : Src w0 g w c k) :
    Calls Tryz.prog 64 #[.pointer (some ⟨g, 0, none⟩), .int .i64 (n : Int)] w fun e w' => ∃ (v : Value) (xs : List (Nat × Nat)), e = .returned v ∧ xs.length = n ∧ c32 xs ∧ COwn w.heap.size w' v xs ∧ Below w0.heap.size w0 w' := by
  obtain ⟨i0, hi, hz0, hz1, hz2⟩ := info_parts C32info
  have HI := Lib.hid hi; have HZ0 := Lib.hid hz0; have HZ1 := Lib.hid hz1; have HZ2 := Lib.hid hz2
  have HS := Lib.hid h
  have HC := Lib.hid hc
  have HG := Lib.hid h.lt
  have HG0 := Lib.hid h.2.1
  clear h hc hi hz0 hz1 hz2
  go_enter Tryz.func64, Tryz.ntmps64
  go_wp2_with fail
  have HO1 := Lib.hid (World.ownsRow_made w #[] 0 (Nat.le_refl _) (Nat.zero_le _) rfl : (w.alloc (.cells #[] 42)).ownsRow w.heap.size 42 1 (.slice (some ⟨w.heap.size, 0, none⟩) 0 0) 0 [])
  have HS1 := Lib.hid (HS.out.below (below_lit w (.cells #[] 42)))
  have HZ := Lib.hid (show w.heap.size ≤ (w.alloc (.cells #[] 42)).heap.size by simp)
  generalize w.alloc (.cells #[] 42) = w1 at HO1 HS1 HZ ⊢
  clear HS
  generalize hB : w.heap.size = B at HO1 HG HZ ⊢
  have HBE := Lib.hid hB
  clear hB
  refine (sOne_any w0 g k c bs 5 _ HC.out (by omega) (by omega) (by omega) HS1.out).mono ?_
  rintro e w2 ⟨st, k1, hk1, rfl, S2, G2⟩
  have HO2 := Lib.hid (World.ownsRow.kept HO1.out G2 (.inr (by have := HG.out; simp [Value.ownBlock]; omega)))
  have HS2 := Lib.hid S2
  have HZ2w := Lib.hid (Nat.le_trans HZ.out G2.size)
  clear S2 G2 HO1 HS1 HZ
  go_wp2_with fail
  go_loopw [1, 5] (fun m v wr => ∃ (rs : List (Nat × Nat)) (M k' : Nat), m = .int .i64 (M : Int) ∧ rs.length + M = n ∧ k' + 24 * M ≤ k + 2 + 24 * n ∧ Hid (Src w0 g wr c k') ∧ Hid (c32 rs) ∧ (∃ gv cap, v = .slice (some ⟨gv, 0, none⟩) rs.length cap ∧ Hid (wr.ownsRow B 42 1 (.slice (some ⟨gv, 0, none⟩) rs.length cap) rs.length (rs.map cV))) ∧ B ≤ wr.heap.size) (fun m _ _ => (intOf m).toNat)
  case atStart => exact ⟨[], n, k1, rfl, by simp, by omega, HS2, Lib.hid (fun x hx => (by cases hx)), ⟨_, _, rfl, HO2⟩, HZ2w.out⟩
  case round =>
    clear HS2 HO2 HZ2w
    obtain ⟨rs, M, k', rfl, hl, hk', HSR, HD, ⟨gv, cap, rfl, HO⟩, hz⟩ := hrel
    by_cases hM : 0 < M
    · have HM := Lib.hid hM
      cases st
      all_goals
        go_wp2_with fail
        first
          | refine (sCDraw_any w0 g k' c bs _ HC.out (by omega) HSR.out).mono ?_
          | refine (sFine_any w0 g k' c bs _ HC.out (by omega) HSR.out).mono ?_
        rintro e w4 ⟨r, s, X, Y, k4, hk4, rfl, hr, hs, S4, G4⟩
        have hgv := HO.out.lt gv rfl
        have hgne : gv ≠ g := by have := HG.out; omega
        have HO4 := Lib.hid (World.ownsRow.alloc (World.ownsRow.kept HO.out G4 (.inr (by simp [Value.ownBlock]; exact hgne))) (.cells #[cV (r, s)] 42))
        have HS4 := Lib.hid (S4.below (below_lit w4 (.cells #[cV (r, s)] 42)))
        have HR := Lib.hid (And.intro hr.lt hs.lt)
        have hz4 : B ≤ (w4.alloc (.cells #[cV (r, s)] 42)).heap.size := by have := G4.size; simp; omega
        have HK4 := Lib.hid hk4
        have hlen : rs.length ≤ 1000 := by omega
        clear S4 G4 hr hs hk4 hgv
        go_wp2_with (at_builtin; refine wpList_append_lies _ rfl _ _ _ rfl B 42 i0 _ 1 8 Tryz.underlying45 HI.out HZ0.out HZ1.out HZ2.out rfl (by omega) (.slice (some ⟨gv, 0, none⟩) rs.length cap) rs.length (rs.map cV) rfl HO4.out ⟨w4.heap.size, 0, none⟩ 1 1 [cV (r, s)] rfl rfl (World.news_of_block (cs := #[cV (r, s)]) (t := 42) (fr := (0, 0)) (heap_alloc_new _ _)) (by simp [Value.oneCell', cV]) (by omega) (by unfold maxLen; omega) (by omega) hz4 (w4.heap.size + 1) (by simp) ?_; intro g2 cap2 w5 hown5 hgrow hat hltg)
        have hgw : w0.heap.size ≤ gv := by have h1 := (HO4.out.lt gv rfl).1; have h2 := HG.out; have h3 := HG0.out; omega
        have HSN := Lib.hid (HS4.out.kept hgrow (fun e => hgne (Option.some.inj e)) (HS4.out.1.trans ⟨hgrow.os, hgrow.tape, hgrow.output, hgrow.size, fun i hi => hgrow.block i (Nat.lt_of_lt_of_le hi HS4.out.1.size) (fun e => by have h4 : gv = i := Option.some.inj e.symm; omega)⟩))
        have HON := Lib.hid (show w5.ownsRow B 42 1 (.slice (some ⟨g2, 0, none⟩) (rs ++ [(r, s)]).length cap2) (rs ++ [(r, s)]).length ((rs ++ [(r, s)]).map cV) by simpa using hown5)
        have hzN : B ≤ w5.heap.size := Nat.le_trans hz4 hgrow.size
        clear hown5 hgrow hat HO4 HS4 hgne hgw hz4
        go_wp2_with fail
        go_roundw
        case rel => exact ⟨rs ++ [(r, s)], M - 1, k4, by have := HM.out; rw [Int.natCast_sub (by omega)]; go_num, by rw [List.length_append, List.length_singleton]; have := HM.out; omega, by have := HM.out; have := HK4.out; omega, HSN, Lib.hid (c32_snoc HD.out HR.out.1 HR.out.2), ⟨g2, cap2, by rw [List.length_append, List.length_singleton], HON⟩, hzN⟩
        case measure => simp [intOf]; have := HM.out; omega
    · obtain rfl : M = 0 := by omega
      clear hM
      go_wp2
      go_ret
      exact ⟨_, rs, rfl, by omega, HD.out, by rw [HBE.out]; exact HO.out, HSR.out.1⟩



set_option maxHeartbeats 1000000 in
set_option maxRecDepth 100000 in
/-- A list of any complex numbers, of the call's own. -/
theorem sB10Any_any (c : Value) (bs : List Int) (n : Nat) (w : World) (hc : NS .u8 w c bs) (hn : n ≤ 1000) :
    Calls Tryz.prog 29 #[c, .int .i64 (n : Int)] w fun e w' => ∃ (v : Value) (xs : List (Nat × Nat)), e = .returned v ∧ xs.length = n ∧ c32 xs ∧ COwn w.heap.size w' v xs ∧ Below w.heap.size w w' := by
  have HC := Lib.hid hc
  clear hc
  go_enter Tryz.func29, Tryz.ntmps29
  go_wp2_with fail
  refine (sFrom_src c bs _ HC.out).mono ?_
  rintro e w1 ⟨g, rfl, S1⟩
  have HS1 := Lib.hid S1
  have hz1 := S1.1.size
  clear S1
  go_wp2_with fail
  refine (sComplexes_any w g 0 c bs n _ HC.out hn (by omega) HS1.out).mono ?_
  rintro e w2 ⟨v, xs, rfl, hl, hx, ho, hb⟩
  have HL := Lib.hid hl; have HX := Lib.hid hx; have HO := Lib.hid (Joins.ownsRow_le ho hz1); have HB := Lib.hid hb
  clear hl hx ho hb
  go_wp2_with fail
  go_ret
  exact ⟨v, xs, rfl, HL.out, HX.out, HO.out, HB.out⟩

set_option maxHeartbeats 1000000 in
set_option maxRecDepth 100000 in
/-- Any complex number. -/
theorem sB10Complex_any (c : Value) (bs : List Int) (w : World) (hc : NS .u8 w c bs) :
    Calls Tryz.prog 32 #[c] w fun e w' => ∃ (r s X Y : Nat), e = .returned (.complex .f32 r s) ∧ Is .f32 r X ∧ Is .f32 s Y ∧ Below w.heap.size w w' := by
  have HC := Lib.hid hc
  clear hc
  go_enter Tryz.func32, Tryz.ntmps32
  go_wp2_with fail
  refine (sFrom_src c bs _ HC.out).mono ?_
  rintro e w1 ⟨g, rfl, S1⟩
  have HS1 := Lib.hid S1
  clear S1
  go_wp2_with fail
  refine (sOne_any w g 0 c bs 4 _ HC.out (by omega) (by omega) (by omega) HS1.out).mono ?_
  rintro e w2 ⟨b, k2, hk2, rfl, S2, G2⟩
  have HS2 := Lib.hid S2
  have HK2 := Lib.hid hk2
  clear S2 G2 hk2 HS1
  cases b
  · go_wp2_with fail
    refine (sFine_any w g k2 c bs _ HC.out (by have := HK2.out; omega) HS2.out).mono ?_
    rintro e w3 ⟨r, s, X, Y, k3, hk3, rfl, hr, hs, S3, G3⟩
    have HB := Lib.hid S3.1
    clear S3 G3
    go_wp2_with fail
    go_ret
    exact ⟨r, s, X, Y, rfl, hr, hs, HB.out⟩
  · go_wp2_with fail
    refine (sCDraw_any w g k2 c bs _ HC.out (by have := HK2.out; omega) HS2.out).mono ?_
    rintro e w3 ⟨r, s, X, Y, k3, hk3, rfl, hr, hs, S3, G3⟩
    have HB := Lib.hid S3.1
    clear S3 G3
    go_wp2_with fail
    go_ret
    exact ⟨r, s, X, Y, rfl, hr, hs, HB.out⟩
end Go.Proofs.YtmalbjncjlhbaaaGreatDoor
