/-
  One complex number whose parts are small whole numbers, as FnProducts draws it.
-/
import Derived.Test.YtmalbjncjlhbaaaGreatDoorBn
import Derived.Test.YtmalbjncjlhbaaaGreatDoorCl
import Derived.Test.YtmalbjncjlhbaaaGreatDoorDw
namespace Go.Proofs.YtmalbjncjlhbaaaGreatDoor
open Go.Fl Go.RowKit Go.Nl
set_option linter.unusedSimpArgs false
set_option linter.unusedVariables false

/-- The word of a whole number. -/
def iW (n : Int) : Nat := floatOfInt .f32 n
theorem iW_dy {n : Int} (h : -200 ≤ n ∧ n ≤ 200) : Dy .f32 149 (iW n) n := dy_int (by omega)
def Wp (p : Nat × Nat) : Prop := ∃ n m : Int, (-200 ≤ n ∧ n ≤ 200) ∧ (-200 ≤ m ∧ m ≤ 200) ∧ p = (iW n, iW m)
theorem wh_wrap (x : Int) (h0 : 0 ≤ x) (h1 : x < 401) : wrap64 (x - 200) = x - 200 := by unfold wrap64; omega
set_option maxHeartbeats 4000000 in
set_option maxRecDepth 100000 in
theorem sWhole_any (c : Value) (bs : List Int) (w : World) (hc : NS .u8 w c bs) :
    Calls Tryz.prog 21 #[c, .int .i64 1, .int .i64 200] w fun e w' => ∃ (v : Value) (xs : List (Nat × Nat)), e = .returned v ∧ xs.length = 1 ∧ (∀ x ∈ xs, Wp x) ∧ COwn w.heap.size w' v xs ∧ Below w.heap.size w w' := by
  obtain ⟨i0, hi, hz0, hz1, hz2⟩ := info_parts C32info
  have HI := Lib.hid hi; have HZ0 := Lib.hid hz0; have HZ1 := Lib.hid hz1; have HZ2 := Lib.hid hz2
  have HC := Lib.hid hc
  clear hc hi hz0 hz1 hz2
  go_enter Tryz.func21, Tryz.ntmps21
  go_wp2_with fail
  refine (sFrom_src c bs _ HC.out).mono ?_
  rintro e w1 ⟨g, rfl, S1⟩
  have HS1 := Lib.hid S1
  have HG := Lib.hid S1.lt
  have HG0 := Lib.hid S1.2.1
  have hzw := S1.1.size
  clear S1
  go_wp2_with fail
  have HO1 := Lib.hid (World.ownsRow_made w1 #[] 0 (Nat.le_refl _) (Nat.zero_le _) rfl : (w1.alloc (.cells #[] 42)).ownsRow w1.heap.size 42 1 (.slice (some ⟨w1.heap.size, 0, none⟩) 0 0) 0 [])
  have HS2 := Lib.hid (HS1.out.below (below_lit w1 (.cells #[] 42)))
  have HZ := Lib.hid (show w1.heap.size ≤ (w1.alloc (.cells #[] 42)).heap.size by simp)
  have HZW := Lib.hid hzw
  generalize w1.alloc (.cells #[] 42) = w2 at HO1 HS2 HZ ⊢
  clear HS1 hzw
  generalize w1.heap.size = B at HO1 HG HZ HZW ⊢
  go_loopw [1, 8] (fun m v wr => ∃ (rs : List (Nat × Nat)) (M k' : Nat), m = .int .i64 (M : Int) ∧ rs.length + M = 1 ∧ k' + 4 * M ≤ 100 ∧ Hid (Src w g wr c k') ∧ Hid (∀ x ∈ rs, Wp x) ∧ (∃ gv cap, v = .slice (some ⟨gv, 0, none⟩) rs.length cap ∧ Hid (wr.ownsRow B 42 1 (.slice (some ⟨gv, 0, none⟩) rs.length cap) rs.length (rs.map cV))) ∧ B ≤ wr.heap.size) (fun m _ _ => (intOf m).toNat)
  case atStart => exact ⟨[], 1, 0, rfl, by simp, by omega, HS2, Lib.hid (fun x hx => (by cases hx)), ⟨_, _, rfl, HO1⟩, HZ.out⟩
  case round =>
    clear HS2 HO1 HZ
    obtain ⟨rs, M, k', rfl, hl, hk', HSR, HD, ⟨gv, cap, rfl, HO⟩, hz⟩ := hrel
    by_cases hM : 0 < M
    · have HM := Lib.hid hM
      go_wp2_with fail
      refine (sPick_any w g k' c bs 401 _ HC.out (by omega) (by omega) (by omega) HSR.out).mono ?_
      rintro e w3 ⟨n, k3, hn0, hn1, hk3, rfl, S3, G3⟩
      have hw3 := wh_wrap n hn0 hn1
      have HN := Lib.hid (show -200 ≤ n - 200 ∧ n - 200 ≤ 200 by omega)
      have HS3 := Lib.hid S3; have HG3 := Lib.hid G3; have HK3 := Lib.hid hk3
      clear S3 G3 hk3 hn0 hn1
      go_wp2_with fail
      refine (sPick_any w g k3 c bs 401 _ HC.out (by have := HK3.out; omega) (by omega) (by omega) HS3.out).mono ?_
      rintro e w4 ⟨m, k4, hm0, hm1, hk4, rfl, S4, G4⟩
      have hw4 := wh_wrap m hm0 hm1
      have HMM := Lib.hid (show -200 ≤ m - 200 ∧ m - 200 ≤ 200 by omega)
      have HS4 := Lib.hid S4; have HG4 := Lib.hid (grown_trans HG3.out G4); have HK4 := Lib.hid hk4
      have hgv := HO.out.lt gv rfl
      have hgne : gv ≠ g := by have := HG.out; omega
      have HV := Lib.hid (show Wp (iW (n - 200), iW (m - 200)) from ⟨_, _, HN.out, HMM.out, rfl⟩)
      clear S4 G4 hk4 hm0 hm1
      have e1 : floatOfInt .f32 (n - 200) = iW (n - 200) := rfl
      have e2 : floatOfInt .f32 (m - 200) = iW (m - 200) := rfl
      generalize iW (n - 200) = r at HV e1
      generalize iW (m - 200) = s at HV e2
      have HO4 := Lib.hid (World.ownsRow.alloc (World.ownsRow.kept HO.out HG4.out (.inr (by simp [Value.ownBlock]; exact hgne))) (.cells #[cV (r, s)] 42))
      have HS5 := Lib.hid (HS4.out.below (below_lit w4 (.cells #[cV (r, s)] 42)))
      have hz4 : B ≤ (w4.alloc (.cells #[cV (r, s)] 42)).heap.size := by have := HG4.out.size; simp; omega
      have hlen : rs.length ≤ 1000 := by omega
      clear hgv
      go_wp2_with (at_builtin; refine wpList_append_lies _ rfl _ _ _ rfl B 42 i0 _ 1 8 Tryz.underlying45 HI.out HZ0.out HZ1.out HZ2.out rfl (by omega) (.slice (some ⟨gv, 0, none⟩) rs.length cap) rs.length (rs.map cV) rfl HO4.out ⟨w4.heap.size, 0, none⟩ 1 1 [cV (r, s)] rfl rfl (World.news_of_block (cs := #[cV (r, s)]) (t := 42) (fr := (0, 0)) (heap_alloc_new _ _)) (by simp [Value.oneCell', cV]) (by omega) (by unfold maxLen; omega) (by omega) hz4 (w4.heap.size + 1) (by simp) ?_; intro g2 cap2 w5 hown5 hgrow hat hltg)
      have hgw : w.heap.size ≤ gv := by have h1 := (HO4.out.lt gv rfl).1; have h2 := HG.out; have h3 := HG0.out; omega
      have HSN := Lib.hid (HS5.out.kept hgrow (fun e => hgne (Option.some.inj e)) (HS5.out.1.trans ⟨hgrow.os, hgrow.tape, hgrow.output, hgrow.size, fun i hi => hgrow.block i (Nat.lt_of_lt_of_le hi HS5.out.1.size) (fun e => by have h4 : gv = i := Option.some.inj e.symm; omega)⟩))
      have HON := Lib.hid (show w5.ownsRow B 42 1 (.slice (some ⟨g2, 0, none⟩) (rs ++ [(r, s)]).length cap2) (rs ++ [(r, s)]).length ((rs ++ [(r, s)]).map cV) by simpa using hown5)
      have hzN : B ≤ w5.heap.size := Nat.le_trans hz4 hgrow.size
      clear hown5 hgrow hat HO4 HS5 hgne hgw hz4
      go_wp2_with fail
      go_roundw
      case rel => exact ⟨rs ++ [(r, s)], M - 1, k4, by have := HM.out; rw [Int.natCast_sub (by omega)]; go_num, by rw [List.length_append, List.length_singleton]; have := HM.out; omega, by have := HM.out; have := HK4.out; have := HK3.out; omega, HSN, Lib.hid (fun x hx => by
        rcases List.mem_append.1 hx with h | h
        · exact HD.out x h
        · rw [List.mem_singleton.1 h]; exact HV.out), ⟨g2, cap2, by rw [List.length_append, List.length_singleton], HON⟩, hzN⟩
      case measure => simp [intOf]; have := HM.out; omega
    · obtain rfl : M = 0 := by omega
      clear hM
      go_wp2
      go_ret
      exact ⟨_, rs, rfl, by omega, HD.out, Joins.ownsRow_le HO.out HZW.out, HSR.out.1⟩
end Go.Proofs.YtmalbjncjlhbaaaGreatDoor
