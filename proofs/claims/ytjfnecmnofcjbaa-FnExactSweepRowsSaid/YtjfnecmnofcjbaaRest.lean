/-
  What a potential leaves of the charges, of the program and of the model.
-/
import Derived.Test.YtjfnecmnofcjbaaLapD
import Derived.Test.YtjfnecmnofcjbaaBrd
import Derived.Test.YtjfnecmnofcjbaaRow1
namespace Go.Proofs.Ytjfnecmnofcjbaa
open Go.Fl Go.RowKit
open Go.Joins (ownsRow_le)
set_option linter.unusedSimpArgs false
set_option linter.unusedVariables false

/-- A level less what a potential is the potential of. -/
def restV (a b : Int) (xs : List Nat) (L : Nat → Nat) (j : Nat) : Nat := fop .sub .f32 (L j) (lapV a b xs j)

/-- A result as a row of its own. -/
theorem fres_row {B : Nat} {w : World} {v : Value} {n : Nat} {F : Nat → Nat} (h : FRes B w v n F) (hn : 0 < n) : ∃ g cap rs, v = .slice (some ⟨g, 0, none⟩) n cap ∧ rs.length = n ∧ EqOn rs F 0 n ∧ w.ownsRow B 37 1 (.slice (some ⟨g, 0, none⟩) n cap) n (rs.map (Value.float .f32)) := by
  obtain ⟨rs, hl, he, ho⟩ := h
  obtain ⟨g, cap, e, _, _⟩ := World.ownsRow.form ho (by omega)
  rw [hl] at e
  refine ⟨g, cap, rs, e, hl, Eqs.on he hl, ?_⟩
  rw [← e]
  have ho' : w.ownsRow B 37 1 v rs.length (rs.map (Value.float .f32)) := ho
  rw [hl] at ho'
  exact ho'
theorem row_at' {B g n cap : Nat} {w : World} {rs : List Nat} (h : w.ownsRow B 37 1 (.slice (some ⟨g, 0, none⟩) n cap) n (rs.map (Value.float .f32))) (hl : rs.length = n) {k : Nat} (hk : k < n) : w.cell? ⟨g, k, none⟩ = some (.float .f32 (rs.getD k 0)) := row_at h (by omega) hk

set_option maxHeartbeats 4000000 in
set_option maxRecDepth 100000 in
theorem unsolved_any (a b : Int) (u v : Value) (xs ys : List Nat) (w : World) (hu : FS .f32 w u xs) (hv : FS .f32 w v ys) (h1 : fieldOk a b xs.length = true) (hl : ys.length = xs.length) :
    Calls Try.prog 176 #[BV a b u v] w fun e w' => (∃ r, e = .returned r ∧ FRes w.heap.size w' r xs.length (restV a b xs (fun j => cn .f32 (ys.getD j 0)))) ∧ Below w.heap.size w w' := by
  have HU := Lib.hid hu; have HV := Lib.hid hv
  obtain ⟨a1, c1, rfl, hlc, hcm, hwf, hmem⟩ := hu
  obtain ⟨a2, c2, rfl, hlc2, hcm2, hwf2, hmem2⟩ := hv
  have HW := Lib.hid hwf2
  have HBX := Lib.hid (heap_alloc_new w (.cells #[.int .i64 a, .int .i64 b, .slice a1 xs.length c1, .slice a2 ys.length c2] 108))
  have hb0 := (Below.refl w.heap.size w).alloc (Nat.le_refl _) (.cells #[.int .i64 a, .int .i64 b, .slice a1 xs.length c1, .slice a2 ys.length c2] 108)
  have HSZ := Lib.hid (show w.heap.size < (w.alloc (.cells #[.int .i64 a, .int .i64 b, .slice a1 xs.length c1, .slice a2 ys.length c2] 108)).heap.size by simp)
  have H1 := Lib.hid h1
  have HA := Lib.hid (fieldOk_true h1)
  have HL := Lib.hid hl
  have hn256 : xs.length ≤ 256 := HA.out.2.2.2.2.2
  have hpos : 0 < xs.length := by
    have := HA.out; have h4 : 4 * 4 ≤ a * b := Int.mul_le_mul this.1 this.2.2.1 (by omega) (by omega); omega
  clear hlc hcm hmem hlc2 hcm2 hmem2 h1 hwf hwf2 hl
  go_enter Try.func176, Try.ntmps176
  go_wp2_with fail
  generalize w.alloc (.cells #[.int .i64 a, .int .i64 b, .slice a1 xs.length c1, .slice a2 ys.length c2] 108) = w1 at hb0 HBX HSZ ⊢
  have c0 := (four_cells HBX.out).1
  have c1' := (four_cells HBX.out).2.1
  have c2' := (four_cells HBX.out).2.2.1
  have HB0 := Lib.hid hb0
  clear hb0
  go_wp2_with fail
  refine (laplaceOf_any a b _ xs _ (HU.out.below HB0.out) H1.out).mono ?_; rintro e w2 ⟨⟨r, rfl, hr⟩, hb2⟩
  obtain ⟨g, cap, rs, rfl, hrl, hre, hro⟩ := fres_row hr hpos
  have HBY := Lib.hid ((hb2.block w.heap.size HSZ.out).trans HBX.out)
  have HRL := Lib.hid hrl; have HRE := Lib.hid hre; have HRO := Lib.hid hro; have HD0 := Lib.hid hb2
  clear hr hrl hre hro hb2 c0 c1' c2'
  go_wp2_with fail
  go_loopw [13] (fun i wr => ∃ (k : Nat) (es : List Nat), i = .int .i64 (k : Int) ∧ k ≤ xs.length ∧ Hid (es.length = xs.length) ∧ Hid (EqOn es (restV a b xs (fun j => cn .f32 (ys.getD j 0))) 0 k) ∧ Hid (EqOn es (lapV a b xs) k xs.length) ∧ Hid (wr.ownsRow w1.heap.size 37 1 (.slice (some ⟨g, 0, none⟩) xs.length cap) xs.length (es.map (Value.float .f32))) ∧ Hid (Below w1.heap.size w1 wr)) (fun i _ => xs.length - (intOf i).toNat)
  case atStart => exact ⟨0, rs, rfl, Nat.zero_le _, HRL, Lib.hid (EqOn.none _ _ _), HRE, HRO, HD0⟩
  case round =>
    clear HRL HRE HRO HD0
    obtain ⟨k, es, rfl, hk, HEL, HE1, HE2, HO, HD⟩ := hrel
    have hel := HEL.out
    by_cases hlt : k < xs.length
    · have HBZ := (HD.out.block w.heap.size HSZ.out).trans HBX.out
      have c3 := (four_cells HBZ).2.2.2.1
      have xk := row_at' HO.out hel hlt
      have hf := HO.out.frozenAt k
      have lk : k < ys.length := by have := HL.out; omega
      obtain ⟨b2, o2, e2, xl⟩ := FS.at HV.out (HB0.out.trans (HD.out.mono HB0.out.size)) lk
      obtain rfl := e2
      have ixl := FS.is HW.out k lk
      have ixk := HE2.out k (Nat.le_refl _) hlt
      have HF := Lib.hid (show restV a b xs (fun j => cn .f32 (ys.getD j 0)) k = fop .sub .f32 (cn .f32 (ys.getD k 0)) (lapV a b xs k) from rfl)
      generalize cn .f32 (ys.getD k 0) = X at ixl HF
      generalize ys.getD k 0 = x at xl ixl
      generalize lapV a b xs k = Y at ixk HF
      generalize es.getD k 0 = y at xk ixk
      have iK0 : (0 : Int) ≤ (k : Int) := Int.natCast_nonneg _
      have iK1 : (k : Int) < (xs.length : Int) := by omega
      have iK2 : (k : Int) < (ys.length : Int) := by omega
      clear HBZ
      go_wp2_with (first | (apply wpList_farith; rfl; rfl; rfl; rfl; (first | with_reducible assumption | exact Is.const rfl); (first | with_reducible assumption | exact Is.const rfl); intro r n hr))
      have ST := (show (wr.drewN n).ownsRow w1.heap.size 37 1 (.slice (some ⟨g, 0, none⟩) xs.length cap) xs.length (es.map (Value.float .f32)) from HO.out).stored k (.float .f32 r)
      rw [map_set] at ST
      have HS := Lib.hid ST.1
      have HB := Lib.hid ((below_drewN HD.out n).setCell (p := ⟨g, k, none⟩) (HO.out.lt g rfl).1 (.float .f32 r))
      have HR := Lib.hid (show Is .f32 r (restV a b xs (fun j => cn .f32 (ys.getD j 0)) k) by rw [HF.out]; exact hr)
      clear ST xk hf xl hr
      go_roundw
      case rel => exact ⟨k + 1, es.set k r, by go_num, by omega, Lib.hid (by rw [List.length_set]; exact hel), Lib.hid (EqOn.set_up HE1.out (by omega) HR.out), Lib.hid (EqOn.set_out (fun q h1 h2 => HE2.out q (by omega) h2) (by omega) (.inl (Nat.lt_succ_self k))), HS, HB⟩
      case measure => simp [intOf]; omega
    · have hk2 : k = xs.length := by omega
      have HK2 := Lib.hid hk2
      clear hk2
      go_wp2_with fail
      go_ret
      exact ⟨⟨_, rfl, es, hel, EqOn.eqs (by have := HE1.out; rw [HK2.out] at this; exact this) hel, by unfold FOwn; rw [hel]; exact ownsRow_le HO.out HB0.out.size⟩, HB0.out.trans (HD.out.mono HB0.out.size)⟩
end Go.Proofs.Ytjfnecmnofcjbaa
