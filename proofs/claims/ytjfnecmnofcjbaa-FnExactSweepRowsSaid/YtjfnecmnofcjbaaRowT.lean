/-
  A row of a field, by value.
-/
import Derived.Test.YtjfnecmnofcjbaaRing
import Derived.Test.YtjfnecmnofcjbaaBrd
import Derived.Laws.CopyOwn
namespace Go.Proofs.Ytjfnecmnofcjbaa
open Go.Fl Go.RowKit
open Go.Joins (ownsRow_le)
set_option linter.unusedSimpArgs false
set_option linter.unusedVariables false

/-- A row in an array of sixteen. -/
def rowL (xs : List Nat) (k n : Nat) : List Nat := (xs.drop k).take n ++ List.replicate (16 - n) 0
theorem rowL_len {xs : List Nat} {k n : Nat} (h : k + n ≤ xs.length) (hn : n ≤ 16) : (rowL xs k n).length = 16 := by simp [rowL]; omega
theorem rowL_at {xs : List Nat} {k n x : Nat} (h : k + n ≤ xs.length) (hx : x < n) : (rowL xs k n).getD x 0 = xs.getD (k + x) 0 := by
  unfold rowL
  rw [List.getD_eq_getElem?_getD, List.getD_eq_getElem?_getD, List.getElem?_append_left (by simp; omega), List.getElem?_take, if_pos hx, List.getElem?_drop]
theorem rowL_lt {xs : List Nat} {k n : Nat} (h : ∀ x ∈ xs, x < 2 ^ FloatKind.f32.format.width) : ∀ x ∈ rowL xs k n, x < 2 ^ FloatKind.f32.format.width := by
  intro x hx
  unfold rowL at hx
  rcases List.mem_append.1 hx with hx | hx
  · exact h x (List.mem_of_mem_drop (List.mem_of_mem_take hx))
  · rw [(List.mem_replicate.1 hx).2]; decide
theorem rowL_splice {xs : List Nat} {k n : Nat} (h : k + n ≤ xs.length) (hn : n ≤ 16) : splice (List.replicate 16 (Value.float .f32 0)) 0 (((xs.drop k).take n).map (Value.float .f32)) = (rowL xs k n).map (Value.float .f32) := by
  unfold splice rowL
  have e : (((xs.drop k).take n).map (Value.float .f32)).length = n := by simp; omega
  rw [e, List.take_zero, List.nil_append, Nat.zero_add, List.drop_replicate, List.map_append, List.map_replicate]
theorem info_row : (Try.prog.info? 123).map (·.size) = some 16 := by kernel_rfl
/-- The value of a row. -/
abbrev RV (rs : List Nat) : Value := .agg (rs.map (Value.float .f32)).toArray
abbrev Z16 : Obj := .cells #[.float .f32 0, .float .f32 0, .float .f32 0, .float .f32 0, .float .f32 0, .float .f32 0, .float .f32 0, .float .f32 0, .float .f32 0, .float .f32 0, .float .f32 0, .float .f32 0, .float .f32 0, .float .f32 0, .float .f32 0, .float .f32 0] 123
theorem z16_is : Z16 = .cells (List.replicate 16 (Value.float .f32 0)).toArray 123 := rfl

theorem slice16 (kd n : Nat) (hn : n ≤ 16) (W : World) : (Instr.sliceAt 123 (.pointer (some ⟨kd, 0, none⟩)) none (some (.int .i64 (n : Int))) none).run Try.prog W = .ok (.slice (some ⟨kd, 0, none⟩) n 16) W := by
  have hal : Try.prog.arrayLen 123 = 16 := by simp [Program.arrayLen, Try.underlying123]
  rw [run_sliceAt_array_h W 123 ⟨kd, 0, none⟩ (by simp [Program.arrayLen, Program.elem, Try.underlying123]) .i64 n (by omega) (by rw [hal]; omega), hal]
  go_simp
  done

set_option maxHeartbeats 1000000 in
set_option maxRecDepth 100000 in
theorem rowAt_any (a b : Int) (u : Value) (xs : List Nat) (y : Int) (k : Nat) (w : World) (hu : FS .f32 w u xs) (h1 : fieldOk a b xs.length = true) (hk : (k : Int) = a * (y % b)) (hy : -1 ≤ y ∧ y ≤ 16) :
    Calls Try.prog 108 #[GV a b, u, .int .i64 y] w fun e w' => e = .returned (RV (rowL xs k a.toNat)) ∧ Below w.heap.size w w' := by
  have HU := Lib.hid hu
  have HA := Lib.hid (fieldOk_true h1)
  obtain ⟨a1, c1, rfl, hlc, hcm, hwf, hmem⟩ := hu
  have hA := HA.out
  have hyb := emod_facts b y hA.2.2.1
  have hka : (k : Int) + a ≤ (xs.length : Int) := by
    have : a * (y % b + 1) ≤ a * b := Int.mul_le_mul_of_nonneg_left (by omega) (by omega)
    rw [Int.mul_add, Int.mul_one] at this
    omega
  have hJ : (k : Int) = (0 : Int) % a + a * (y % b) := by rw [hk]; simp
  obtain ⟨n, hn⟩ := Int.eq_ofNat_of_zero_le (show 0 ≤ a by omega)
  subst hn
  have HKN := Lib.hid (show k + n ≤ xs.length by omega)
  have HN16 := Lib.hid (show n ≤ 16 by omega)
  have HJ := Lib.hid hJ
  have HEV := Lib.hid (show ∀ (i : Nat), i < xs.length → ∃ b o, a1 = some ⟨b, o, none⟩ ∧ ∀ w', Below w.heap.size w w' → w'.cell? ⟨b, o + i, none⟩ = some (.float .f32 (xs.getD i 0)) from fun i hi => by
    obtain ⟨b, o, e, _⟩ := FS.at HU.out (Below.refl _ _) hi
    subst e
    exact ⟨b, o, rfl, FS.ever HU.out hi⟩)
  obtain ⟨bk, ok, e1, _⟩ := HEV.out 0 (by omega)
  subst e1
  obtain ⟨n1, n2, n3, n4, n5⟩ := three_new w (.cells #[.int .i64 (n : Int), .int .i64 b] 27) Z16 Z16
  have HG := Lib.hid n1; have HR := Lib.hid n2; have HT := Lib.hid n3; have HB := Lib.hid n4; have HS := Lib.hid n5
  have hc1 : ¬ (c1 : Int) = (k : Int) := by omega
  have hc2 : ¬ c1 = k := by omega
  have hkl : (k : Int) ≤ (xs.length : Int) := by omega
  have hk0 : (0 : Int) ≤ (k : Int) := Int.natCast_nonneg _
  have HWF := Lib.hid hwf; have HLC := Lib.hid hlc; have HCM := Lib.hid hcm; have HKA := Lib.hid hka
  clear hmem hlc hwf hJ hyb n1 n2 n3 n4 n5 h1 hk hA hcm hka hy
  go_enter Try.func108, Try.ntmps108
  have hsl := slice16 (w.heap.size + 1 + 1) n HN16.out
  go_upto_region 2 with fail
  generalize ((w.alloc (.cells #[.int .i64 (n : Int), .int .i64 b] 27)).alloc Z16).alloc Z16 = w1 at HG HR HT HB HS ⊢
  refine wp_region_noPanic ?_
  refine wp_region_held_drew (S := fun w' => w'.cell? ⟨w.heap.size, 0, none⟩ = some (.int .i64 (n : Int)) ∧ w'.cell? ⟨w.heap.size, 1, none⟩ = some (.int .i64 b)) (by kernel_rfl) ⟨(pair_cells (show w1.drew.heap[w.heap.size]? = _ from HG.out)).1, (pair_cells (show w1.drew.heap[w.heap.size]? = _ from HG.out)).2.1⟩ (fun hHeld => ?_)
  have hd := (Below.refl w1.heap.size w1).drew
  have HE0 := Lib.hid hd
  clear hd
  generalize w1.drew = v0 at HE0 hHeld ⊢
  ((refine wpAnyH_take (i := 0) (v := ?_) rfl (by kernel_rfl) (by kernel_rfl) (by kernel_rfl) (fun _ _ _ h => h) (Or.inl ⟨by rfl, ?_⟩) (by assumption) ?_; rotate_left; (· intro w hSw; (try dsimp only at hSw); go_simp; first | done | with_reducible rfl); (try simp only [List.getElem_toArray, List.getElem_cons_zero, List.getElem_cons_succ, Act.put, List.setIfInBounds_toArray, List.set_cons_zero, List.set_cons_succ])); (refine wpAnyH_take (i := 1) (v := ?_) rfl (by kernel_rfl) (by kernel_rfl) (by kernel_rfl) (fun _ _ _ h => h) (Or.inl ⟨by rfl, ?_⟩) (by assumption) ?_; rotate_left; (· intro w hSw; (try dsimp only at hSw); go_simp; first | done | with_reducible rfl); (try simp only [List.getElem_toArray, List.getElem_cons_zero, List.getElem_cons_succ, Act.put, List.setIfInBounds_toArray, List.set_cons_zero, List.set_cons_succ])))
  ((refine wpAnyH_take (i := 2) (v := ?_) rfl (by kernel_rfl) (by kernel_rfl) (by kernel_rfl) (fun _ _ _ h => h) (Or.inl ⟨by rfl, ?_⟩) (by assumption) ?_; rotate_left; (· intro w hSw; (try dsimp only at hSw); go_simp; first | done | with_reducible rfl); (try simp only [List.getElem_toArray, List.getElem_cons_zero, List.getElem_cons_succ, Act.put, List.setIfInBounds_toArray, List.set_cons_zero, List.set_cons_succ])))
  ((refine wpAnyH_take (i := 3) (v := ?_) rfl (by kernel_rfl) (by kernel_rfl) (by kernel_rfl) (fun _ _ _ h => h) (Or.inl ⟨by rfl, ?_⟩) (by assumption) ?_; rotate_left; (· intro w hSw; (try dsimp only at hSw); go_simp; first | done | with_reducible rfl); (try simp only [List.getElem_toArray, List.getElem_cons_zero, List.getElem_cons_succ, Act.put, List.setIfInBounds_toArray, List.set_cons_zero, List.set_cons_succ])); (refine wpAnyH_take (i := 4) (v := ?_) rfl (by kernel_rfl) (by kernel_rfl) (by kernel_rfl) (fun _ _ _ h => h) (Or.inl ⟨by rfl, ?_⟩) (by assumption) ?_; rotate_left; (· intro w hSw; (try dsimp only at hSw); go_simp; first | done | with_reducible rfl); (try simp only [List.getElem_toArray, List.getElem_cons_zero, List.getElem_cons_succ, Act.put, List.setIfInBounds_toArray, List.set_cons_zero, List.set_cons_succ])); (refine wpAnyH_take (i := 5) (v := ?_) rfl (by kernel_rfl) (by kernel_rfl) (by kernel_rfl) (fun _ _ _ h => h) (Or.inl ⟨by rfl, ?_⟩) (by assumption) ?_; rotate_left; (· intro w hSw; (try dsimp only at hSw); go_simp; first | done | with_reducible rfl); (try simp only [List.getElem_toArray, List.getElem_cons_zero, List.getElem_cons_succ, Act.put, List.setIfInBounds_toArray, List.set_cons_zero, List.set_cons_succ])))
  (refine wpAnyH_ready (rs := [6]) (by kernel_rfl) (by simp) ?_; refine AllReadyH.cons (i := 6) rfl (fun K hK => ?_) AllReadyH.nil)
  go_simp
  refine (indexOf_any (n : Int) b 0 y k _ ⟨HA.out.1, HA.out.2.1⟩ ⟨HA.out.2.2.1, HA.out.2.2.2.1⟩ HJ.out).mono ?_; rintro e v1 ⟨rfl, hb1⟩
  have HE1 := Lib.hid (HE0.out.trans (hb1.mono HE0.out.size))
  clear hb1
  go_wp2_with fail
  (refine hK.out _ _ (⟨(pair_cells ((HE1.out.block w.heap.size (Array.getElem?_eq_some_iff.1 HG.out).1).trans HG.out)).1, (pair_cells ((HE1.out.block w.heap.size (Array.getElem?_eq_some_iff.1 HG.out).1).trans HG.out)).2.1⟩) (fun hHeld => ?_); clear hK K; (try simp only [List.getElem_toArray, List.getElem_cons_zero, List.getElem_cons_succ, Act.put, List.setIfInBounds_toArray, List.set_cons_zero, List.set_cons_succ]))
  ((refine wpAnyH_take (i := 7) (v := ?_) rfl (by kernel_rfl) (by kernel_rfl) (by kernel_rfl) (fun _ _ _ h => h) (Or.inl ⟨by rfl, ?_⟩) (by assumption) ?_; rotate_left; (· intro w hSw; (try dsimp only at hSw); go_simp; first | done | with_reducible rfl); (try simp only [List.getElem_toArray, List.getElem_cons_zero, List.getElem_cons_succ, Act.put, List.setIfInBounds_toArray, List.set_cons_zero, List.set_cons_succ])))
  have HTB := Lib.hid ((HE1.out.block (w.heap.size + 1 + 1) (Array.getElem?_eq_some_iff.1 HT.out).1).trans HT.out)
  (refine wpAnyH_ready (rs := [8]) (by kernel_rfl) (by simp) ?_; refine AllReadyH.cons (i := 8) rfl (fun K hK => ?_) AllReadyH.nil)
  refine step_copy_splice rfl _ _ 24 24 rfl 37 Try.underlying24 info_size (some ⟨w.heap.size + 1 + 1, 0, none⟩) (some ⟨bk, ok + k, none⟩) n 16 (xs.length - k) (c1 - k) (by rfl) (by rfl) (w.heap.size + 1 + 1) 0 (List.replicate 16 (Value.float .f32 0)) 123 (HTB.out.trans (congrArg some z16_is)) (((xs.drop k).take n).map (Value.float .f32)) (by rw [List.length_map, List.length_take, List.length_drop]; exact Nat.min_comm _ _) (fun _ => ⟨rfl, ⟨bk, ok + k, none⟩, rfl, ?_⟩) (by simp; have := HN16.out; omega) (by intro v hv; obtain ⟨x, _, rfl⟩ := List.mem_map.1 hv; rfl) (w.heap.size + 1 + 1) w1 (HE1.out.mono (by have := HS.out; omega)) (Nat.le_refl _) ?_
  · refine news_of (w := v1) (b := bk) (off := ok + k) (xs := (xs.drop k).take n) (fun i hi => ?_)
    have hi' : i < n := by rw [List.length_take, List.length_drop] at hi; omega
    obtain ⟨b', o', e, hc⟩ := HEV.out (k + i) (by have := HKN.out; omega)
    cases e
    have := hc v1 (HB.out.trans (HE1.out.mono HB.out.size))
    rw [Nat.add_assoc, this]
    have e2 := rowL_at HKN.out hi'
    unfold rowL at e2
    rw [List.getD_eq_getElem?_getD, List.getElem?_append_left hi, ← List.getD_eq_getElem?_getD] at e2
    rw [e2]
  intro v2 HT2 hb2
  rw [rowL_splice HKN.out HN16.out] at HT2
  have HE2 := Lib.hid hb2
  have HR2 := Lib.hid ((hb2.block (w.heap.size + 1) (by omega)).trans HR.out)
  have HG2 := Lib.hid ((hb2.block w.heap.size (by omega)).trans HG.out)
  clear hb2
  (refine hK.out _ _ (⟨(pair_cells HG2.out).1, (pair_cells HG2.out).2.1⟩) (fun hHeld => ?_); clear hK K; (try simp only [List.getElem_toArray, List.getElem_cons_zero, List.getElem_cons_succ, Act.put, List.setIfInBounds_toArray, List.set_cons_zero, List.set_cons_succ]))
  (refine wpAnyH_done (by kernel_rfl) ?_ _; refine NoPanic.normal ?_)
  clear hHeld
  have HLEN := Lib.hid (show ((rowL xs k n).map (Value.float .f32)).toArray.size = 16 by simp [rowL_len HKN.out HN16.out])
  have HONE := Lib.hid (show ((rowL xs k n).map (Value.float .f32)).toArray.all (·.oneCell') = true by
    rw [Array.all_eq_true_iff_forall_mem]
    intro v hv
    have hv' : v ∈ (rowL xs k n).map (Value.float .f32) := by simpa using hv
    obtain ⟨x, _, rfl⟩ := List.mem_map.1 hv'
    rfl)
  have HINF := Lib.hid (show (Try.prog.info? 123).map (·.size) = some ((rowL xs k n).map (Value.float .f32)).toArray.size by rw [HLEN.out]; exact info_row)
  have HT3 := HT2.out
  have HR3 := HR2.out.trans (congrArg some z16_is)
  generalize hcs : ((rowL xs k n).map (Value.float .f32)).toArray = CS at HT3 HINF HONE HLEN ⊢
  have HCS := Lib.hid hcs
  clear hcs
  go_wp2_with (first
    | ((with_reducible show wpList _ _ _ (Oper.mk (some 17) _ _ _ _ _ :: _) _ _); refine wpList_load_row rfl 123 _ rfl (w.heap.size + 1 + 1) rfl 123 CS (0, 0) _ HT3 Try.underlying123 rfl HINF.out ?_)
    | ((with_reducible show wpList _ _ _ (Oper.mk none (Op.store _ _ _) _ _ _ _ :: _) _ _); refine wpList_store_row rfl 123 _ _ rfl (w.heap.size + 1) CS rfl rfl 123 _ HR3 HINF.out (by rw [HLEN.out]; rfl) HONE.out ?_))
  refine bodyPost_ret (v := .agg CS) ?_ rfl ?_
  · rw [results_cell_row rfl _ _ (w.heap.size + 1) 123 CS (0, 0) _ rfl (setRow_heap _ _ _ _ _ _ HR3) Try.underlying123 rfl HINF.out]
    done
  · exact ⟨by rw [Int.toNat_natCast, ← HCS.out], (HB.out.trans (HE2.out.mono (by omega))).trans ((below_setRow (Below.refl (w.heap.size + 1) v2) (Nat.le_refl _) CS).mono (Nat.le_succ _))⟩
end Go.Proofs.Ytjfnecmnofcjbaa
