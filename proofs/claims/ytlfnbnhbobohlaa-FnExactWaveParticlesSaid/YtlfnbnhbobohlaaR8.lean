/-
  What the laws of the second part draw: grids.
-/
import Derived.Test.YtlfnbnhbobohlaaSrc
import Derived.Test.YtlfnbnhbobohlaaGrid
import Derived.OneCell
namespace Go.Proofs.Ytlfnbnhbobohlaa
open Go.Fl Go.RowKit Go.Nl

set_option maxHeartbeats 1000000 in
set_option maxRecDepth 100000 in
theorem sDrawGrid_any (w0 : World) (g k : Nat) (c : Value) (bs : List Int) (w : World) (hc : NS .u8 w0 c bs) (hk : k < 1152921504606846976) (h : Src w0 g w c k) :
    Calls Try.prog 96 #[.pointer (some ⟨g, 0, none⟩)] w fun e w' => ∃ (a b : Int) (k' : Nat), 4 ≤ a ∧ a ≤ 7 ∧ 4 ≤ b ∧ b ≤ 6 ∧ k' ≤ k + 4 ∧ e = .returned (GV a b) ∧ Src w0 g w' c k' ∧ w.grownBy w' (some g) := by
  have HS := Lib.hid h
  have HC := Lib.hid hc
  have hgl := h.lt
  clear h hc
  go_enter Try.func96, Try.ntmps96
  go_wp2_with fail
  refine (sPick_any w0 g k c bs 4 _ HC.out (by omega) (by omega) (by omega) (HS.out.below ((Below.refl _ _).alloc (Nat.le_refl _) _))).mono ?_
  rintro e w2 ⟨x, k2, hx0, hx1, hk2, rfl, S2, G2⟩
  have G0 : w.grownBy w2 (some g) := grown_trans (grown_below ((Below.refl _ _).alloc (Nat.le_refl _) _)) G2
  have HB2 := G2.block w.heap.size (by simp) (by simp; omega)
  rw [heap_alloc_new] at HB2
  have HS2 := Lib.hid S2
  have HG0 := Lib.hid G0
  have HBB := Lib.hid HB2
  have hsz := G0.size
  have hsz2 := Lib.hid G2.size
  clear S2 G2 G0 HB2
  go_wp2_with fail
  refine (sPick_any w0 g k2 c bs 3 _ HC.out (by omega) (by omega) (by omega) (HS2.out.below ((Below.refl _ _).alloc (Nat.le_refl _) _))).mono ?_
  rintro e w3 ⟨y, k3, hy0, hy1, hk3, rfl, S3, G3⟩
  have hlt2 : w.heap.size < w2.heap.size := Nat.lt_of_lt_of_le (by simp) hsz2.out
  have G03 : w.grownBy w3 (some g) := grown_trans HG0.out (grown_trans (grown_below ((Below.refl _ _).alloc (Nat.le_refl _) _)) G3)
  have B3 := G3.block w2.heap.size (by simp) (by simp; omega)
  rw [heap_alloc_new] at B3
  have A3 := G3.block w.heap.size (by simp; omega) (by simp; omega)
  rw [heap_alloc_old _ _ (by omega), HBB.out] at A3
  have c0 : w3.cell? ⟨w2.heap.size, 0, none⟩ = some (.int .i64 (4 + x)) := by rw [Joins.cell_of_block B3]; rfl
  have c1 : w3.cell? ⟨w2.heap.size, 1, none⟩ = some (.int .i64 0) := by rw [Joins.cell_of_block B3]; rfl
  have a0 : w3.cell? ⟨w.heap.size, 0, none⟩ = some (.int .i64 0) := by rw [Joins.cell_of_block A3]; rfl
  have a1 : w3.cell? ⟨w.heap.size, 1, none⟩ = some (.int .i64 0) := by rw [Joins.cell_of_block A3]; rfl
  have f1 : w3.frozen? ⟨w2.heap.size, 1, none⟩ = false := by simp [World.frozen?, B3]
  have e0 : w3.frozen? ⟨w.heap.size, 0, none⟩ = false := by simp [World.frozen?, A3]
  have e1 : w3.frozen? ⟨w.heap.size, 1, none⟩ = false := by simp [World.frozen?, A3]
  have HS3 := Lib.hid S3
  have HG3 := Lib.hid G03
  have hn1 : w2.heap.size ≠ w.heap.size := by omega
  have hn2 : w.heap.size ≠ w2.heap.size := by omega
  clear S3 G3 B3 A3 G03 hlt2
  go_wp2_with fail
  refine bodyPost_ret (v := GV (4 + x) (4 + y)) (by simp [results, Try.results96, go_sem, a0, a1]) rfl ?_
  exact ⟨4 + x, 4 + y, k3, by omega, by omega, by omega, by omega, by omega, rfl, ((HS3.out.set (by simp; omega) _).set (by simpa using hgl) _).set (by simpa using hgl) _, grown_set (grown_set (grown_set HG3.out (by simp; omega) _) (by simp) _) (by simp) _⟩

set_option maxHeartbeats 1000000 in
set_option maxRecDepth 100000 in
/-- A valid grid. -/
theorem sR8Grid_any (c : Value) (bs : List Int) (w : World) (hc : NS .u8 w c bs) : Calls Try.prog 51 #[c] w fun e w' => ∃ a b : Int, 4 ≤ a ∧ a ≤ 7 ∧ 4 ≤ b ∧ b ≤ 6 ∧ e = .returned (GV a b) ∧ Below w.heap.size w w' := by
  have HC := Lib.hid hc
  clear hc
  go_enter Try.func51, Try.ntmps51
  go_wp2_with fail
  have HB0 := Lib.hid ((Below.refl w.heap.size w).alloc (Nat.le_refl _) (.cells #[.int .i64 0, .int .i64 0] 27))
  have HC1 := Lib.hid (HC.out.below HB0.out)
  refine (sFrom_src c bs _ HC1.out).mono ?_
  rintro e w2 ⟨g, rfl, S2⟩
  have HS2 := Lib.hid S2
  have A2 := S2.1.block w.heap.size (by simp)
  rw [heap_alloc_new] at A2
  have HA2 := Lib.hid A2
  have hg2 := S2.2.1
  have hgl := S2.lt
  have hb2 := Lib.hid S2.1
  clear S2 A2
  go_wp2_with fail
  refine (sDrawGrid_any _ g 0 c bs _ HC1.out (by omega) HS2.out).mono ?_
  rintro e w3 ⟨a, b, k3, ha, ha', hb, hb', _, rfl, S3, G3⟩
  have A3 := G3.block w.heap.size (by have := hb2.out.size; simp at this; omega) (by simp at hg2 ⊢; omega)
  rw [HA2.out] at A3
  have a0 : w3.cell? ⟨w.heap.size, 0, none⟩ = some (.int .i64 0) := by rw [Joins.cell_of_block A3]; rfl
  have a1 : w3.cell? ⟨w.heap.size, 1, none⟩ = some (.int .i64 0) := by rw [Joins.cell_of_block A3]; rfl
  have e0 : w3.frozen? ⟨w.heap.size, 0, none⟩ = false := by simp [World.frozen?, A3]
  have e1 : w3.frozen? ⟨w.heap.size, 1, none⟩ = false := by simp [World.frozen?, A3]
  have HB3 := Lib.hid (HB0.out.trans ⟨S3.1.os, S3.1.tape, S3.1.output, S3.1.size, fun i hi => S3.1.block i (by simp; omega)⟩)
  clear S3 G3 A3
  go_wp2_with fail
  refine bodyPost_ret (v := GV a b) (by simp [results, Try.results51, go_sem, a0, a1]) rfl ?_
  exact ⟨a, b, ha, ha', hb, hb', rfl, (HB3.out.setCell (by simp) _).setCell (by simp) _⟩
end Go.Proofs.Ytlfnbnhbobohlaa
