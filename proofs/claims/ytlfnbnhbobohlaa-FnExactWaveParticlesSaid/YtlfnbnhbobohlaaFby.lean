/-
  Fields that are told point by point: the program's fieldBy, whatever function tells them.
-/
import Derived.Test.YtlfnbnhbobohlaaShift
import Derived.Test.YtlfnbnhbobohlaaMean
import Derived.Shelf.Abstract
namespace Go.Proofs.Ytlfnbnhbobohlaa
open Go.Fl Go.RowKit
open Go.Joins (ownsRow_le)
set_option linter.unusedSimpArgs false
set_option linter.unusedVariables false

theorem grown_cell (w : World) (p : Addr) (v : Value) : w.grownBy (w.setCell p v) (some p.block) :=
  have b := (Below.refl 0 w).setCell (p := p) (Nat.zero_le _) v
  ⟨b.os, b.tape, b.output, b.size, fun k _ hr => Below.heap_setCell w p v k (fun e => hr (by rw [e]))⟩
theorem own_cell {B : Nat} {w : World} {u : Value} {xs : List Value} {n : Nat} {p : Addr} (h : w.ownsRow B 46 1 u n xs) (hp : p.block < B) (v : Value) : (w.setCell p v).ownsRow B 46 1 u n xs :=
  ownsRow_setCell_below h hp v

theorem fres_cell {B : Nat} {w : World} {v : Value} {n : Nat} {F : Nat → Nat} {p : Addr} (h : FRes B w v n F) (hp : p.block < B) (u : Value) : FRes B (w.setCell p u) v n F := by
  obtain ⟨rs, h1, h2, h3⟩ := h
  exact ⟨rs, h1, h2, own_cell h3 hp u⟩
theorem fres_below {B : Nat} {w w' : World} {v : Value} {n : Nat} {F : Nat → Nat} (h : FRes B w v n F) (hb : Below w.heap.size w w') : FRes B w' v n F := by
  obtain ⟨rs, h1, h2, h3⟩ := h
  exact ⟨rs, h1, h2, fown_below h3 hb⟩
theorem cell_still {w : World} {p : Addr} {v : Value} (h : w.cell? p = some v) (o : Obj) : (w.alloc o).cell? p = some v := by
  have hp : p.block < w.heap.size := block_lt_of_cell h
  rw [((Below.refl w.heap.size w).alloc (Nat.le_refl _) o).cell hp]
  exact h
theorem fres_alloc {B : Nat} {w : World} {v : Value} {n : Nat} {F : Nat → Nat} (h : FRes B w v n F) (o : Obj) : FRes B (w.alloc o) v n F :=
  fres_below h ((Below.refl _ _).alloc (Nat.le_refl _) o)

/-- The pointer leads to the value v. -/
def BX (w : World) (p v : Value) : Prop := ∃ k, p = .pointer (some ⟨k, 0, none⟩) ∧ k < w.heap.size ∧ w.cell? ⟨k, 0, none⟩ = some v
/-- Two blocks of two integers: their cells, whatever has turned above. -/
theorem pair_cells {w : World} {k : Nat} {u v : Value} {t : TypeId} (h : w.heap[k]? = some (.cells #[u, v] t)) : w.cell? ⟨k, 0, none⟩ = some u ∧ w.cell? ⟨k, 1, none⟩ = some v ∧ w.frozen? ⟨k, 0, none⟩ = false ∧ w.frozen? ⟨k, 1, none⟩ = false :=
  ⟨by rw [Go.Joins.cell_of_block h]; rfl, by rw [Go.Joins.cell_of_block h]; rfl, by simp [World.frozen?, h], by simp [World.frozen?, h]⟩
theorem two_new (w : World) (o1 o2 : Obj) : ((w.alloc o1).alloc o2).heap[w.heap.size]? = some o1 ∧ ((w.alloc o1).alloc o2).heap[w.heap.size + 1]? = some o2 ∧ Below w.heap.size w ((w.alloc o1).alloc o2) ∧ ((w.alloc o1).alloc o2).heap.size = w.heap.size + 2 := by
  refine ⟨?_, ?_, ((Below.refl _ _).alloc (Nat.le_refl _) _).alloc (by simp) _, by simp⟩
  · rw [heap_alloc_old _ _ (by simp), heap_alloc_new]
  · have := heap_alloc_new (w.alloc o1) o2
    rwa [World.size_alloc] at this
theorem three_new (w : World) (o1 o2 o3 : Obj) : (((w.alloc o1).alloc o2).alloc o3).heap[w.heap.size]? = some o1 ∧ (((w.alloc o1).alloc o2).alloc o3).heap[w.heap.size + 1]? = some o2 ∧ (((w.alloc o1).alloc o2).alloc o3).heap[w.heap.size + 1 + 1]? = some o3 ∧ Below w.heap.size w (((w.alloc o1).alloc o2).alloc o3) ∧ (((w.alloc o1).alloc o2).alloc o3).heap.size = w.heap.size + 3 := by
  obtain ⟨h1, h2, h3, h4⟩ := two_new w o1 o2
  refine ⟨?_, ?_, ?_, h3.alloc (by omega) _, by simp⟩
  · rw [heap_alloc_old _ _ (by omega), h1]
  · rw [heap_alloc_old _ _ (by omega), h2]
  · have := heap_alloc_new ((w.alloc o1).alloc o2) o3
    rwa [h4] at this
theorem four_new (w : World) (o1 o2 o3 o4 : Obj) : ((((w.alloc o1).alloc o2).alloc o3).alloc o4).heap[w.heap.size]? = some o1 ∧ ((((w.alloc o1).alloc o2).alloc o3).alloc o4).heap[w.heap.size + 1]? = some o2 ∧ ((((w.alloc o1).alloc o2).alloc o3).alloc o4).heap[w.heap.size + 1 + 1]? = some o3 ∧ ((((w.alloc o1).alloc o2).alloc o3).alloc o4).heap[w.heap.size + 1 + 1 + 1]? = some o4 ∧ Below w.heap.size w ((((w.alloc o1).alloc o2).alloc o3).alloc o4) ∧ ((((w.alloc o1).alloc o2).alloc o3).alloc o4).heap.size = w.heap.size + 4 := by
  obtain ⟨h1, h2, h3, h4, h5⟩ := three_new w o1 o2 o3
  refine ⟨?_, ?_, ?_, ?_, h4.alloc (by omega) _, by simp⟩
  · rw [heap_alloc_old _ _ (by omega), h1]
  · rw [heap_alloc_old _ _ (by omega), h2]
  · rw [heap_alloc_old _ _ (by omega), h3]
  · have := heap_alloc_new (((w.alloc o1).alloc o2).alloc o3) o4
    rwa [h5] at this
theorem gp_of {w : World} {k : Nat} {a b : Int} {t : TypeId} (h : w.heap[k]? = some (.cells #[.int .i64 a, .int .i64 b] t)) : GP w (.pointer (some ⟨k, 0, none⟩)) a b :=
  ⟨k, rfl, (Array.getElem?_eq_some_iff.1 h).1, (pair_cells h).1, (pair_cells h).2.1⟩
theorem bx_of {w : World} {k : Nat} {v : Value} {t : TypeId} (h : w.heap[k]? = some (.cells #[v] t)) : BX w (.pointer (some ⟨k, 0, none⟩)) v :=
  ⟨k, rfl, (Array.getElem?_eq_some_iff.1 h).1, by rw [Go.Joins.cell_of_block h]; rfl⟩

theorem BX.below {w w' : World} {p v : Value} (h : BX w p v) (hb : Below w.heap.size w w') : BX w' p v := by
  obtain ⟨k, hp, hk, hc⟩ := h
  exact ⟨k, hp, Nat.lt_of_lt_of_le hk hb.size, by rw [hb.cell (p := ⟨k, 0, none⟩) hk]; exact hc⟩
theorem BX.cell {w : World} {k : Nat} {v : Value} (h : BX w (.pointer (some ⟨k, 0, none⟩)) v) : w.cell? ⟨k, 0, none⟩ = some v := by
  obtain ⟨k', hp, _, hc⟩ := h
  simp only [Value.pointer.injEq, Option.some.injEq, Addr.mk.injEq, and_true] at hp
  subst hp
  exact hc
theorem bx_new (w : World) (v : Value) (t : TypeId) : BX (w.alloc (.cells #[v] t)) (.pointer (some ⟨w.heap.size, 0, none⟩)) v :=
  ⟨w.heap.size, rfl, by simp, by rw [Go.Joins.cell_of_block (heap_alloc_new w _)]; rfl⟩

theorem grid_points {a b : Int} {n : Nat} (hg : gridOk a b = true) (hn : (n : Int) = a * b) : IntKind.i64.wrap (a * b) = (n : Int) ∧ n ≤ 256 := by
  obtain ⟨h3, h4, h5, h6⟩ := gridOk_true hg
  have hm1 : a * b ≤ 16 * 16 := Int.mul_le_mul h4 h6 (by omega) (by omega)
  exact ⟨by rw [wrap_i64, ← hn]; exact wrap64_of (by omega) (by omega), by omega⟩

/-- What a function tells of the points of a grid. -/
def Tells (w : World) (f : FuncId) (c1 c2 : Value) (a b : Int) (F : Nat → Nat) : Prop :=
  (∀ args w, (callFunc f args).run Try.prog w = .ok (.enter f args) w) ∧ ∀ (x y j : Nat) (wr : World), (x : Int) < a → (y : Int) < b → (j : Int) = a * y + x → Below w.heap.size w wr →
    Calls Try.prog f #[.int .i64 x, .int .i64 y, c1, c2] wr fun e w' => (∃ r, e = .returned (.float .f32 r) ∧ Is .f32 r (F j)) ∧ Below wr.heap.size wr w'

set_option maxHeartbeats 2000000 in
set_option maxRecDepth 100000 in
theorem fieldBy_any (a b : Int) (n : Nat) (f : FuncId) (c1 c2 : Value) (F : Nat → Nat) (w : World) (hg : gridOk a b = true) (hn : (n : Int) = a * b) (hf : Tells w f c1 c2 a b F) :
    Calls Try.prog 82 #[GV a b, .func (.func f) #[] #[c1, c2]] w fun e w' => (∃ r, e = .returned r ∧ FRes w.heap.size w' r n F) ∧ Below w.heap.size w w' := by
  obtain ⟨i0, hi, hz0, hz1, hz2⟩ := info_parts F32info
  have hb0 := (Below.refl w.heap.size w).alloc (Nat.le_refl _) (.cells #[.int .i64 a, .int .i64 b] 27)
  obtain ⟨hpt, hn256⟩ := grid_points hg hn
  have hb4 : i0.bytes * n ≤ 281474976710656 := by rw [hz2]; omega
  have hml : n ≤ maxLen := by unfold maxLen; omega
  have HI := Lib.hid hi; have HZ0 := Lib.hid hz0; have HZ1 := Lib.hid hz1
  have HF := Lib.hid hf
  have HA := Lib.hid (gridOk_true hg)
  have HN := Lib.hid hn
  have HPT := Lib.hid hpt
  have HP := Lib.hid (gp_new w a b 27)
  clear hi hz0 hz1 hz2 hf hg hpt hn
  go_enter Try.func82, Try.ntmps82
  go_wp2_with fail
  generalize w.alloc (.cells #[.int .i64 a, .int .i64 b] 27) = w1 at hb0 HP ⊢
  refine (pointsOf_any a b _).mono ?_; rw [HPT.out]; rintro e w2 ⟨rfl, hb2⟩
  have HD := Lib.hid hb2
  have hc0 := (HP.out.ever _ hb2).1
  have hc1 := (HP.out.ever _ hb2).2
  clear hb2
  go_wp2_with (at_make; refine wpList_make_full _ rfl _ _ 24 rfl w1.heap.size 46 i0 (.float .f32 0) 1 Try.underlying24 HI.out HZ0.out HZ1.out _ _ _ _ n rfl rfl rfl rfl hb4 hml HD.out.size ?_; intro w4 hown hgrow; have hd4 := HD.out.grown hgrow HD.out.size (fun k h => by cases h); have hc2 := (HP.out.ever _ hd4).1; have hc3 := (HP.out.ever _ hd4).2)
  rw [Nat.mul_one, show (madeCells (Value.float .f32 0).cells n).toList = ptl [] n by rw [ptl_zero]; exact toList_madeCells_one _ _] at hown
  have HO0 := Lib.hid hown
  clear hgrow hb4 hml HI HZ0 HZ1 hown HD hc0 hc1 hc2 hc3
  generalize w2.heap.size = g0 at HO0 ⊢
  have hA : 4 ≤ a ∧ a ≤ 16 ∧ 4 ≤ b ∧ b ≤ 16 := ⟨HA.out.1, HA.out.2.1, HA.out.2.2.1, HA.out.2.2.2⟩
  go_loopw [13] (fun i wr => ∃ (v : Nat) (rs : List Nat), i = .int .i64 (v : Int) ∧ (v : Int) ≤ b ∧ Hid ((rs.length : Int) = a * v) ∧ Hid (Eqs rs F) ∧ Hid (wr.ownsRow w1.heap.size 46 1 (.slice (some ⟨g0, 0, none⟩) n n) n (ptl rs n)) ∧ Hid (Below w1.heap.size w1 wr)) (fun i _ => (b - intOf i).toNat)
  case atStart => exact ⟨0, [], rfl, by omega, Lib.hid (by simp), Lib.hid (Eqs.nil _), HO0, Lib.hid hd4⟩
  case round =>
    clear HO0 hd4
    obtain ⟨v, rs, rfl, hv, HL, HE, HO, HD⟩ := hrel
    have hc0 := (HP.out.ever _ HD.out).1
    have hc1 := (HP.out.ever _ HD.out).2
    by_cases hlt : (v : Int) < b
    · go_wp2_with fail
      go_loopw [18] (fun i wr => ∃ (u : Nat) (rs : List Nat), i = .int .i64 (u : Int) ∧ (u : Int) ≤ a ∧ Hid ((rs.length : Int) = a * v + u) ∧ Hid (Eqs rs F) ∧ Hid (wr.ownsRow w1.heap.size 46 1 (.slice (some ⟨g0, 0, none⟩) n n) n (ptl rs n)) ∧ Hid (Below w1.heap.size w1 wr)) (fun i _ => (a - intOf i).toNat)
      case atStart => exact ⟨0, rs, rfl, by omega, Lib.hid (by have := HL.out; omega), HE, HO, HD⟩
      case round =>
        clear HL HE HO HD hc0 hc1
        obtain ⟨u, ss, rfl, hu, HL, HE, HO, HD⟩ := hrel
        have hc0 := (HP.out.ever _ HD.out).1
        have hc1 := (HP.out.ever _ HD.out).2
        by_cases hlu : (u : Int) < a
        · have HK1 := Lib.hid (show (ss.length : Int) = (u : Int) % a + a * ((v : Int) % b) by
            rw [Int.emod_eq_of_lt (by omega) hlu, Int.emod_eq_of_lt (by omega) hlt]; have := HL.out; omega)
          have hm : a * ((v : Int) + 1) ≤ a * b := Int.mul_le_mul_of_nonneg_left (by omega) (by omega)
          rw [Int.mul_add, Int.mul_one] at hm
          have hlt2 : ss.length < n := by have := HL.out; have := HN.out; omega
          have i3 : (ss.length : Int) < (n : Int) := by omega
          have i4 : (0 : Int) ≤ (ss.length : Int) := Int.natCast_nonneg _
          clear hm
          go_wp2_with fail
          refine (indexOf_any a b u v ss.length _ ⟨hA.1, hA.2.1⟩ ⟨hA.2.2.1, hA.2.2.2⟩ HK1.out).mono ?_; rintro e w5 ⟨rfl, hb5⟩
          have HD5 := Lib.hid (HD.out.trans (hb5.mono HD.out.size))
          have HB5 := Lib.hid (grown_below (row := none) hb5)
          clear hb5
          go_wp2_with fail
          rw [HF.out.1]
          go_simp
          refine (HF.out.2 u v ss.length _ hlu hlt HL.out (hb0.trans (HD5.out.mono hb0.size))).mono ?_; rintro e w6 ⟨⟨r, rfl, hr⟩, hb6⟩
          have HD6 := Lib.hid (HD5.out.trans (hb6.mono HD5.out.size))
          have HB6 := Lib.hid (grown_below (row := none) hb6)
          have HR := Lib.hid hr
          clear hb6 hr
          have ho5 := World.ownsRow.kept HO.out HB5.out (.inr (by simp [Value.ownBlock]))
          have ho6 := World.ownsRow.kept ho5 HB6.out (.inr (by simp [Value.ownBlock]))
          have hw0 := ho6.cellAt ss.length (by omega)
          rw [ptl_get ss _ hlt2] at hw0
          have hfz := ho6.frozenAt ss.length
          have ST := Lib.hid (ho6.stored ss.length (.float .f32 r)).1
          rw [ptl_set ss _ r hlt2] at ST
          have hg0 := Lib.hid (ho6.lt g0 rfl).1
          clear ho5 ho6
          have HD7 := Lib.hid (HD6.out.setCell (p := ⟨g0, ss.length, none⟩) hg0.out (.float .f32 r))
          have HE7 := Lib.hid (HE.out.snoc (r := r) HR.out)
          have HL7 := Lib.hid (show ((ss ++ [r]).length : Int) = a * v + ((u + 1 : Nat) : Int) by have := HL.out; simp; omega)
          go_wp2
          go_roundw
          case rel => exact ⟨u + 1, ss ++ [r], by go_num, by omega, HL7, HE7, ST, HD7⟩
          case measure => simp [intOf]; omega
        · have hua : (u : Int) = a := by omega
          have HL8 := Lib.hid (show (ss.length : Int) = a * ((v + 1 : Nat) : Int) by have := HL.out; rw [this, hua]; simp [Int.mul_add])
          clear hua
          go_wp2
          go_roundw
          case rel => exact ⟨v + 1, ss, by go_num, by omega, HL8, HE, HO, HD⟩
          case measure => simp [intOf]; omega
    · have hvb : (v : Int) = b := by omega
      have HK2 := Lib.hid (show rs.length = n by have h1 := HL.out; have h2 := HN.out; rw [hvb] at h1; omega)
      have HR := Lib.hid (show ptl rs n = rs.map (Value.float .f32) by rw [← HK2.out]; exact ptl_all rs)
      clear hvb
      go_wp2
      go_ret
      exact ⟨⟨_, rfl, rs, HK2.out, HE.out, ownsRow_le (by rw [HK2.out, ← HR.out]; exact HO.out) hb0.size⟩, hb0.trans (HD.out.mono hb0.size)⟩
end Go.Proofs.Ytlfnbnhbobohlaa
