/-
  Rows of two integers each, in blocks of their own: the laws' comparisons and marks; the rows of workers.
-/
import Derived.Test.YtnknhfhllifnhaaNlC
import Derived.Test.YtnknhfhllifnhaaGrid
import Derived.Test.YtnknhfhllifnhaaLan
import Derived.Deep.QuietTactic
import Derived.BigQuiet
namespace Go.Proofs.Ytnknhfhllifnhaa
open Go.Fl Go.RowKit Go.Nl
set_option linter.unusedSimpArgs false
set_option linter.unusedVariables false

/-- n rows of two integers. -/
structure R2 (B : Nat) (w : World) (v : Value) (n : Nat) (bs : Nat → Nat) (F : Nat → Int × Int) : Prop where
  own : w.ownsRow B 41 1 v n ((List.range n).map (fun k => Value.slice (some ⟨bs k, 0, none⟩) 2 2))
  low : ∀ k, k < n → B ≤ bs k
  row : ∀ k, k < n → w.heap[bs k]? = some (.cells #[.int .i64 (F k).1, .int .i64 (F k).2] 2)
  inj : ∀ k j, k < n → j < n → bs k = bs j → k = j
  far : ∀ k, k < n → v.ownBlock ≠ some (bs k)
theorem R2.kept {B : Nat} {w w' : World} {v : Value} {n : Nat} {bs : Nat → Nat} {F : Nat → Int × Int} (h : R2 B w v n bs F) (hb : Below w.heap.size w w') : R2 B w' v n bs F :=
  ⟨World.ownsRow.kept h.own (grown_below (row := none) hb) (by cases v.ownBlock <;> simp), h.low, fun k hk => (hb.block _ (Array.getElem?_eq_some_iff.1 (h.row k hk)).1).trans (h.row k hk), h.inj, h.far⟩
theorem R2.le {B B' : Nat} {w : World} {v : Value} {n : Nat} {bs : Nat → Nat} {F : Nat → Int × Int} (h : R2 B w v n bs F) (hb : B' ≤ B) : R2 B' w v n bs F :=
  ⟨Go.Joins.ownsRow_le h.own hb, fun k hk => Nat.le_trans hb (h.low k hk), h.row, h.inj, h.far⟩
theorem R2.form {B : Nat} {w : World} {v : Value} {n : Nat} {bs : Nat → Nat} {F : Nat → Int × Int} (h : R2 B w v n bs F) (hn : 0 < n) : ∃ g c, v = .slice (some ⟨g, 0, none⟩) n c := by
  rcases h.own.2 with ⟨_, h0⟩ | ⟨g, cap, cur, rfl, hB, _⟩
  · omega
  · exact ⟨g, cap, rfl⟩
theorem R2.at {B g n c : Nat} {w : World} {bs : Nat → Nat} {F : Nat → Int × Int} (h : R2 B w (.slice (some ⟨g, 0, none⟩) n c) n bs F) {k : Nat} (hk : k < n) : w.cell? ⟨g, k, none⟩ = some (.slice (some ⟨bs k, 0, none⟩) 2 2) := by
  rw [h.own.cellAt k (by omega)]
  simp [hk]
theorem two_cells {w : World} {b : Nat} {x y : Value} {t : TypeId} (h : w.heap[b]? = some (.cells #[x, y] t)) : w.cell? ⟨b, 0, none⟩ = some x ∧ w.cell? ⟨b, 1, none⟩ = some y ∧ w.frozen? ⟨b, 0, none⟩ = false ∧ w.frozen? ⟨b, 1, none⟩ = false := by
  refine ⟨by rw [Joins.cell_of_block h]; rfl, by rw [Joins.cell_of_block h]; rfl, by simp [World.frozen?, h], by simp [World.frozen?, h]⟩
theorem ns_two {w : World} {b : Nat} {x y : Int} (h : w.heap[b]? = some (.cells #[.int .i64 x, .int .i64 y] 2)) (hx : (Lit.int .i64 x).wf = true) (hy : (Lit.int .i64 y).wf = true) : NS .i64 w (.slice (some ⟨b, 0, none⟩) 2 2) [x, y] := by
  obtain ⟨c0, c1, _, _⟩ := two_cells h
  refine ⟨_, 2, rfl, Nat.le_refl _, by unfold maxLen; omega, ?_, .inr ⟨b, 0, rfl, (Array.getElem?_eq_some_iff.1 h).1, ?_⟩⟩
  · intro z hz
    rcases List.mem_cons.1 hz with rfl | hz
    · exact hx
    · rcases List.mem_cons.1 hz with rfl | hz
      · exact hy
      · simp at hz
  · intro i hi
    have : i = 0 ∨ i = 1 := by simp at hi; omega
    rcases this with rfl | rfl
    · exact c0
    · exact c1
theorem wf_small {x : Int} (h0 : -1000 ≤ x) (h1 : x ≤ 1000) : (Lit.int .i64 x).wf = true := by
  simp [Lit.wf, IntKind.min, IntKind.max, IntKind.bits, IntKind.signed]
  omega
def smallF (n : Nat) (F : Nat → Int × Int) : Prop := ∀ k, k < n → (-1000 ≤ (F k).1 ∧ (F k).1 ≤ 1000) ∧ (-1000 ≤ (F k).2 ∧ (F k).2 ≤ 1000)

set_option maxHeartbeats 1000000 in
set_option maxRecDepth 100000 in
theorem eqSS_any (B B' : Nat) (u v : Value) (n : Nat) (bs cs : Nat → Nat) (F : Nat → Int × Int) (w : World) (hn : 0 < n) (hn8 : n ≤ 8) (hu : R2 B w u n bs F) (hv : R2 B' w v n cs F) (hs : smallF n F) :
    Calls Try.prog 71 #[u, v] w fun e w' => e = .returned (.bool true) ∧ ∃ m, w' = w.drewN m := by
  obtain ⟨gu, cu, rfl⟩ := hu.form hn
  obtain ⟨gv, cv, rfl⟩ := hv.form hn
  have HU := Lib.hid (fun k (hk : k < n) => hu.at hk); have HV := Lib.hid (fun k (hk : k < n) => hv.at hk)
  have HE := Lib.hid (fun k (hk : k < n) m0 m => Calls.quiet_of (eqI_any _ _ [(F k).1, (F k).2] ((w.drewN m0).drewN m) ((ns_two (hu.row k hk) (wf_small (hs k hk).1.1 (hs k hk).1.2) (wf_small (hs k hk).2.1 (hs k hk).2.2)).drewN m) ((ns_two (hv.row k hk) (wf_small (hs k hk).1.1 (hs k hk).1.2) (wf_small (hs k hk).2.1 (hs k hk).2.2)).drewN m) (by simp)))
  clear hu hv hs
  go_enter Try.func71, Try.ntmps71
  go_wp2_with fail
  go_loopw [5] (fun i wr => ∃ k : Nat, k ≤ n ∧ i = .int .i64 (k : Int) ∧ ∃ m, wr = w.drewN m) (fun i _ => n - (intOf i).toNat)
  case atStart => exact ⟨0, Nat.zero_le _, rfl, 0, rfl⟩
  case round =>
    obtain ⟨k, hk, rfl, m, rfl⟩ := hrel
    by_cases hlt : k < n
    · have hz : (k : Int) < (n : Int) := by omega
      have hz0 : (0 : Int) ≤ (k : Int) := Int.natCast_nonneg _
      have c1 : (w.drewN m).cell? ⟨gu, k, none⟩ = some (.slice (some ⟨bs k, 0, none⟩) 2 2) := HU.out k hlt
      have c2 : (w.drewN m).cell? ⟨gv, k, none⟩ = some (.slice (some ⟨cs k, 0, none⟩) 2 2) := HV.out k hlt
      have he := fun j => HE.out k hlt m j
      obtain ⟨wq, hq⟩ : ∃ wq, wq = w.drewN m := ⟨_, rfl⟩
      have HQ := Lib.hid hq
      generalize bs k = b1 at c1 he
      generalize cs k = b2 at c2 he
      rw [← hq] at c1 c2 he ⊢
      clear hq
      go_wp2_with fail
      go_quiet (first | (go_at_call 146; exact (he _)))
      go_wp2_with fail
      go_roundw
      case rel => exact ⟨k + 1, by omega, by go_num, m + nq, by rw [HQ.out, World.drewN_drewN]⟩
      case measure => simp [intOf]; omega
    · obtain rfl : k = n := by omega
      clear hlt
      go_wp2
      go_ret
      exact ⟨rfl, _, rfl⟩

theorem set_two0 {w : World} {b : Nat} {x y : Value} {t : TypeId} (h : w.heap[b]? = some (.cells #[x, y] t)) (u : Value) : (w.setCell ⟨b, 0, none⟩ u).heap[b]? = some (.cells #[u, y] t) := by
  simp [World.setCell, Array.getElem?_modify, h]
theorem set_two1 {w : World} {b : Nat} {x y : Value} {t : TypeId} (h : w.heap[b]? = some (.cells #[x, y] t)) (u : Value) : (w.setCell ⟨b, 1, none⟩ u).heap[b]? = some (.cells #[x, u] t) := by
  simp [World.setCell, Array.getElem?_modify, h]
theorem grown_cell (w : World) (b i : Nat) (v : Value) : w.grownBy (w.setCell ⟨b, i, none⟩ v) (some b) :=
  ⟨rfl, rfl, rfl, by simp, fun k hk hr => heap_setCell_other w ⟨b, i, none⟩ k v (fun e => hr (by rw [e]))⟩

set_option maxHeartbeats 1000000 in
set_option maxRecDepth 100000 in
theorem mark2_any (b s : Nat) (hs : s ≤ 1000) (x y : Int) (w : World) (h : w.heap[b]? = some (.cells #[.int .i64 x, .int .i64 y] 2)) :
    Calls Try.prog 147 #[.slice (some ⟨b, 0, none⟩) 2 2, .int .i64 (s : Int)] w fun e w' => e = .returned (.int .i64 ((s : Int) + 2)) ∧ w'.heap[b]? = some (.cells #[.int .i64 (s : Int), .int .i64 ((s : Int) + 1)] 2) ∧ w.grownBy w' (some b) := by
  have H0 := Lib.hid h
  clear h
  go_enter Try.func147, Try.ntmps147
  go_wp2_with fail
  go_loopw [1, 5] (fun m i wr => (i = .int .i64 0 ∧ m = .int .i64 (s : Int) ∧ Hid (wr = w)) ∨ (i = .int .i64 1 ∧ m = .int .i64 ((s : Int) + 1) ∧ Hid (wr.heap[b]? = some (.cells #[.int .i64 (s : Int), .int .i64 y] 2)) ∧ Hid (w.grownBy wr (some b))) ∨ (i = .int .i64 2 ∧ m = .int .i64 ((s : Int) + 2) ∧ Hid (wr.heap[b]? = some (.cells #[.int .i64 (s : Int), .int .i64 ((s : Int) + 1)] 2)) ∧ Hid (w.grownBy wr (some b)))) (fun _ i _ => 2 - (intOf i).toNat)
  case atStart => exact .inl ⟨rfl, rfl, Lib.hid rfl⟩
  case round =>
    rcases hrel with ⟨rfl, rfl, HW⟩ | ⟨rfl, rfl, HH, HG⟩ | ⟨rfl, rfl, HH, HG⟩
    · obtain rfl := HW.out
      obtain ⟨c0, c1, f0, f1⟩ := two_cells H0.out
      have HX := Lib.hid (set_two0 H0.out (.int .i64 (s : Int)))
      have HG := Lib.hid (grown_cell wr b 0 (.int .i64 (s : Int)))
      clear HW
      go_wp2_with fail
      go_roundw
      case rel => exact .inr (.inl ⟨rfl, by go_num, HX, HG⟩)
      case measure => simp [intOf]
    · obtain ⟨c0, c1, f0, f1⟩ := two_cells HH.out
      have HX := Lib.hid (set_two1 HH.out (.int .i64 ((s : Int) + 1)))
      have HG2 := Lib.hid (grown_trans HG.out (grown_cell wr b 1 (.int .i64 ((s : Int) + 1))))
      clear HG HH
      go_wp2_with fail
      go_roundw
      case rel => exact .inr (.inr ⟨rfl, by first | rfl | (congr 1; omega), HX, HG2⟩)
      case measure => simp [intOf]
    · go_wp2_with fail
      go_ret
      exact ⟨rfl, HH.out, HG.out⟩

set_option maxHeartbeats 1000000 in
set_option maxRecDepth 100000 in
theorem held2_any (b s : Nat) (hs : s ≤ 1000) (w : World) (h : w.heap[b]? = some (.cells #[.int .i64 (s : Int), .int .i64 ((s : Int) + 1)] 2)) :
    Calls Try.prog 148 #[.slice (some ⟨b, 0, none⟩) 2 2, .int .i64 (s : Int)] w fun e w' => e = .returned (.int .i64 ((s : Int) + 2)) ∧ w' = w := by
  obtain ⟨c0, c1, f0, f1⟩ := two_cells h
  clear h f0 f1
  go_enter Try.func148, Try.ntmps148
  go_wp2_with fail
  go_loop [1, 5] (fun m i => (i = .int .i64 0 ∧ m = .int .i64 (s : Int)) ∨ (i = .int .i64 1 ∧ m = .int .i64 ((s : Int) + 1)) ∨ (i = .int .i64 2 ∧ m = .int .i64 ((s : Int) + 2))) (fun _ i => 2 - (intOf i).toNat)
  case atStart => exact .inl ⟨rfl, rfl⟩
  case round =>
    rcases hrel with ⟨rfl, rfl⟩ | ⟨rfl, rfl⟩ | ⟨rfl, rfl⟩
    · go_wp2_with fail
      go_round
      case rel => exact .inr (.inl ⟨rfl, by go_num⟩)
      case measure => simp [intOf]
    · go_wp2_with fail
      go_round
      case rel => exact .inr (.inr ⟨rfl, by first | rfl | (congr 1; omega)⟩)
      case measure => simp [intOf]
    · go_wp2_with fail
      go_ret
      exact ⟨rfl, rfl⟩

/-- The marks of the first q rows. -/
def mkF (F : Nat → Int × Int) (q j : Nat) : Int × Int := if j < q then (((1 + 2 * j : Nat) : Int), ((1 + 2 * j : Nat) : Int) + 1) else F j
theorem R2.upd {B : Nat} {w w' : World} {v : Value} {n : Nat} {bs : Nat → Nat} {F G : Nat → Int × Int} (h : R2 B w v n bs F) {k : Nat} (hk : k < n) (g : w.grownBy w' (some (bs k))) (hx : w'.heap[bs k]? = some (.cells #[.int .i64 (G k).1, .int .i64 (G k).2] 2)) (hG : ∀ j, j ≠ k → G j = F j) : R2 B w' v n bs G :=
  ⟨World.ownsRow.kept h.own g (.inr (h.far k hk)), h.low, fun j hj => by
    by_cases e : j = k
    · subst e; exact hx
    · rw [hG j e, g.block _ (Array.getElem?_eq_some_iff.1 (h.row j hj)).1 (fun e2 => e (h.inj j k hj hk (Option.some.inj e2)))]
      exact h.row j hj, h.inj, h.far⟩
theorem mkF_zero (F : Nat → Int × Int) : mkF F 0 = F := by funext j; unfold mkF; rw [if_neg (by omega)]
theorem R2.congr {B : Nat} {w : World} {v : Value} {n : Nat} {bs : Nat → Nat} {F G : Nat → Int × Int} (h : R2 B w v n bs F) (e : ∀ j, j < n → G j = F j) : R2 B w v n bs G :=
  ⟨h.own, h.low, fun k hk => by rw [e k hk]; exact h.row k hk, h.inj, h.far⟩

set_option maxHeartbeats 1000000 in
set_option maxRecDepth 100000 in
theorem markSS_any (B : Nat) (v : Value) (n : Nat) (bs : Nat → Nat) (F : Nat → Int × Int) (w : World) (hn : 0 < n) (hn8 : n ≤ 8) (h : R2 B w v n bs F) (hB : B ≤ w.heap.size) :
    Calls Try.prog 72 #[v, .int .i64 1] w fun e w' => e = .returned (.int .i64 ((1 + 2 * n : Nat) : Int)) ∧ R2 B w' v n bs (mkF F n) ∧ Below B w w' := by
  obtain ⟨g, c, rfl⟩ := h.form hn
  have H0 := Lib.hid h
  clear h
  go_enter Try.func72, Try.ntmps72
  go_wp2_with fail
  go_loopw [1, 5] (fun m i wr => ∃ k : Nat, k ≤ n ∧ i = .int .i64 (k : Int) ∧ m = .int .i64 ((1 + 2 * k : Nat) : Int) ∧ Hid (Below B w wr) ∧ Hid (R2 B wr (.slice (some ⟨g, 0, none⟩) n c) n bs (mkF F k))) (fun _ i _ => n - (intOf i).toNat)
  case atStart => exact ⟨0, Nat.zero_le _, rfl, rfl, Lib.hid (Below.refl _ _), by rw [mkF_zero]; exact H0⟩
  case round =>
    clear H0
    obtain ⟨k, hk, rfl, rfl, HB, HR⟩ := hrel
    by_cases hlt : k < n
    · have hz : (k : Int) < (n : Int) := by omega
      have hz0 : (0 : Int) ≤ (k : Int) := Int.natCast_nonneg _
      have c1 := HR.out.at hlt
      go_wp2_with fail
      refine (mark2_any (bs k) (1 + 2 * k) (by omega) _ _ _ (HR.out.row k hlt)).mono ?_
      rintro e w2 ⟨rfl, hx, hg⟩
      have HR2 := Lib.hid (R2.upd (G := mkF F (k + 1)) HR.out hlt hg (by unfold mkF; rw [if_pos (by omega)]; exact hx) (fun j hj => by
        unfold mkF
        by_cases e : j < k
        · rw [if_pos e, if_pos (by omega)]
        · rw [if_neg e, if_neg (by omega)]))
      have HB2 := Lib.hid (show Below B w w2 from ⟨hg.os.trans HB.out.os, hg.tape.trans HB.out.tape, hg.output.trans HB.out.output, Nat.le_trans HB.out.size hg.size, fun i hi => by
        have h1 := HR.out.low k hlt
        rw [hg.block i (by have := HB.out.size; omega) (fun e => by have := Option.some.inj e; omega)]
        exact HB.out.block i hi⟩)
      clear hx hg HR HB c1
      go_wp2_with fail
      go_roundw
      case rel => exact ⟨k + 1, by omega, by go_num, by first | rfl | (congr 1; omega), HB2, HR2⟩
      case measure => simp [intOf]; omega
    · obtain rfl : k = n := by omega
      clear hlt
      go_wp2_with fail
      go_ret
      exact ⟨rfl, HR.out, HB.out⟩

set_option maxHeartbeats 1000000 in
set_option maxRecDepth 100000 in
theorem heldSS_any (B : Nat) (v : Value) (n : Nat) (bs : Nat → Nat) (F : Nat → Int × Int) (w : World) (hn : 0 < n) (hn8 : n ≤ 8) (h : R2 B w v n bs (mkF F n)) :
    Calls Try.prog 73 #[v, .int .i64 1] w fun e w' => e = .returned (.int .i64 ((1 + 2 * n : Nat) : Int)) ∧ w' = w := by
  obtain ⟨g, c, rfl⟩ := h.form hn
  have H0 := Lib.hid h
  clear h
  go_enter Try.func73, Try.ntmps73
  go_wp2_with fail
  go_loop [1, 5] (fun m i => ∃ k : Nat, k ≤ n ∧ i = .int .i64 (k : Int) ∧ m = .int .i64 ((1 + 2 * k : Nat) : Int)) (fun _ i => n - (intOf i).toNat)
  case atStart => exact ⟨0, Nat.zero_le _, rfl, rfl⟩
  case round =>
    obtain ⟨k, hk, rfl, rfl⟩ := hrel
    by_cases hlt : k < n
    · have hz : (k : Int) < (n : Int) := by omega
      have hz0 : (0 : Int) ≤ (k : Int) := Int.natCast_nonneg _
      have c1 := H0.out.at hlt
      go_wp2_with fail
      refine (held2_any (bs k) (1 + 2 * k) (by omega) _ (by have := H0.out.row k hlt; unfold mkF at this; rw [if_pos hlt] at this; exact this)).mono ?_
      rintro e w2 ⟨rfl, hw⟩
      obtain rfl := hw.symm
      clear hw
      go_wp2_with fail
      go_round
      case rel => exact ⟨k + 1, by omega, by go_num, by first | rfl | (congr 1; omega)⟩
      case measure => simp [intOf]; omega
    · obtain rfl : k = n := by omega
      clear hlt
      go_wp2_with fail
      go_ret
      exact ⟨rfl, rfl⟩

/-! ### the rows of workers -/
theorem info_span : (Try.prog.info? 181).map (·.size) = some 2 := by kernel_rfl
def spF (y q k : Nat) : Nat := k * (y / q) + min k (y % q)
def spC (y q k : Nat) : Nat := y / q + if k < y % q then 1 else 0
theorem sp_next (y q k : Nat) : spF y q (k + 1) = spF y q k + spC y q k := by
  unfold spF spC
  rw [Nat.add_mul, Nat.one_mul]
  split <;> omega
theorem sp_in {y q k : Nat} (hy : y ≤ 16) (hq : 1 ≤ q) (hk : k ≤ 8) : k * (y / q) ≤ 128 ∧ y / q ≤ 16 ∧ spF y q k ≤ 136 ∧ spC y q k ≤ 17 := by
  have h1 : y / q ≤ 16 := Nat.le_trans (Nat.div_le_self _ _) hy
  have h2 : k * (y / q) ≤ 8 * 16 := Nat.mul_le_mul hk h1
  refine ⟨h2, h1, ?_, ?_⟩
  · unfold spF; omega
  · unfold spC; split <;> omega
def rowsF (y q : Nat) (k : Nat) : Int × Int := ((spF y q k : Int), (spC y q k : Int))

set_option maxHeartbeats 1000000 in
set_option maxRecDepth 100000 in
theorem iSpan_any (a : Int) (y q k : Nat) (hy : y ≤ 16) (hq : 1 ≤ q) (hq8 : q ≤ 8) (hk : k < q) (w : World) :
    Calls Try.prog 145 #[GV a (y : Int), .int .i64 (k : Int), .int .i64 (q : Int)] w fun e w' => e = .returned (.agg #[.int .i64 (spF y q k : Int), .int .i64 (spC y q k : Int)]) ∧ Below w.heap.size w w' := by
  obtain ⟨s1, s2, s3, s4⟩ := sp_in (y := y) (q := q) (k := k) hy hq (by omega)
  have ht : (y : Int).tdiv (q : Int) = ((y / q : Nat) : Int) := by rw [Int.tdiv_eq_ediv_of_nonneg (by omega)]; rfl
  have hm : (y : Int).tmod (q : Int) = ((y % q : Nat) : Int) := by rw [Int.tmod_eq_emod_of_nonneg (by omega)]; rfl
  have HB0 := Lib.hid (((Below.refl w.heap.size w).alloc (Nat.le_refl _) (.cells #[.int .i64 a, .int .i64 (y : Int)] 25)).alloc (by simp) (.cells #[.int .i64 0, .int .i64 0] 181))
  have HX := Lib.hid (heap_alloc2_old w (.cells #[.int .i64 a, .int .i64 (y : Int)] 25) (.cells #[.int .i64 0, .int .i64 0] 181))
  have HY := Lib.hid (heap_alloc2_new w (.cells #[.int .i64 a, .int .i64 (y : Int)] 25) (.cells #[.int .i64 0, .int .i64 0] 181))
  go_enter Try.func145, Try.ntmps145
  go_wp2_with fail
  generalize (w.alloc (.cells #[.int .i64 a, .int .i64 (y : Int)] 25)).alloc (.cells #[.int .i64 0, .int .i64 0] 181) = v1 at HB0 HX HY ⊢
  obtain ⟨c0, c1, _, _⟩ := two_cells HX.out
  have q0 : ¬ ((q : Int) = 0) := by omega
  have q1 : ¬ ((q : Int) = -1) := by omega
  go_quiet (fail)
  obtain ⟨v2, hv2⟩ : ∃ v2, v2 = v1.drewN nq := ⟨_, rfl⟩
  have HB2 := Lib.hid (show Below w.heap.size w v2 from by rw [hv2]; exact below_drewN HB0.out _)
  have HY2 := Lib.hid (show v2.heap[w.heap.size + 1]? = some (.cells #[.int .i64 0, .int .i64 0] 181) from by rw [hv2]; exact HY.out)
  rw [← hv2]
  clear hv2 HB0 HX HY
  have e1 : wrap64 ((y : Int) / (q : Int)) = ((y / q : Nat) : Int) := by
    rw [show (y : Int) / (q : Int) = ((y / q : Nat) : Int) from rfl]
    generalize y / q = e at s2 ⊢
    unfold wrap64; omega
  have e2 : (y : Int) % (q : Int) = ((y % q : Nat) : Int) := rfl
  try rw [e1]
  try rw [e2]
  clear e1 e2 ht hm q0 q1 c0 c1
  have HF1 := Lib.hid (show spF y q k = k * (y / q) + min k (y % q) from rfl)
  have HF2 := Lib.hid (show spC y q k = y / q + if k < y % q then 1 else 0 from rfl)
  generalize y / q = e at *
  generalize y % q = o at *
  have hp0 : (0 : Int) ≤ (k : Int) * (e : Int) := Int.mul_nonneg (by omega) (by omega)
  have hp1 : (k : Int) * (e : Int) ≤ 128 := by exact_mod_cast s1
  have hw1 : wrap64 ((k : Int) * (e : Int)) = (k : Int) * (e : Int) := by unfold wrap64; omega
  generalize hpp : (k : Int) * (e : Int) = p at hp0 hp1 hw1
  have HPP := Lib.hid hpp
  rcases Nat.lt_trichotomy k o with hko | hko | hko
  · have h1 : ((spF y q k : Nat) : Int) = p + (k : Int) := by rw [HF1.out, ← HPP.out, Int.natCast_add, Int.natCast_mul, Nat.min_eq_left (by omega)]
    have h2 : ((spC y q k : Nat) : Int) = (e : Int) + 1 := by rw [HF2.out, if_pos hko, Int.natCast_add]; rfl
    have hz : (k : Int) < (o : Int) := by omega
    have hmn : min (k : Int) (o : Int) = (k : Int) := by omega
    have hw2 : wrap64 (p + (k : Int)) = p + (k : Int) := by unfold wrap64; omega
    have hw3 : wrap64 ((e : Int) + 1) = (e : Int) + 1 := by unfold wrap64; omega
    clear hko HPP HF1 HF2 hp0 hp1 s1 s2 s3 s4 hk
    generalize (k : Int) = kk at *
    generalize (e : Int) = ee at *
    generalize (o : Int) = oo at *
    have HBA := Lib.hid (((HB2.out.setCell (p := ⟨w.heap.size + 1, 0, none⟩) (Nat.le_succ _) (.int .i64 (p + kk))).setCell (p := ⟨w.heap.size + 1, 1, none⟩) (Nat.le_succ _) (.int .i64 (ee + 1))).alloc (by have := HB2.out.size; simp; omega) (.cells #[.int .i64 (p + kk), .int .i64 (ee + 1)] 181))
    have HYB := Lib.hid (set_two1 (set_two0 HY2.out (.int .i64 (p + kk))) (.int .i64 (ee + 1)))
    have HYC := Lib.hid (show (((v2.setCell ⟨w.heap.size + 1, 0, none⟩ (.int .i64 (p + kk))).setCell ⟨w.heap.size + 1, 1, none⟩ (.int .i64 (ee + 1))).alloc (.cells #[.int .i64 (p + kk), .int .i64 (ee + 1)] 181)).heap[w.heap.size + 1]? = some (.cells #[.int .i64 (p + kk), .int .i64 (ee + 1)] 181) from
      (((Below.refl _ _).alloc (Nat.le_refl _) (.cells #[.int .i64 (p + kk), .int .i64 (ee + 1)] 181)).block _ (Array.getElem?_eq_some_iff.1 HYB.out).1).trans HYB.out)
    obtain ⟨r0, r1, _, _⟩ := two_cells HYC.out
    obtain ⟨y0, y1, z0, z1⟩ := two_cells HY2.out
    have hl2 : w.heap.size + 1 < v2.heap.size := (Array.getElem?_eq_some_iff.1 HY2.out).1
    have hne2 : ¬ (w.heap.size + 1 = v2.heap.size) := by omega
    have hne3 : ¬ (v2.heap.size = w.heap.size + 1) := by omega
    go_wp2_with fail
    all_goals
      refine bodyPost_ret (v := .agg #[.int .i64 (p + kk), .int .i64 (ee + 1)]) (by simp [results, Try.results145, go_sem, r0, r1]) rfl ?_
      exact ⟨by first | rfl | rw [h1, h2], HBA.out⟩
  · subst hko
    have h1 : ((spF y q k : Nat) : Int) = p + (k : Int) := by rw [HF1.out, ← HPP.out, Int.natCast_add, Int.natCast_mul, Nat.min_self]
    have h2 : ((spC y q k : Nat) : Int) = (e : Int) := by rw [HF2.out, if_neg (Nat.lt_irrefl k), Nat.add_zero]
    have hz : ¬ ((k : Int) < (k : Int)) := by omega
    have hmn : min (k : Int) (k : Int) = (k : Int) := by omega
    have hw2 : wrap64 (p + (k : Int)) = p + (k : Int) := by unfold wrap64; omega
    clear HPP HF1 HF2 hp0 hp1 s1 s2 s3 s4 hk
    generalize (k : Int) = kk at *
    generalize (e : Int) = ee at *
    have HBA := Lib.hid (((HB2.out.setCell (p := ⟨w.heap.size + 1, 0, none⟩) (Nat.le_succ _) (.int .i64 (p + kk))).setCell (p := ⟨w.heap.size + 1, 1, none⟩) (Nat.le_succ _) (.int .i64 (ee))).alloc (by have := HB2.out.size; simp; omega) (.cells #[.int .i64 (p + kk), .int .i64 (ee)] 181))
    have HYB := Lib.hid (set_two1 (set_two0 HY2.out (.int .i64 (p + kk))) (.int .i64 (ee)))
    have HYC := Lib.hid (show (((v2.setCell ⟨w.heap.size + 1, 0, none⟩ (.int .i64 (p + kk))).setCell ⟨w.heap.size + 1, 1, none⟩ (.int .i64 (ee))).alloc (.cells #[.int .i64 (p + kk), .int .i64 (ee)] 181)).heap[w.heap.size + 1]? = some (.cells #[.int .i64 (p + kk), .int .i64 (ee)] 181) from
      (((Below.refl _ _).alloc (Nat.le_refl _) (.cells #[.int .i64 (p + kk), .int .i64 (ee)] 181)).block _ (Array.getElem?_eq_some_iff.1 HYB.out).1).trans HYB.out)
    obtain ⟨r0, r1, _, _⟩ := two_cells HYC.out
    obtain ⟨y0, y1, z0, z1⟩ := two_cells HY2.out
    have hl2 : w.heap.size + 1 < v2.heap.size := (Array.getElem?_eq_some_iff.1 HY2.out).1
    have hne2 : ¬ (w.heap.size + 1 = v2.heap.size) := by omega
    have hne3 : ¬ (v2.heap.size = w.heap.size + 1) := by omega
    go_wp2_with fail
    all_goals
      refine bodyPost_ret (v := .agg #[.int .i64 (p + kk), .int .i64 (ee)]) (by simp [results, Try.results145, go_sem, r0, r1]) rfl ?_
      exact ⟨by first | rfl | rw [h1, h2], HBA.out⟩
  · have h1 : ((spF y q k : Nat) : Int) = p + (o : Int) := by rw [HF1.out, ← HPP.out, Int.natCast_add, Int.natCast_mul, Nat.min_eq_right (by omega)]
    have h2 : ((spC y q k : Nat) : Int) = (e : Int) := by rw [HF2.out, if_neg (by omega), Nat.add_zero]
    have hz : ¬ ((k : Int) < (o : Int)) := by omega
    have hz2 : (o : Int) < (k : Int) := by omega
    have hmn : min (k : Int) (o : Int) = (o : Int) := by omega
    have hw2 : wrap64 (p + (o : Int)) = p + (o : Int) := by unfold wrap64; omega
    clear hko HPP HF1 HF2 hp0 hp1 s1 s2 s3 s4 hk
    generalize (k : Int) = kk at *
    generalize (e : Int) = ee at *
    generalize (o : Int) = oo at *
    have HBA := Lib.hid (((HB2.out.setCell (p := ⟨w.heap.size + 1, 0, none⟩) (Nat.le_succ _) (.int .i64 (p + oo))).setCell (p := ⟨w.heap.size + 1, 1, none⟩) (Nat.le_succ _) (.int .i64 (ee))).alloc (by have := HB2.out.size; simp; omega) (.cells #[.int .i64 (p + oo), .int .i64 (ee)] 181))
    have HYB := Lib.hid (set_two1 (set_two0 HY2.out (.int .i64 (p + oo))) (.int .i64 (ee)))
    have HYC := Lib.hid (show (((v2.setCell ⟨w.heap.size + 1, 0, none⟩ (.int .i64 (p + oo))).setCell ⟨w.heap.size + 1, 1, none⟩ (.int .i64 (ee))).alloc (.cells #[.int .i64 (p + oo), .int .i64 (ee)] 181)).heap[w.heap.size + 1]? = some (.cells #[.int .i64 (p + oo), .int .i64 (ee)] 181) from
      (((Below.refl _ _).alloc (Nat.le_refl _) (.cells #[.int .i64 (p + oo), .int .i64 (ee)] 181)).block _ (Array.getElem?_eq_some_iff.1 HYB.out).1).trans HYB.out)
    obtain ⟨r0, r1, _, _⟩ := two_cells HYC.out
    obtain ⟨y0, y1, z0, z1⟩ := two_cells HY2.out
    have hl2 : w.heap.size + 1 < v2.heap.size := (Array.getElem?_eq_some_iff.1 HY2.out).1
    have hne2 : ¬ (w.heap.size + 1 = v2.heap.size) := by omega
    have hne3 : ¬ (v2.heap.size = w.heap.size + 1) := by omega
    go_wp2_with fail
    all_goals
      refine bodyPost_ret (v := .agg #[.int .i64 (p + oo), .int .i64 (ee)]) (by simp [results, Try.results145, go_sem, r0, r1]) rfl ?_
      exact ⟨by first | rfl | rw [h1, h2], HBA.out⟩

/-- The rows under way: the first k of n. -/
structure R2I (B : Nat) (w : World) (g n k : Nat) (bs : Nat → Nat) (F : Nat → Int × Int) : Prop where
  own : w.ownsRow B 41 1 (.slice (some ⟨g, 0, none⟩) n n) n ((List.range n).map (fun j => if j < k then Value.slice (some ⟨bs j, 0, none⟩) 2 2 else .slice none 0 0))
  low : ∀ j, j < k → B ≤ bs j
  row : ∀ j, j < k → w.heap[bs j]? = some (.cells #[.int .i64 (F j).1, .int .i64 (F j).2] 2)
  inj : ∀ i j, i < k → j < k → bs i = bs j → i = j
  far : ∀ j, j < k → g ≠ bs j
theorem R2I.kept {B : Nat} {w w' : World} {g n k : Nat} {bs : Nat → Nat} {F : Nat → Int × Int} (h : R2I B w g n k bs F) (hb : Below w.heap.size w w') : R2I B w' g n k bs F :=
  ⟨World.ownsRow.kept h.own (grown_below (row := none) hb) (by simp [Value.ownBlock]), h.low, fun k hk => (hb.block _ (Array.getElem?_eq_some_iff.1 (h.row k hk)).1).trans (h.row k hk), h.inj, h.far⟩
theorem R2I.done {B : Nat} {w : World} {g n : Nat} {bs : Nat → Nat} {F : Nat → Int × Int} (h : R2I B w g n n bs F) : R2 B w (.slice (some ⟨g, 0, none⟩) n n) n bs F :=
  ⟨by
    have h1 := h.own
    rw [show (List.range n).map (fun j => if j < n then Value.slice (some ⟨bs j, 0, none⟩) 2 2 else .slice none 0 0) = (List.range n).map (fun k => Value.slice (some ⟨bs k, 0, none⟩) 2 2) from List.map_congr_left (fun j hj => if_pos (List.mem_range.1 hj))] at h1
    exact h1, h.low, h.row, h.inj, fun k hk e => h.far k hk (Option.some.inj e)⟩
theorem R2I.at {B g n k : Nat} {w : World} {bs : Nat → Nat} {F : Nat → Int × Int} (h : R2I B w g n k bs F) (hk : k < n) : w.cell? ⟨g, k, none⟩ = some (.slice none 0 0) ∧ w.frozen? ⟨g, k, none⟩ = false := by
  refine ⟨?_, h.own.frozenAt k⟩
  rw [h.own.cellAt k (by omega)]
  simp [hk]
/-- The next row, in a block nb that is new. -/
theorem R2I.step {B g n k nb : Nat} {w w' : World} {bs : Nat → Nat} {F : Nat → Int × Int} (h : R2I B w g n k bs F) (hk : k < n) (hB : B ≤ nb) (hnew : w.heap.size ≤ nb)
    (hw : Below (w.setCell ⟨g, k, none⟩ (.slice (some ⟨nb, 0, none⟩) 2 2)).heap.size (w.setCell ⟨g, k, none⟩ (.slice (some ⟨nb, 0, none⟩) 2 2)) w')
    (hx : w'.heap[nb]? = some (.cells #[.int .i64 (F k).1, .int .i64 (F k).2] 2)) : R2I B w' g n (k + 1) (fun j => if j = k then nb else bs j) F := by
  obtain ⟨h1, g1⟩ := h.own.stored k (.slice (some ⟨nb, 0, none⟩) 2 2)
  have hgl := (h.own.lt g rfl).2
  refine ⟨?_, ?_, ?_, ?_, ?_⟩
  · have h2 := World.ownsRow.kept h1 (grown_below (row := none) hw) (by simp [Value.ownBlock])
    rw [show ((List.range n).map (fun j => if j < k then Value.slice (some ⟨bs j, 0, none⟩) 2 2 else .slice none 0 0)).set k (.slice (some ⟨nb, 0, none⟩) 2 2) = (List.range n).map (fun j => if j < k + 1 then Value.slice (some ⟨(if j = k then nb else bs j), 0, none⟩) 2 2 else .slice none 0 0) from by
      apply List.ext_getElem
      · simp
      · intro i h1 h2
        have hi : i < n := by simpa using h2
        rw [List.getElem_set]
        by_cases e : k = i
        · subst e; simp
        · have e' : ¬ i = k := fun x => e x.symm
          by_cases e2 : i < k
          · simp [e, e', e2, show i < k + 1 by omega]
          · simp [e, e', e2, show ¬ i < k + 1 by omega]] at h2
    exact h2
  · intro j hj
    by_cases e : j = k
    · simp only [e, if_true]; exact hB
    · simp only [e, if_false]; exact h.low j (by omega)
  · intro j hj
    by_cases e : j = k
    · subst e; simp only [if_true]; exact hx
    · simp only [e, if_false]
      have h3 := h.row j (by omega)
      have h4 := (Array.getElem?_eq_some_iff.1 h3).1
      rw [hw.block _ (by simp; exact h4), heap_setCell_other w ⟨g, k, none⟩ (bs j) _ (fun e2 => h.far j (by omega) e2.symm)]
      exact h3
  · intro i j hi hj e
    by_cases e1 : i = k
    · by_cases e2 : j = k
      · omega
      · simp only [e1, e2, if_true, if_false] at e
        have h4 := (Array.getElem?_eq_some_iff.1 (h.row j (by omega))).1
        omega
    · by_cases e2 : j = k
      · simp only [e1, e2, if_true, if_false] at e
        have h4 := (Array.getElem?_eq_some_iff.1 (h.row i (by omega))).1
        omega
      · simp only [e1, e2, if_false] at e
        exact h.inj i j (by omega) (by omega) e
  · intro j hj
    by_cases e : j = k
    · simp only [e, if_true]; omega
    · simp only [e, if_false]; exact h.far j (by omega)

theorem SSinf : (Try.prog.info? 41).map (fun i => (i.zero, i.size, i.bytes)) = some (some (.slice none 0 0), 1, 24) := by kernel_rfl
theorem iWorkers_any (q : Int) (w : World) : Calls Try.prog 144 #[.int .i64 q] w fun e w' => e = .returned (.bool (decide (1 ≤ q ∧ q ≤ 8))) ∧ w = w' := by
  by_cases h1 : 1 ≤ q
  · by_cases h2 : q ≤ 8
    · rw [decide_eq_true (show 1 ≤ q ∧ q ≤ 8 from ⟨h1, h2⟩)]
      go_enter Try.func144, Try.ntmps144
      go_wp2
      go_ret
      exact ⟨by simp [h2], rfl⟩
    · rw [decide_eq_false (show ¬ (1 ≤ q ∧ q ≤ 8) from fun h => h2 h.2)]
      go_enter Try.func144, Try.ntmps144
      go_wp2
      go_ret
      exact ⟨by simp [h2], rfl⟩
  · rw [decide_eq_false (show ¬ (1 ≤ q ∧ q ≤ 8) from fun h => h1 h.1)]
    go_enter Try.func144, Try.ntmps144
    go_wp2
    go_ret
    exact ⟨by simp, rfl⟩

set_option maxHeartbeats 1000000 in
set_option maxRecDepth 100000 in
theorem iRows_yes (a : Int) (y q : Nat) (hg : gridOk a (y : Int) = true) (hy : y ≤ 16) (hq : 1 ≤ q) (hq8 : q ≤ 8) (w : World) :
    Calls Try.prog 70 #[GV a (y : Int), .int .i64 (q : Int)] w fun e w' => (∃ v bs, e = .returned (.tuple #[v, .bool true]) ∧ R2 w.heap.size w' v q bs (rowsF y q)) ∧ Below w.heap.size w w' := by
  obtain ⟨ti, hi, hz0, hz1, hz2⟩ := info_parts SSinf
  have hb4 : ti.bytes * q ≤ 281474976710656 := by rw [hz2]; omega
  have hml : q ≤ maxLen := by unfold maxLen; omega
  have HI := Lib.hid hi; have HZ0 := Lib.hid hz0; have HZ1 := Lib.hid hz1; have HG := Lib.hid hg
  have HP := Lib.hid (gp_new w a (y : Int) 25)
  have HB0 := Lib.hid ((Below.refl w.heap.size w).alloc (Nat.le_refl _) (.cells #[.int .i64 a, .int .i64 (y : Int)] 25))
  have HX0 := Lib.hid (heap_alloc_new w (.cells #[.int .i64 a, .int .i64 (y : Int)] 25))
  clear hi hz0 hz1 hz2 hg
  go_enter Try.func70, Try.ntmps70
  go_wp2_with fail
  generalize w.alloc (.cells #[.int .i64 a, .int .i64 (y : Int)] 25) = v1 at HP HB0 HX0 ⊢
  refine (iValidGrid_any a (y : Int) _).mono ?_
  rintro e v2 ⟨rfl, h2⟩
  rw [HG.out]
  have HB2 := Lib.hid (HB0.out.trans (h2.mono HB0.out.size)); have HX2 := Lib.hid ((h2.block w.heap.size (Array.getElem?_eq_some_iff.1 HX0.out).1).trans HX0.out)
  clear h2 HP HB0 HX0
  go_wp2_with fail
  refine (iWorkers_any (q : Int) _).mono ?_
  rintro e v3 ⟨rfl, hw⟩
  obtain rfl := hw.symm
  clear hw
  rw [decide_eq_true (show 1 ≤ (q : Int) ∧ (q : Int) ≤ 8 by omega)]
  go_wp2_with (at_make; refine wpList_make_full _ rfl _ _ 69 rfl w.heap.size 41 ti (.slice none 0 0) 1 Try.underlying69 HI.out HZ0.out HZ1.out _ _ _ _ q rfl rfl rfl rfl hb4 hml HB2.out.size ?_; intro v5 hown hgrow)
  rw [Nat.mul_one, show (madeCells (Value.slice none 0 0).cells q).toList = List.replicate q (Value.slice none 0 0) from toList_madeCells_one _ _] at hown
  have HI0 := Lib.hid (show R2I w.heap.size v5 v3.heap.size q 0 (fun _ => 0) (rowsF y q) from ⟨by
    rw [show (List.range q).map (fun j => if j < 0 then Value.slice (some ⟨(fun _ => 0) j, 0, none⟩) 2 2 else .slice none 0 0) = List.replicate q (Value.slice none 0 0) from by apply List.ext_getElem <;> simp]
    exact hown, fun j hj => absurd hj (Nat.not_lt_zero _), fun j hj => absurd hj (Nat.not_lt_zero _), fun i j hi => absurd hi (Nat.not_lt_zero _), fun j hj => absurd hj (Nat.not_lt_zero _)⟩)
  have HB5 := Lib.hid (HB2.out.grown hgrow HB2.out.size (fun k h => by cases h))
  have HX5 := Lib.hid ((hgrow.block w.heap.size (Array.getElem?_eq_some_iff.1 HX2.out).1 (fun e => by cases e)).trans HX2.out)
  have HGL := Lib.hid (show w.heap.size < v3.heap.size from (Array.getElem?_eq_some_iff.1 HX2.out).1)
  clear hown hgrow hb4 hml HI HZ0 HZ1 HX2
  generalize v3.heap.size = g at HI0 HGL ⊢
  go_loopw [20] (fun i wr => ∃ (k : Nat) (bs : Nat → Nat), k ≤ q ∧ i = .int .i64 (k : Int) ∧ Hid (Below w.heap.size w wr) ∧ Hid (wr.heap[w.heap.size]? = some (.cells #[.int .i64 a, .int .i64 (y : Int)] 25)) ∧ Hid (R2I w.heap.size wr g q k bs (rowsF y q))) (fun i _ => q - (intOf i).toNat)
  case atStart => exact ⟨0, _, Nat.zero_le _, rfl, HB5, HX5, HI0⟩
  case round =>
    clear HI0 HB5 HX5
    obtain ⟨k, bs, hk, rfl, HB, HX, HR⟩ := hrel
    by_cases hlt : k < q
    · have hz : (k : Int) < (q : Int) := by omega
      have hz0 : (0 : Int) ≤ (k : Int) := Int.natCast_nonneg _
      obtain ⟨c0, c1, _, _⟩ := two_cells HX.out
      go_wp2_with fail
      clear c0 c1
      refine (iSpan_any a y q k hy hq hq8 hlt _).mono ?_
      rintro e w2 ⟨rfl, h2⟩
      have HR2 := Lib.hid (HR.out.kept h2)
      have HB2 := Lib.hid (HB.out.trans (h2.mono HB.out.size))
      have HX2 := Lib.hid ((h2.block w.heap.size (Array.getElem?_eq_some_iff.1 HX.out).1).trans HX.out)
      have HFS := Lib.hid (show (rowsF y q k).1 = (spF y q k : Int) ∧ (rowsF y q k).2 = (spC y q k : Int) from ⟨rfl, rfl⟩)
      clear h2 HB HX HR
      generalize (spF y q k : Int) = f at HFS ⊢
      generalize (spC y q k : Int) = c at HFS ⊢
      obtain ⟨xk, fk⟩ := HR2.out.at hlt
      have hgl := (HR2.out.own.lt g rfl).2
      have hn1 : ¬ (g = w2.heap.size) := by omega
      have hn2 : ¬ (w2.heap.size = g) := by omega
      have hn3 : ¬ (g = w2.heap.size + 1) := by omega
      have hn4 : ¬ (w2.heap.size + 1 = g) := by omega
      go_wp2_with fail
      have HW := Lib.hid (((Below.refl (w2.setCell ⟨g, k, none⟩ (.slice (some ⟨w2.heap.size + 1, 0, none⟩) 2 2)).heap.size (w2.setCell ⟨g, k, none⟩ (.slice (some ⟨w2.heap.size + 1, 0, none⟩) 2 2))).alloc (Nat.le_refl _) (.cells #[.int .i64 f, .int .i64 c] 181)).alloc (by simp) (.cells #[.int .i64 f, .int .i64 c] 2))
      have HN := Lib.hid (show (((w2.setCell ⟨g, k, none⟩ (.slice (some ⟨w2.heap.size + 1, 0, none⟩) 2 2)).alloc (.cells #[.int .i64 f, .int .i64 c] 181)).alloc (.cells #[.int .i64 f, .int .i64 c] 2)).heap[w2.heap.size + 1]? = some (.cells #[.int .i64 (rowsF y q k).1, .int .i64 (rowsF y q k).2] 2) from by
        have h1 := heap_alloc2_new (w2.setCell ⟨g, k, none⟩ (.slice (some ⟨w2.heap.size + 1, 0, none⟩) 2 2)) (.cells #[.int .i64 f, .int .i64 c] 181) (.cells #[.int .i64 f, .int .i64 c] 2)
        rw [HFS.out.1, HFS.out.2]
        simpa using h1)
      have HB3 := Lib.hid (((HB2.out.setCell (p := ⟨g, k, none⟩) (Nat.le_of_lt HGL.out) (.slice (some ⟨w2.heap.size + 1, 0, none⟩) 2 2)).alloc (by have := HB2.out.size; simp; omega) (.cells #[.int .i64 f, .int .i64 c] 181)).alloc (by have := HB2.out.size; simp; omega) (.cells #[.int .i64 f, .int .i64 c] 2))
      have HX3 := Lib.hid (show (((w2.setCell ⟨g, k, none⟩ (.slice (some ⟨w2.heap.size + 1, 0, none⟩) 2 2)).alloc (.cells #[.int .i64 f, .int .i64 c] 181)).alloc (.cells #[.int .i64 f, .int .i64 c] 2)).heap[w.heap.size]? = some (.cells #[.int .i64 a, .int .i64 (y : Int)] 25) from by
        rw [HW.out.block w.heap.size (by have := HGL.out; simp; omega), heap_setCell_other w2 ⟨g, k, none⟩ w.heap.size _ (by have := HGL.out; show w.heap.size ≠ g; omega)]
        exact HX2.out)
      have HR3 := Lib.hid (R2I.step HR2.out hlt (by have := HB2.out.size; omega) (Nat.le_succ _) HW.out HN.out)
      exact ⟨⟨k + 1, _, by omega, by go_num, HB3, HX3, HR3⟩, by simp [intOf]; omega⟩
    · obtain rfl : k = q := by omega
      clear hlt
      have HF := Lib.hid (R2I.done HR.out)
      go_wp2_with fail
      go_ret2
      exact ⟨⟨_, bs, rfl, HF.out⟩, HB.out⟩

set_option maxHeartbeats 1000000 in
theorem iRows_no (a b q : Int) (h : gridOk a b = false ∨ ¬ (1 ≤ q ∧ q ≤ 8)) (w : World) :
    Calls Try.prog 70 #[GV a b, .int .i64 q] w fun e w' => e = .returned (.tuple #[.slice none 0 0, .bool false]) ∧ Below w.heap.size w w' := by
  have HB0 := Lib.hid ((Below.refl w.heap.size w).alloc (Nat.le_refl _) (.cells #[.int .i64 a, .int .i64 b] 25))
  cases hg : gridOk a b with
  | false =>
    have HG := Lib.hid hg
    clear h hg
    go_enter Try.func70, Try.ntmps70
    go_wp2_with fail
    generalize w.alloc (.cells #[.int .i64 a, .int .i64 b] 25) = v1 at HB0 ⊢
    refine (iValidGrid_any a b _).mono ?_
    rintro e v2 ⟨rfl, h2⟩
    rw [HG.out]
    go_wp2_with fail
    go_ret2
    exact ⟨rfl, HB0.out.trans (h2.mono HB0.out.size)⟩
  | true =>
    have HG := Lib.hid hg
    have HQ := Lib.hid (show decide (1 ≤ q ∧ q ≤ 8) = false from decide_eq_false (by rcases h with h | h; · rw [hg] at h; cases h
                                                                                     · exact h))
    clear h hg
    go_enter Try.func70, Try.ntmps70
    go_wp2_with fail
    generalize w.alloc (.cells #[.int .i64 a, .int .i64 b] 25) = v1 at HB0 ⊢
    refine (iValidGrid_any a b _).mono ?_
    rintro e v2 ⟨rfl, h2⟩
    rw [HG.out]
    go_wp2_with fail
    refine (iWorkers_any q _).mono ?_
    rintro e v3 ⟨rfl, hw⟩
    obtain rfl := hw.symm
    clear hw
    rw [HQ.out]
    go_wp2_with fail
    go_ret2
    exact ⟨rfl, HB0.out.trans (h2.mono HB0.out.size)⟩

/-! ### the model -/
theorem w64 {x : Int} (h0 : -1000 ≤ x) (h1 : x ≤ 1000) : wrap64 x = x := by unfold wrap64; omega
theorem R2.push {B k : Nat} {wr w' : World} {v v' : Value} {bs : Nat → Nat} {F : Nat → Int × Int} {x y : Int} {o2 : Obj} (h : R2 B wr v k bs F) (hB : B ≤ wr.heap.size) (hx : (F k).1 = x) (hy : (F k).2 = y)
    (hown : w'.ownsRow B 41 1 v' (k + 1) ((List.range k).map (fun k => Value.slice (some ⟨bs k, 0, none⟩) 2 2) ++ [.slice (some ⟨wr.heap.size, 0, none⟩) 2 2]))
    (hgrow : ((wr.alloc (.cells #[.int .i64 x, .int .i64 y] 2)).alloc o2).grownBy w' v.ownBlock) : R2 B w' v' (k + 1) (fun j => if j = k then wr.heap.size else bs j) F := by
  have hold : ∀ b o, wr.heap[b]? = some o → v.ownBlock ≠ some b → w'.heap[b]? = some o := fun b o hb hne => by
    have hlt := (Array.getElem?_eq_some_iff.1 hb).1
    rw [hgrow.block b (by simp; omega) (fun e => hne e.symm)]
    have h1 := (((Below.refl wr.heap.size wr).alloc (Nat.le_refl _) (.cells #[.int .i64 x, .int .i64 y] 2)).alloc (by simp) o2).block b hlt
    rw [h1]; exact hb
  have hnew : w'.heap[wr.heap.size]? = some (.cells #[.int .i64 x, .int .i64 y] 2) := by
    rw [hgrow.block wr.heap.size (by simp; omega) (fun e => by have := (h.own.lt _ e.symm).2; omega)]
    exact heap_alloc2_old wr _ _
  have hty : ∀ b x y, w'.heap[b]? = some (.cells #[.int .i64 x, .int .i64 y] 2) → v'.ownBlock ≠ some b := fun b x y hb e => by
    rcases hown.2 with ⟨rfl, _⟩ | ⟨g', cap', cur', rfl, _, hg', _⟩
    · simp [Value.ownBlock] at e
    · have e' : g' = b := Option.some.inj e
      subst e'
      rw [hb] at hg'
      simp at hg'
  refine ⟨?_, ?_, ?_, ?_, ?_⟩
  · rw [show (List.range (k + 1)).map (fun j => Value.slice (some ⟨(if j = k then wr.heap.size else bs j), 0, none⟩) 2 2) = (List.range k).map (fun k => Value.slice (some ⟨bs k, 0, none⟩) 2 2) ++ [.slice (some ⟨wr.heap.size, 0, none⟩) 2 2] from by
      rw [List.range_succ, List.map_append]
      congr 1
      · apply List.map_congr_left
        intro j hj
        rw [if_neg (by have := List.mem_range.1 hj; omega)]
      · simp]
    exact hown
  · intro j hj
    by_cases e : j = k
    · simp only [e, if_true]; exact hB
    · simp only [e, if_false]; exact h.low j (by omega)
  · intro j hj
    by_cases e : j = k
    · subst e; simp only [if_true]; rw [hx, hy]; exact hnew
    · simp only [e, if_false]
      exact hold _ _ (h.row j (by omega)) (h.far j (by omega))
  · intro i j hi hj e
    by_cases e1 : i = k
    · by_cases e2 : j = k
      · omega
      · simp only [e1, e2, if_true, if_false] at e
        have h4 := (Array.getElem?_eq_some_iff.1 (h.row j (by omega))).1
        omega
    · by_cases e2 : j = k
      · simp only [e1, e2, if_true, if_false] at e
        have h4 := (Array.getElem?_eq_some_iff.1 (h.row i (by omega))).1
        omega
      · simp only [e1, e2, if_false] at e
        exact h.inj i j (by omega) (by omega) e
  · intro j hj
    by_cases e : j = k
    · simp only [e, if_true]; exact hty _ _ _ hnew
    · simp only [e, if_false]
      exact hty _ _ _ (hold _ _ (h.row j (by omega)) (h.far j (by omega)))

set_option maxHeartbeats 1000000 in
set_option maxRecDepth 100000 in
theorem sRows_yes (a : Int) (y q : Nat) (hg : gridOk a (y : Int) = true) (hy : y ≤ 16) (hq : 1 ≤ q) (hq8 : q ≤ 8) (w : World) :
    Calls Try.prog 68 #[GV a (y : Int), .int .i64 (q : Int)] w fun e w' => (∃ v bs, e = .returned (.tuple #[v, .bool true]) ∧ R2 w.heap.size w' v q bs (rowsF y q)) ∧ Below w.heap.size w w' := by
  obtain ⟨ti, hi, hz0, hz1, hz2⟩ := info_parts SSinf
  have HI := Lib.hid hi; have HZ0 := Lib.hid hz0; have HZ1 := Lib.hid hz1; have HZ2 := Lib.hid hz2; have HG := Lib.hid hg
  have HP := Lib.hid (gp_new w a (y : Int) 25)
  have HB0 := Lib.hid ((Below.refl w.heap.size w).alloc (Nat.le_refl _) (.cells #[.int .i64 a, .int .i64 (y : Int)] 25))
  have HX0 := Lib.hid (heap_alloc_new w (.cells #[.int .i64 a, .int .i64 (y : Int)] 25))
  clear hi hz0 hz1 hz2 hg
  go_enter Try.func68, Try.ntmps68
  go_wp2_with fail
  generalize w.alloc (.cells #[.int .i64 a, .int .i64 (y : Int)] 25) = v1 at HP HB0 HX0 ⊢
  refine (sIs_any _ a (y : Int) _ HP.out).mono ?_
  rintro e v2 ⟨rfl, hw⟩
  obtain rfl := hw.symm
  clear hw
  rw [HG.out]
  go_wp2_with fail
  refine (sIn_any (q : Int) 1 8 _).mono ?_
  rintro e v3 ⟨rfl, hw⟩
  obtain rfl := hw.symm
  clear hw
  rw [decide_eq_true (show 1 ≤ (q : Int) ∧ (q : Int) ≤ 8 by omega)]
  go_wp2_with fail
  have HR0 := Lib.hid (show R2 w.heap.size (v3.alloc (.cells #[] 41)) (.slice (some ⟨v3.heap.size, 0, none⟩) 0 0) 0 (fun _ => 0) (rowsF y q) from
    ⟨World.ownsRow_made v3 #[] 0 HB0.out.size (Nat.zero_le _) (by simp), fun j hj => absurd hj (Nat.not_lt_zero _), fun j hj => absurd hj (Nat.not_lt_zero _), fun i j hi => absurd hi (Nat.not_lt_zero _), fun j hj => absurd hj (Nat.not_lt_zero _)⟩)
  have HB1 := Lib.hid (HB0.out.alloc HB0.out.size (.cells #[] 41))
  have HX1 := Lib.hid ((((Below.refl v3.heap.size v3).alloc (Nat.le_refl _) (.cells #[] 41)).block w.heap.size (Array.getElem?_eq_some_iff.1 HX0.out).1).trans HX0.out)
  have HWL := Lib.hid (show w.heap.size < v3.heap.size from (Array.getElem?_eq_some_iff.1 HX0.out).1)
  have HLB := Lib.hid (show R2 v3.heap.size (v3.alloc (.cells #[] 41)) (.slice (some ⟨v3.heap.size, 0, none⟩) 0 0) 0 (fun _ => 0) (rowsF y q) from
    ⟨World.ownsRow_made v3 #[] 0 (Nat.le_refl _) (Nat.zero_le _) (by simp), fun j hj => absurd hj (Nat.not_lt_zero _), fun j hj => absurd hj (Nat.not_lt_zero _), fun i j hi => absurd hi (Nat.not_lt_zero _), fun j hj => absurd hj (Nat.not_lt_zero _)⟩)
  have HVS := Lib.hid (show v3.heap.size ≤ (v3.alloc (.cells #[] 41)).heap.size by simp)
  generalize v3.alloc (.cells #[] 41) = v4 at HR0 HB1 HX1 HLB HVS ⊢
  clear HP HB0 HX0 HR0
  go_loopw [6, 7, 8] (fun vv ff i wr => ∃ (k : Nat) (bs : Nat → Nat), k ≤ q ∧ i = .int .i64 (k : Int) ∧ ff = .int .i64 (spF y q k : Int) ∧ Hid (v3.heap.size ≤ wr.heap.size) ∧ Hid (Below w.heap.size w wr) ∧ Hid (wr.heap[w.heap.size]? = some (.cells #[.int .i64 a, .int .i64 (y : Int)] 25)) ∧ Hid (R2 v3.heap.size wr vv k bs (rowsF y q))) (fun _ _ i _ => q - (intOf i).toNat)
  case atStart => exact ⟨0, _, Nat.zero_le _, rfl, by unfold spF; simp, HVS, HB1, HX1, HLB⟩
  case round =>
    clear HB1 HX1 HLB HVS
    obtain ⟨k, bs, hk, rfl, rfl, HS, HB, HX, HR⟩ := hrel
    by_cases hlt : k < q
    · have hz : (k : Int) < (q : Int) := by omega
      obtain ⟨s1, s2, s3, s4⟩ := sp_in (y := y) (q := q) (k := k) hy hq (by omega)
      obtain ⟨c0, c1, _, _⟩ := two_cells HX.out
      have q0 : ¬ ((q : Int) = 0) := by omega
      have q1 : ¬ ((q : Int) = -1) := by omega
      have HNX := Lib.hid (sp_next y q k)
      have HF2 := Lib.hid (show spC y q k = y / q + if k < y % q then 1 else 0 from rfl)
      obtain ⟨en, hen⟩ : ∃ en, en = y / q := ⟨_, rfl⟩
      obtain ⟨on, hon⟩ : ∃ on, on = y % q := ⟨_, rfl⟩
      rw [← hen] at s2
      rw [← hen, ← hon] at HF2
      have HE1 := Lib.hid (show wrap64 ((y : Int) / (q : Int)) = (en : Int) from by
        rw [show (y : Int) / (q : Int) = ((y / q : Nat) : Int) from rfl, ← hen]
        exact w64 (by omega) (by omega))
      have HE2 := Lib.hid (show (y : Int) % (q : Int) = (on : Int) from by rw [hon]; rfl)
      clear hen hon s1 HNX
      by_cases hko : k < on
      · have hc : ((spC y q k : Nat) : Int) = (en : Int) + 1 := by rw [HF2.out, if_pos hko, Int.natCast_add]; rfl
        have hw3 : wrap64 ((en : Int) + 1) = (en : Int) + 1 := w64 (by omega) (by omega)
        have hw4 : wrap64 ((spF y q k : Int) + ((en : Int) + 1)) = (spF y q k : Int) + ((en : Int) + 1) := w64 (by omega) (by omega)
        have HNX := Lib.hid (show (spF y q k : Int) + ((en : Int) + 1) = ((spF y q (k + 1) : Nat) : Int) from by rw [← hc, sp_next, Int.natCast_add])
        have HRF := Lib.hid (show (rowsF y q k).1 = (spF y q k : Int) ∧ (rowsF y q k).2 = (en : Int) + 1 from ⟨rfl, hc⟩)
        have hz2 : (k : Int) < (on : Int) := by omega
        have e1 := HE1.out
        have e2 := HE2.out
        clear hc hko s2 s3 s4 HF2 HE1 HE2
        generalize (spF y q k : Int) = ff at *
        generalize (en : Int) = ee at *
        generalize (on : Int) = oo at *
        go_wp2_with (at_builtin; refine wpList_append_own _ rfl _ _ 69 rfl v3.heap.size 41 ti (.slice none 0 0) 1 24 Try.underlying69 HI.out HZ0.out HZ1.out HZ2.out rfl (by decide) _ _ _ rfl (World.ownsRow.alloc (World.ownsRow.alloc HR.out.own _) _) ⟨wr.heap.size + 1, 0, none⟩ 1 1 [Value.slice (some ⟨wr.heap.size, 0, none⟩) 2 2] rfl rfl (by intro j u' hj; match j, hj with | 0, hj => simp at hj; subst hj; simp [Addr.add]) (by intro u' hu'; simp at hu'; subst hu'; rfl) (by unfold maxLen; omega) (by omega) (by have := HS.out; simp; omega) ?_; intro v' w' hown' hgrow hnil)
        have HR3 := Lib.hid (R2.push HR.out HS.out HRF.out.1 HRF.out.2 hown' hgrow)
        have HB3 := Lib.hid (((HB.out.alloc HB.out.size (.cells #[.int .i64 ff, .int .i64 (ee + 1)] 2)).alloc (by have := HB.out.size; simp; omega) (.cells #[.slice (some ⟨wr.heap.size, 0, none⟩) 2 2] 41)).grown hgrow (by have := HB.out.size; simp; omega) (fun k' hk' => by have := (HR.out.own.lt k' hk').1; have := HWL.out; omega))
        have HX3 := Lib.hid (show w'.heap[w.heap.size]? = some (.cells #[.int .i64 a, .int .i64 (y : Int)] 25) from by
          have hlt := (Array.getElem?_eq_some_iff.1 HX.out).1
          rw [hgrow.block w.heap.size (by simp; omega) (fun e => by have := (HR.out.own.lt _ e.symm).1; have := HWL.out; omega)]
          exact ((((Below.refl wr.heap.size wr).alloc (Nat.le_refl _) _).alloc (by simp) _).block w.heap.size hlt).trans HX.out)
        have HS3 := Lib.hid (show v3.heap.size ≤ w'.heap.size from by have h1 := hgrow.size; have := HS.out; simp at h1; omega)
        refine ⟨⟨k + 1, _, by omega, by go_num, by rw [← HNX.out]; exact congrArg _ hw4, HS3, HB3, HX3, HR3⟩, by simp [intOf]; omega⟩
      · have hc : ((spC y q k : Nat) : Int) = (en : Int) := by rw [HF2.out, if_neg hko, Nat.add_zero]
        have hw3 : wrap64 ((en : Int) + 1) = (en : Int) + 1 := w64 (by omega) (by omega)
        have hw4 : wrap64 ((spF y q k : Int) + ((en : Int))) = (spF y q k : Int) + ((en : Int)) := w64 (by omega) (by omega)
        have HNX := Lib.hid (show (spF y q k : Int) + ((en : Int)) = ((spF y q (k + 1) : Nat) : Int) from by rw [← hc, sp_next, Int.natCast_add])
        have HRF := Lib.hid (show (rowsF y q k).1 = (spF y q k : Int) ∧ (rowsF y q k).2 = (en : Int) from ⟨rfl, hc⟩)
        have hz2 : ¬ ((k : Int) < (on : Int)) := by omega
        have e1 := HE1.out
        have e2 := HE2.out
        clear hc hko s2 s3 s4 HF2 HE1 HE2
        generalize (spF y q k : Int) = ff at *
        generalize (en : Int) = ee at *
        generalize (on : Int) = oo at *
        go_wp2_with (at_builtin; refine wpList_append_own _ rfl _ _ 69 rfl v3.heap.size 41 ti (.slice none 0 0) 1 24 Try.underlying69 HI.out HZ0.out HZ1.out HZ2.out rfl (by decide) _ _ _ rfl (World.ownsRow.alloc (World.ownsRow.alloc HR.out.own _) _) ⟨wr.heap.size + 1, 0, none⟩ 1 1 [Value.slice (some ⟨wr.heap.size, 0, none⟩) 2 2] rfl rfl (by intro j u' hj; match j, hj with | 0, hj => simp at hj; subst hj; simp [Addr.add]) (by intro u' hu'; simp at hu'; subst hu'; rfl) (by unfold maxLen; omega) (by omega) (by have := HS.out; simp; omega) ?_; intro v' w' hown' hgrow hnil)
        have HR3 := Lib.hid (R2.push HR.out HS.out HRF.out.1 HRF.out.2 hown' hgrow)
        have HB3 := Lib.hid (((HB.out.alloc HB.out.size (.cells #[.int .i64 ff, .int .i64 (ee)] 2)).alloc (by have := HB.out.size; simp; omega) (.cells #[.slice (some ⟨wr.heap.size, 0, none⟩) 2 2] 41)).grown hgrow (by have := HB.out.size; simp; omega) (fun k' hk' => by have := (HR.out.own.lt k' hk').1; have := HWL.out; omega))
        have HX3 := Lib.hid (show w'.heap[w.heap.size]? = some (.cells #[.int .i64 a, .int .i64 (y : Int)] 25) from by
          have hlt := (Array.getElem?_eq_some_iff.1 HX.out).1
          rw [hgrow.block w.heap.size (by simp; omega) (fun e => by have := (HR.out.own.lt _ e.symm).1; have := HWL.out; omega)]
          exact ((((Below.refl wr.heap.size wr).alloc (Nat.le_refl _) _).alloc (by simp) _).block w.heap.size hlt).trans HX.out)
        have HS3 := Lib.hid (show v3.heap.size ≤ w'.heap.size from by have h1 := hgrow.size; have := HS.out; simp at h1; omega)
        refine ⟨⟨k + 1, _, by omega, by go_num, by rw [← HNX.out]; exact congrArg _ hw4, HS3, HB3, HX3, HR3⟩, by simp [intOf]; omega⟩
    · obtain rfl : k = q := by omega
      clear hlt
      obtain ⟨g, c, rfl⟩ := HR.out.form (by omega)
      have HF := Lib.hid (HR.out.le (Nat.le_of_lt HWL.out))
      have hge : ¬ ((k : Int) < (k : Int)) := by omega
      go_wp2_with fail
      go_ret2
      first | exact ⟨⟨_, bs, rfl, HF.out⟩, HB.out⟩ | exact ⟨⟨_, rfl, bs, HF.out⟩, HB.out⟩

set_option maxHeartbeats 1000000 in
theorem sRows_no (a b q : Int) (h : gridOk a b = false ∨ ¬ (1 ≤ q ∧ q ≤ 8)) (w : World) :
    Calls Try.prog 68 #[GV a b, .int .i64 q] w fun e w' => e = .returned (.tuple #[.slice none 0 0, .bool false]) ∧ Below w.heap.size w w' := by
  have HB0 := Lib.hid ((Below.refl w.heap.size w).alloc (Nat.le_refl _) (.cells #[.int .i64 a, .int .i64 b] 25))
  have HP := Lib.hid (gp_new w a b 25)
  cases hg : gridOk a b with
  | false =>
    have HG := Lib.hid hg
    clear h hg
    go_enter Try.func68, Try.ntmps68
    go_wp2_with fail
    generalize w.alloc (.cells #[.int .i64 a, .int .i64 b] 25) = v1 at HB0 HP ⊢
    refine (sIs_any _ a b _ HP.out).mono ?_
    rintro e v2 ⟨rfl, hw⟩
    obtain rfl := hw.symm
    rw [HG.out]
    go_wp2_with fail
    go_ret2
    exact ⟨rfl, HB0.out⟩
  | true =>
    have HG := Lib.hid hg
    have HQ := Lib.hid (show decide (1 ≤ q ∧ q ≤ 8) = false from decide_eq_false (by rcases h with h | h; · rw [hg] at h; cases h
                                                                                     · exact h))
    clear h hg
    go_enter Try.func68, Try.ntmps68
    go_wp2_with fail
    generalize w.alloc (.cells #[.int .i64 a, .int .i64 b] 25) = v1 at HB0 HP ⊢
    refine (sIs_any _ a b _ HP.out).mono ?_
    rintro e v2 ⟨rfl, hw⟩
    obtain rfl := hw.symm
    clear hw
    rw [HG.out]
    go_wp2_with fail
    refine (sIn_any q 1 8 _).mono ?_
    rintro e v3 ⟨rfl, hw⟩
    obtain rfl := hw.symm
    clear hw
    rw [HQ.out]
    go_wp2_with fail
    go_ret2
    exact ⟨rfl, HB0.out⟩
end Go.Proofs.Ytnknhfhllifnhaa
