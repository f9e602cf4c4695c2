/-
  SweepRows, of the program and of the model.
-/
import Derived.Test.YtjfnecmnofcjbaaRwsS
import Derived.Deep.Cut
namespace Go.Proofs.Ytjfnecmnofcjbaa
open Go.Fl Go.RowKit
open Go.Joins (ownsRow_le)
set_option linter.unusedSimpArgs false
set_option linter.unusedVariables false

theorem grown_drew' {w0 W : World} {row : Option Nat} (h : w0.grownBy W row) : w0.grownBy W.drew row := ⟨h.os, h.tape, h.output, h.size, h.block⟩
/-- A copy, as one step of a region that draws its order. -/
theorem step_copy_grown {P : Program} {ops : Array Oper} {o : Oper} {a : Act} {w : World} {K : Act → World → Prop} {Q : Exit → Act → World → Prop} {E : Prop} (hgd : o.guard = none) (d s : Operand) (dT sT : TypeId)
    (ho : o.op = .call { callee := .builtin .copy, args := #[d, s], argTypes := #[dT, sT] }) (elem : TypeId) (hu : P.underlying dT = some (.slice elem)) (hsz : (P.info? elem).map (·.size) = some 1)
    (ad : Addr) (dLen dCap sLen sCap : Nat) (g off : Nat) (hd : a.eval d = .slice (some ⟨g, off, none⟩) dLen dCap) (hs : a.eval s = .slice (some ad) sLen sCap)
    (cur : List Value) (t : TypeId) (hg : w.heap[g]? = some (.cells cur.toArray t (0, 0))) (cs : List Value) (hn : cs.length = Nat.min sLen dLen)
    (hsrc : ∀ j v, cs[j]? = some v → w.cell? (ad.add j) = some v)
    (hfit : off + cs.length ≤ cur.length) (h1 : ∀ v ∈ cs, v.oneCell' = true)
    (h : ∀ w', w'.heap[g]? = some (.cells (splice cur off cs).toArray t (0, 0)) → w.grownBy w' (some g) → K (a.put o.dst (goInt cs.length)) w') :
    if Region.wanted o (yielded ops a.tmps) = true then Oper.wp P o a w K Q else E := by
  have hw : Region.wanted o (yielded ops a.tmps) = true := by simp [Region.wanted, hgd]
  rw [if_pos hw]
  have hrun := run_copy_row (P := P) w dT sT o.type elem g off dLen dCap ad sLen sCap cur.toArray t cs hu hsz hg hn hsrc (by simpa using hfit) h1
  unfold Oper.wp
  simp [execOp, ho, resolve, invoke, builtin, hd, hs, hrun, Result.andThen]
  exact h _ (show _ = _ by simpa [splice] using setRow_heap w g _ _ t _ hg) ⟨rfl, rfl, rfl, by simp [World.setRow], fun k hk hr => setRow_other w g k _ (fun e => hr (by rw [e]))⟩
theorem hstep_store_row {P : Program} {ops : Array Oper} {o : Oper} {a : Act} {w : World} {K : Act → World → Prop} {Q : Exit → Act → World → Prop} {E : Prop} (hgd : o.guard = none) (ty : TypeId) (x y : Operand) (ho : o.op = .store ty x y)
    (g : Nat) (cells : Array Value) (hx : a.eval x = .pointer (some ⟨g, 0, none⟩)) (hy : a.eval y = .agg cells)
    (t : TypeId) (old : Array Value) (hg : w.heap[g]? = some (.cells old t (0, 0))) (hi : (P.info? ty).map (·.size) = some cells.size)
    (hold : old.size = cells.size) (h1 : cells.all (·.oneCell') = true)
    (h : K (a.put o.dst undef) (w.setRow g cells)) : if Region.wanted o (yielded ops a.tmps) = true then Oper.wp P o a w K Q else E := by
  have hw : Region.wanted o (yielded ops a.tmps) = true := by simp [Region.wanted, hgd]
  rw [if_pos hw]
  exact wp_store_row ty x y ho g cells hx hy t old hg hi hold h1 h
theorem rw_cells {B : Nat} {w : World} {g cap : Nat} {xs : List Nat} (h : RW B w g cap xs) : ∃ cur : List Value, w.heap[g]? = some (.cells cur.toArray 37) ∧ cur.length = cap ∧ cur.take xs.length = xs.map (Value.float .f32) ∧ xs.length ≤ cap ∧ cap ≤ maxLen ∧ B ≤ g := by
  rcases h.2 with ⟨h', _⟩ | ⟨g', cap', cur, h', hb, hg, hn, hm, hs, ht⟩
  · cases h'
  · simp only [Value.slice.injEq, Option.some.injEq, Addr.mk.injEq, and_true, true_and] at h'
    obtain ⟨rfl, rfl⟩ := h'
    exact ⟨cur.toList, by simpa using hg, by simpa using hs, by simpa using ht, hn, hm, hb⟩
theorem rw_of_cells {B : Nat} {w : World} {g cap : Nat} {xs : List Nat} {cur : List Value} (hg : w.heap[g]? = some (.cells cur.toArray 37)) (hl : cur.length = cap) (ht : cur.take xs.length = xs.map (Value.float .f32)) (hn : xs.length ≤ cap) (hm : cap ≤ maxLen) (hB : B ≤ g) : RW B w g cap xs :=
  ⟨by simp, .inr ⟨g, cap, cur.toArray, rfl, hB, hg, hn, hm, by simpa using hl, by simpa using ht⟩⟩
theorem take_splice {cur : List Value} {es qs : List Nat} {k : Nat} (hk : k + qs.length ≤ es.length) (ht : cur.take es.length = es.map (Value.float .f32)) (hl : es.length ≤ cur.length) : (splice cur k (qs.map (Value.float .f32))).take (splice es k qs).length = (splice es k qs).map (Value.float .f32) := by
  rw [length_splice es k qs hk]
  have e1 : cur = es.map (Value.float .f32) ++ cur.drop es.length := by rw [← ht]; exact (List.take_append_drop _ _).symm
  have e2 : splice (es.map (Value.float .f32) ++ cur.drop es.length) k (qs.map (Value.float .f32)) = splice (es.map (Value.float .f32)) k (qs.map (Value.float .f32)) ++ cur.drop es.length := by
    unfold splice
    rw [List.take_append_of_le_length (l₁ := es.map (Value.float .f32)) (by simp; omega), List.drop_append_of_le_length (l₁ := es.map (Value.float .f32)) (by simp; omega)]
    simp
  have e3 : splice (es.map (Value.float .f32)) k (qs.map (Value.float .f32)) = (splice es k qs).map (Value.float .f32) := by simp [splice, List.map_take, List.map_drop]
  rw [e1, e2, e3, List.take_append_of_le_length (by rw [List.length_map, length_splice es k qs hk]; exact Nat.le_refl _), List.take_of_length_le (by rw [List.length_map, length_splice es k qs hk]; exact Nat.le_refl _)]
theorem splice_at {es qs : List Nat} {k : Nat} (hk : k + qs.length ≤ es.length) (j : Nat) : (splice es k qs).getD j 0 = if k ≤ j ∧ j < k + qs.length then qs.getD (j - k) 0 else es.getD j 0 := by
  unfold splice
  rw [List.getD_eq_getElem?_getD]
  by_cases h1 : j < k
  · rw [if_neg (by omega), List.getElem?_append_left (by simp; omega), List.getElem?_take, if_pos h1, List.getD_eq_getElem?_getD]
  · rw [List.getElem?_append_right (by simp; omega), List.length_take, Nat.min_eq_left (by omega)]
    by_cases h2 : j < k + qs.length
    · rw [if_pos ⟨by omega, h2⟩, List.getElem?_append_left (by omega), List.getD_eq_getElem?_getD]
    · rw [if_neg (by omega), List.getElem?_append_right (by omega), List.getElem?_drop, List.getD_eq_getElem?_getD]
      congr 2
      omega
/-- A row in a block. -/
def RB (w : World) (g : Nat) (rs : List Nat) : Prop := w.heap[g]? = some (.cells (rs.map (Value.float .f32)).toArray 123)
theorem RB.at {w : World} {g : Nat} {rs : List Nat} (h : RB w g rs) {k : Nat} (hk : k < rs.length) : w.cell? ⟨g, k, none⟩ = some (.float .f32 (rs.getD k 0)) := by
  rw [Joins.cell_of_block h]
  simp [List.getD_eq_getElem?_getD, hk]
theorem RB.frozen {w : World} {g : Nat} {rs : List Nat} (h : RB w g rs) (k : Nat) : w.frozen? ⟨g, k, none⟩ = false := by
  unfold RB at h
  simp [World.frozen?, h]
theorem RB.put {w : World} {g : Nat} {rs : List Nat} (h : RB w g rs) (k r : Nat) : RB (w.setCell ⟨g, k, none⟩ (.float .f32 r)) g (rs.set k r) := by
  have := heap_setCell_same w g k _ _ (.float .f32 r) h
  unfold RB
  rw [this, ← map_set]
  simp
theorem RB.lt {w : World} {g : Nat} {rs : List Nat} (h : RB w g rs) : g < w.heap.size := (Array.getElem?_eq_some_iff.1 h).1
theorem RB.still {w w' : World} {g : Nat} {rs : List Nat} (h : RB w g rs) (hb : Below w.heap.size w w') : RB w' g rs := (hb.block g h.lt).trans h
theorem RB.grown {w w' : World} {g g' : Nat} {rs : List Nat} (h : RB w g rs) (hb : w.grownBy w' (some g')) (hne : g ≠ g') : RB w' g rs := (hb.block g h.lt (fun e => hne (Option.some.inj e))).trans h
theorem rv_size {rs : List Nat} (h : rs.length = 16) : (rs.map (Value.float .f32)).toArray.size = 16 := by simp [h]
theorem rv_one (rs : List Nat) : (rs.map (Value.float .f32)).toArray.all (·.oneCell') = true := by
  rw [Array.all_eq_true_iff_forall_mem]
  intro v hv
  have hv' : v ∈ rs.map (Value.float .f32) := by simpa using hv
  obtain ⟨x, _, rfl⟩ := List.mem_map.1 hv'
  rfl
theorem rv_info {rs : List Nat} (h : rs.length = 16) : (Try.prog.info? 123).map (·.size) = some (rs.map (Value.float .f32)).toArray.size := by rw [rv_size h]; exact info_row
theorem rb_stored {w : World} {g : Nat} {rs : List Nat} (h : w.heap[g]? = some Z16) : RB (w.setRow g (rs.map (Value.float .f32)).toArray) g rs ∧ w.grownBy (w.setRow g (rs.map (Value.float .f32)).toArray) (some g) :=
  ⟨setRow_heap w g _ _ _ _ h, ⟨rfl, rfl, rfl, by simp [World.setRow], fun k hk hr => setRow_other w g k _ (fun e => hr (by rw [e]))⟩⟩
theorem rb_fs {w : World} {g n : Nat} {rs : List Nat} (h : RB w g rs) (hl : rs.length = 16) (hn : n ≤ 16) (hx : ∀ x ∈ rs, x < 2 ^ FloatKind.f32.format.width) : FS .f32 w (.slice (some ⟨g, 0, none⟩) n 16) (rs.take n) := by
  have e : (rs.take n).length = n := by simp; omega
  refine ⟨some ⟨g, 0, none⟩, 16, by rw [e], by rw [e]; exact hn, by unfold maxLen; omega, fun x hx' => hx x (List.mem_of_mem_take hx'), ?_⟩
  by_cases h0 : n = 0
  · subst h0; exact .inl (by simp)
  · refine .inr ⟨g, 0, rfl, h.lt, fun i hi => ?_⟩
    rw [e] at hi
    rw [Nat.zero_add, h.at (by omega), List.getD_eq_getElem?_getD, List.getD_eq_getElem?_getD, List.getElem?_take, if_pos hi]

theorem splice_row {es qs : List Nat} {n y k1 : Nat} (hn : 0 < n) (hk : k1 = n * y) (hq : qs.length = n) (hl : k1 + n ≤ es.length) (j : Nat) : (splice es k1 qs).getD j 0 = if j / n = y then qs.getD (j % n) 0 else es.getD j 0 := by
  rw [splice_at (by rw [hq]; exact hl), hq]
  have hd := Nat.div_add_mod j n
  have hm := Nat.mod_lt j hn
  by_cases h : j / n = y
  · rw [h, ← hk] at hd
    rw [if_pos h, if_pos (by omega), show j - k1 = j % n by omega]
  · rw [if_neg h, if_neg (fun q => h (Nat.div_eq_of_lt_le (by rw [Nat.mul_comm, ← hk]; exact q.1) (by rw [Nat.add_mul, Nat.one_mul, Nat.mul_comm y n, ← hk]; exact q.2)))]
theorem splice_lt {es qs : List Nat} {k M : Nat} (h1 : ∀ x ∈ es, x < M) (h2 : ∀ x ∈ qs, x < M) : ∀ x ∈ splice es k qs, x < M := by
  intro x hx
  unfold splice at hx
  rcases List.mem_append.1 hx with hx | hx
  · exact h1 x (List.mem_of_mem_take hx)
  · rcases List.mem_append.1 hx with hx | hx
    · exact h2 x hx
    · exact h1 x (List.mem_of_mem_drop hx)

set_option maxHeartbeats 4000000 in
set_option maxRecDepth 100000 in
theorem iSweepRows_yes (a b : Int) (u : Value) (xs : List Nat) (v : Value) (zs : List Nat) (w : World) (hu : FS .f32 w u xs) (hv : FS .f32 w v zs) (h1 : fieldOk a b xs.length = true) (h2 : fieldOk a b zs.length = true) :
    Calls Try.prog 27 #[GV a b, u, v] w fun e w' => (∃ x, e = .returned (.tuple #[x, .bool true]) ∧ FRes w.heap.size w' x xs.length (rwsF a b xs zs)) ∧ Below w.heap.size w w' := by
  have HU := Lib.hid hu; have HV := Lib.hid hv
  obtain ⟨a1, c1, rfl, hlc, hcm, hwf, hmem⟩ := hu
  obtain ⟨a2, c2, rfl, hlc2, hcm2, hwf2, hmem2⟩ := hv
  have HWX := Lib.hid hwf
  have hb0 := (Below.refl w.heap.size w).alloc (Nat.le_refl _) (.cells #[.int .i64 a, .int .i64 b] 27)
  have HG := Lib.hid (heap_alloc_new w (.cells #[.int .i64 a, .int .i64 b] 27))
  clear hmem hlc hcm hwf hmem2 hlc2 hcm2 hwf2
  have HLL := Lib.hid (show zs.length = xs.length by have := (fieldOk_true h1).2.2.2.2.1; have := (fieldOk_true h2).2.2.2.2.1; omega)
  have HA := Lib.hid (fieldOk_true h1)
  have H1 := Lib.hid h1; have H2 := Lib.hid h2
  have hpos : 0 < xs.length := by
    have := HA.out; have h4 : 4 * 4 ≤ a * b := Int.mul_le_mul this.1 this.2.2.1 (by omega) (by omega); omega
  obtain ⟨n, hn⟩ := Int.eq_ofNat_of_zero_le (show 0 ≤ a by have := HA.out; omega)
  subst hn
  have HN16 := Lib.hid (show n ≤ 16 ∧ 4 ≤ n by have := HA.out; omega)
  clear h1 h2
  go_enter Try.func27, Try.ntmps27
  go_wp2_with fail
  generalize w.alloc (.cells #[.int .i64 (n : Int), .int .i64 b] 27) = w1 at hb0 HG ⊢
  refine (newBoard_yes n b _ _ xs zs _ (HU.out.below hb0) (HV.out.below hb0) H1.out H2.out).mono ?_; rintro e w2 ⟨⟨p, q, rfl, hp, hq, hqp, hpq⟩, hb2⟩
  rw [HLL.out] at hq
  obtain ⟨gv, capv, rfl, hrv⟩ := RWr.of hp hpos
  obtain ⟨gl, capl, ls, rfl, hlsl, hlse, hlso⟩ := fres_row hq hpos
  have hrl : RW w1.heap.size w2 gl capl ls := by show w2.ownsRow _ _ _ (.slice _ ls.length _) ls.length _; rw [hlsl]; exact hlso
  have hne : gv ≠ gl := by
    rcases hpq with h | h
    · cases h
    · exact fun e => h (by rw [e]; rfl)
  have hbb := hb0.trans (hb2.mono hb0.size)
  have hal := (Below.refl w2.heap.size w2).alloc (Nat.le_refl _) (.cells #[.int .i64 (n : Int), .int .i64 b, .slice (some ⟨gv, 0, none⟩) xs.length capv, .slice (some ⟨gl, 0, none⟩) xs.length capl] 108)
  have HBX := Lib.hid (heap_alloc_new w2 (.cells #[.int .i64 (n : Int), .int .i64 b, .slice (some ⟨gv, 0, none⟩) xs.length capv, .slice (some ⟨gl, 0, none⟩) xs.length capl] 108))
  have HKV := Lib.hid (show gv ≠ w2.heap.size from by have := (hrv.lt gv rfl).2; omega)
  have HGW := Lib.hid (show gv ≠ w.heap.size from by have q1 := (hrv.lt gv rfl).1; have q2 := (Array.getElem?_eq_some_iff.1 HG.out).1; omega)
  have HRV := Lib.hid (RWr.le (hrv.still hal) hb0.size); have HRL := Lib.hid (RWr.le (hrl.still hal) hb0.size); have HNE := Lib.hid hne
  have HG3 := Lib.hid ((hal.block w.heap.size (Nat.lt_of_lt_of_le (Array.getElem?_eq_some_iff.1 HG.out).1 hb2.size)).trans ((hb2.block w.heap.size (Array.getElem?_eq_some_iff.1 HG.out).1).trans HG.out))
  have HLS := Lib.hid hlsl; have HLE := Lib.hid hlse
  have HB := Lib.hid (hbb.trans (hal.mono hbb.size))
  have HWL := Lib.hid (show ∀ x ∈ ls, x < 2 ^ FloatKind.f32.format.width from (EqOn.eqs hlse hlsl).lt)
  have HE0 := Lib.hid (show EqOn xs (rowsF n b (fun j => cn .f32 (ls.getD j 0)) (fun j => cn .f32 (xs.getD j 0)) 0) 0 xs.length from fun q _ hq => FS.is HWX.out q hq)
  clear hp hq hqp hpq hrv hlsl hlse hlso hrl hne hb2 hb0 hbb hal HG
  go_upto_region 4 with fail
  generalize w2.alloc (.cells #[.int .i64 (n : Int), .int .i64 b, .slice (some ⟨gv, 0, none⟩) xs.length capv, .slice (some ⟨gl, 0, none⟩) xs.length capl] 108) = w3 at HBX HRV HRL HB HG3 ⊢
  generalize w2.heap.size = kb at HBX HKV ⊢
  have g0 := (pair_cells HG3.out).1; have g1 := (pair_cells HG3.out).2.1
  go_wp2_with fail
  clear g0 g1
  go_loopw [28] (fun i wr => ∃ (y : Nat) (es : List Nat), i = .int .i64 (y : Int) ∧ (y : Int) ≤ b ∧ Hid (es.length = xs.length) ∧ Hid (∀ x ∈ es, x < 2 ^ FloatKind.f32.format.width) ∧ Hid (EqOn es (rowsF n b (fun j => cn .f32 (ls.getD j 0)) (fun j => cn .f32 (xs.getD j 0)) y) 0 xs.length) ∧ Hid (RW w.heap.size wr gv capv es) ∧ Hid (RW w.heap.size wr gl capl ls) ∧ Hid (wr.heap[w.heap.size]? = some (.cells #[.int .i64 (n : Int), .int .i64 b] 27)) ∧ Hid (wr.heap[kb]? = some (.cells #[.int .i64 (n : Int), .int .i64 b, .slice (some ⟨gv, 0, none⟩) xs.length capv, .slice (some ⟨gl, 0, none⟩) xs.length capl] 108)) ∧ Hid (Below w.heap.size w wr)) (fun i _ => (b - intOf i).toNat)
  case atStart => exact ⟨0, xs, rfl, by have := HA.out; omega, Lib.hid rfl, HWX, HE0, HRV, HRL, HG3, HBX, HB⟩
  case round =>
    clear HRV HRL HG3 HBX HB HE0
    obtain ⟨y, es, rfl, hyb, HEL, HEW, HE, HVE, HVL, HG, HX, HB⟩ := hrel
    by_cases hlt : (y : Int) < b
    · have HLT := Lib.hid hlt
      have HWY := Lib.hid (wrap_nexti hlt HA.out.2.2.2.1)
      obtain ⟨k1, hk1⟩ : ∃ k1 : Nat, (k1 : Int) = (n : Int) * ((y : Int) % b) := ⟨n * y, by rw [Int.emod_eq_of_lt (by omega) hlt]; simp⟩
      have HK1 := Lib.hid hk1
      have HY := Lib.hid (show -1 ≤ (y : Int) ∧ (y : Int) ≤ 16 by have := HA.out; omega)
      have g0 := (pair_cells HG.out).1; have g1 := (pair_cells HG.out).2.1
      have x3 := (four_cells HX.out).2.2.2.1
      clear hk1
      go_wp2_with fail
      clear g0 g1 x3
      have hfl := HVL.out.fs HWL.out
      rw [HLS.out] at hfl
      have hh := rowAt_any n b _ ls y k1 wr hfl (by rw [HLS.out]; exact H1.out) HK1.out HY.out
      rw [Int.toNat_natCast] at hh
      refine hh.mono ?_; clear hh hfl; rintro e w5 ⟨rfl, hb5⟩
      obtain ⟨k2, hk2⟩ : ∃ k2 : Nat, (k2 : Int) = (n : Int) * (((y : Int) - 1) % b) := by
        have := HA.out
        have h0 : 0 ≤ (n : Int) * (((y : Int) - 1) % b) := Int.mul_nonneg (by omega) (emod_facts b _ this.2.2.1).1
        exact ⟨((n : Int) * (((y : Int) - 1) % b)).toNat, by omega⟩
      obtain ⟨k3, hk3⟩ : ∃ k3 : Nat, (k3 : Int) = (n : Int) * (((y : Int) + 1) % b) := by
        have := HA.out
        have h0 : 0 ≤ (n : Int) * (((y : Int) + 1) % b) := Int.mul_nonneg (by omega) (emod_facts b _ this.2.2.1).1
        exact ⟨((n : Int) * (((y : Int) + 1) % b)).toNat, by omega⟩
      have HK2 := Lib.hid hk2; have HK3 := Lib.hid hk3
      have HY2 := Lib.hid (show -1 ≤ (y : Int) - 1 ∧ (y : Int) - 1 ≤ 16 by have := HY.out; omega)
      have HY3 := Lib.hid (show -1 ≤ (y : Int) + 1 ∧ (y : Int) + 1 ≤ 16 by have := HA.out; have := HLT.out; omega)
      have fits : ∀ (t : Int) (k : Nat), (k : Int) = (n : Int) * (t % b) → k + n ≤ xs.length := fun t k hk => by
        have h0 := HA.out
        have h1 := emod_facts b t h0.2.2.1
        have h2 : (n : Int) * (t % b + 1) ≤ (n : Int) * b := Int.mul_le_mul_of_nonneg_left (by omega) (by omega)
        rw [Int.mul_add, Int.mul_one] at h2
        omega
      have HF1 := Lib.hid (fits _ _ HK1.out); have HF2 := Lib.hid (fits _ _ HK2.out); have HF3 := Lib.hid (fits _ _ HK3.out)
      have HRL := Lib.hid (rowL_len (xs := ls) (k := k1) (n := n) (by rw [HLS.out]; exact HF1.out) HN16.out.1)
      have HPL := Lib.hid (rowL_len (xs := es) (k := k2) (n := n) (by rw [HEL.out]; exact HF2.out) HN16.out.1)
      have HQL := Lib.hid (rowL_len (xs := es) (k := k3) (n := n) (by rw [HEL.out]; exact HF3.out) HN16.out.1)
      have hwm : IntKind.i64.wrap ((y : Int) - 1) = (y : Int) - 1 := by rw [wrap_i64]; exact wrap64_of (by omega) (by have := HY.out; omega)
      have hwp : IntKind.i64.wrap ((y : Int) + 1) = (y : Int) + 1 := by rw [wrap_i64]; exact wrap64_of (by omega) (by have := HY.out; omega)
      have HV5 := Lib.hid (HVE.out.still hb5); have HL5 := Lib.hid (HVL.out.still hb5)
      have HG5 := Lib.hid ((hb5.block w.heap.size (Array.getElem?_eq_some_iff.1 HG.out).1).trans HG.out)
      have HX5 := Lib.hid ((hb5.block kb (Array.getElem?_eq_some_iff.1 HX.out).1).trans HX.out)
      have HB5 := Lib.hid (HB.out.trans (hb5.mono HB.out.size))
      clear hk2 hk3 fits hb5 HVE HVL HG HX HB
      have hz := heap_alloc_new w5 Z16
      go_upto_region 8 with ((with_reducible show wpList _ _ _ (Oper.mk none (Op.store _ _ _) _ _ _ _ :: _) _ _); refine wpList_store_row rfl 123 _ _ rfl w5.heap.size ((rowL ls k1 n).map (Value.float .f32)).toArray rfl rfl 123 _ hz (rv_info HRL.out) (by rw [rv_size HRL.out]; rfl) (rv_one _) ?_)
      have hs := rb_stored (rs := rowL ls k1 n) hz
      have hb := (Below.refl w5.heap.size w5).alloc (Nat.le_refl _) Z16
      have hb6 : Below w5.heap.size w5 ((w5.alloc Z16).setRow w5.heap.size ((rowL ls k1 n).map (Value.float .f32)).toArray) := hb.grown hs.2 (by simp) (fun q e => by cases e; exact Nat.le_refl _)
      have HR6 := Lib.hid hs.1
      have HV6 := Lib.hid (HV5.out.still hb6); have HL6 := Lib.hid (HL5.out.still hb6)
      have HG6 := Lib.hid ((hb6.block w.heap.size (Array.getElem?_eq_some_iff.1 HG5.out).1).trans HG5.out)
      have HX6 := Lib.hid ((hb6.block kb (Array.getElem?_eq_some_iff.1 HX5.out).1).trans HX5.out)
      have HB6 := Lib.hid (HB5.out.trans (hb6.mono HB5.out.size))
      have HRW := Lib.hid (show w5.heap.size ≠ gv ∧ w5.heap.size ≠ gl ∧ w5.heap.size ≠ w.heap.size ∧ w5.heap.size ≠ kb ∧ w.heap.size < w5.heap.size by have q1 := (HV5.out.lt gv rfl).2; have q2 := (HL5.out.lt gl rfl).2; have q3 := (Array.getElem?_eq_some_iff.1 HG5.out).1; have q4 := (Array.getElem?_eq_some_iff.1 HX5.out).1; omega)
      clear hz hs hb hb6 HV5 HL5 HG5 HX5 HB5
      generalize (w5.alloc Z16).setRow w5.heap.size ((rowL ls k1 n).map (Value.float .f32)).toArray = w6 at HR6 HV6 HL6 HG6 HX6 HB6 ⊢
      generalize w5.heap.size = kr at HR6 HRW ⊢
      obtain ⟨zr, hzr⟩ : ∃ zr, zr = w6.heap.size := ⟨_, rfl⟩
      have HZ6 := Lib.hid (show zr ≤ w6.heap.size by omega)
      have HZW := Lib.hid (show w.heap.size < zr by have q3 := (Array.getElem?_eq_some_iff.1 HG6.out).1; omega)
      have HZB := Lib.hid (show kb < zr by have q3 := (Array.getElem?_eq_some_iff.1 HX6.out).1; omega)
      have HZV := Lib.hid (show gv < zr by have q3 := (HV6.out.lt gv rfl).2; omega)
      have HZL := Lib.hid (show gl < zr by have q3 := (HL6.out.lt gl rfl).2; omega)
      have HZR := Lib.hid (show kr < zr by have q3 := HR6.out.lt; omega)
      clear hzr
      simp only [Act.put]
      go_cut [12, 13] from 36 to 47 (fun p q wx => ∃ (kp kq : Nat), p = .pointer (some ⟨kp, 0, none⟩) ∧ q = .pointer (some ⟨kq, 0, none⟩) ∧ Hid (kp ≠ kq) ∧ Hid (zr ≤ kp) ∧ Hid (zr ≤ kq) ∧ Hid (RB wx kp (rowL es k2 n)) ∧ Hid (RB wx kq (rowL es k3 n)) ∧ Hid (RB wx kr (rowL ls k1 n)) ∧ Hid (RW w.heap.size wx gv capv es) ∧ Hid (RW w.heap.size wx gl capl ls) ∧ Hid (wx.heap[w.heap.size]? = some (.cells #[.int .i64 (n : Int), .int .i64 b] 27)) ∧ Hid (wx.heap[kb]? = some (.cells #[.int .i64 (n : Int), .int .i64 b, .slice (some ⟨gv, 0, none⟩) xs.length capv, .slice (some ⟨gl, 0, none⟩) xs.length capl] 108)) ∧ Hid (Below w.heap.size w wx))
      case first =>
        refine wp_region_noPanic ?_
        refine wp_region_held_drew (S := fun w' => w'.cell? ⟨w.heap.size, 0, none⟩ = some (.int .i64 (n : Int)) ∧ w'.cell? ⟨w.heap.size, 1, none⟩ = some (.int .i64 b) ∧ w'.cell? ⟨kb, 0, none⟩ = some (.int .i64 (n : Int)) ∧ w'.cell? ⟨kb, 1, none⟩ = some (.int .i64 b) ∧ w'.cell? ⟨kb, 2, none⟩ = some (.slice (some ⟨gv, 0, none⟩) xs.length capv) ∧ w'.cell? ⟨kb, 3, none⟩ = some (.slice (some ⟨gl, 0, none⟩) xs.length capl)) (by kernel_rfl) ⟨(pair_cells HG6.out).1, (pair_cells HG6.out).2.1, (four_cells HX6.out).1, (four_cells HX6.out).2.1, (four_cells HX6.out).2.2.1, (four_cells HX6.out).2.2.2.1⟩ (fun hHeld => ?_)
        have hd := (Below.refl w6.heap.size w6).drew
        have HG0 := Lib.hid ((hd.block w.heap.size (Array.getElem?_eq_some_iff.1 HG6.out).1).trans HG6.out)
        have HX0 := Lib.hid ((hd.block kb (Array.getElem?_eq_some_iff.1 HX6.out).1).trans HX6.out)
        have HV0 := Lib.hid (HV6.out.still hd); have HL0 := Lib.hid (HL6.out.still hd); have HR0 := Lib.hid (HR6.out.still hd); have HB0 := Lib.hid (HB6.out.trans (hd.mono HB6.out.size)); have HZ0 := Lib.hid (show zr ≤ w6.drew.heap.size from HZ6.out)
        clear hd
        generalize w6.drew = v0 at HG0 HX0 HV0 HL0 HR0 HB0 HZ0 hHeld ⊢
        ((refine wpAnyH_take (i := 0) (v := ?_) rfl (by kernel_rfl) (by kernel_rfl) (by kernel_rfl) (fun _ _ _ h => h) (Or.inl ⟨by rfl, ?_⟩) (by assumption) ?_; rotate_left; (· intro w hSw; (try dsimp only at hSw); go_simp; first | done | with_reducible rfl); (try simp only [List.getElem_toArray, List.getElem_cons_zero, List.getElem_cons_succ, Act.put, List.setIfInBounds_toArray, List.set_cons_zero, List.set_cons_succ])); (refine wpAnyH_take (i := 1) (v := ?_) rfl (by kernel_rfl) (by kernel_rfl) (by kernel_rfl) (fun _ _ _ h => h) (Or.inl ⟨by rfl, ?_⟩) (by assumption) ?_; rotate_left; (· intro w hSw; (try dsimp only at hSw); go_simp; first | done | with_reducible rfl); (try simp only [List.getElem_toArray, List.getElem_cons_zero, List.getElem_cons_succ, Act.put, List.setIfInBounds_toArray, List.set_cons_zero, List.set_cons_succ])); (refine wpAnyH_take (i := 2) (v := ?_) rfl (by kernel_rfl) (by kernel_rfl) (by kernel_rfl) (fun _ _ _ h => h) (Or.inl ⟨by rfl, ?_⟩) (by assumption) ?_; rotate_left; (· intro w hSw; (try dsimp only at hSw); go_simp; first | done | with_reducible rfl); (try simp only [List.getElem_toArray, List.getElem_cons_zero, List.getElem_cons_succ, Act.put, List.setIfInBounds_toArray, List.set_cons_zero, List.set_cons_succ])); (refine wpAnyH_take (i := 3) (v := ?_) rfl (by kernel_rfl) (by kernel_rfl) (by kernel_rfl) (fun _ _ _ h => h) (Or.inl ⟨by rfl, ?_⟩) (by assumption) ?_; rotate_left; (· intro w hSw; (try dsimp only at hSw); go_simp; first | done | with_reducible rfl); (try simp only [List.getElem_toArray, List.getElem_cons_zero, List.getElem_cons_succ, Act.put, List.setIfInBounds_toArray, List.set_cons_zero, List.set_cons_succ])); (refine wpAnyH_take (i := 4) (v := ?_) rfl (by kernel_rfl) (by kernel_rfl) (by kernel_rfl) (fun _ _ _ h => h) (Or.inl ⟨by rfl, ?_⟩) (by assumption) ?_; rotate_left; (· intro w hSw; (try dsimp only at hSw); go_simp; first | done | with_reducible rfl); (try simp only [List.getElem_toArray, List.getElem_cons_zero, List.getElem_cons_succ, Act.put, List.setIfInBounds_toArray, List.set_cons_zero, List.set_cons_succ])); (refine wpAnyH_take (i := 6) (v := ?_) rfl (by kernel_rfl) (by kernel_rfl) (by kernel_rfl) (fun _ _ _ h => h) (Or.inl ⟨by rfl, ?_⟩) (by assumption) ?_; rotate_left; (· intro w hSw; (try dsimp only at hSw); go_simp; first | done | with_reducible rfl); (try simp only [List.getElem_toArray, List.getElem_cons_zero, List.getElem_cons_succ, Act.put, List.setIfInBounds_toArray, List.set_cons_zero, List.set_cons_succ])); (refine wpAnyH_take (i := 7) (v := ?_) rfl (by kernel_rfl) (by kernel_rfl) (by kernel_rfl) (fun _ _ _ h => h) (Or.inl ⟨by rfl, ?_⟩) (by assumption) ?_; rotate_left; (· intro w hSw; (try dsimp only at hSw); go_simp; first | done | with_reducible rfl); (try simp only [List.getElem_toArray, List.getElem_cons_zero, List.getElem_cons_succ, Act.put, List.setIfInBounds_toArray, List.set_cons_zero, List.set_cons_succ])); (refine wpAnyH_take (i := 8) (v := ?_) rfl (by kernel_rfl) (by kernel_rfl) (by kernel_rfl) (fun _ _ _ h => h) (Or.inl ⟨by rfl, ?_⟩) (by assumption) ?_; rotate_left; (· intro w hSw; (try dsimp only at hSw); go_simp; first | done | with_reducible rfl); (try simp only [List.getElem_toArray, List.getElem_cons_zero, List.getElem_cons_succ, Act.put, List.setIfInBounds_toArray, List.set_cons_zero, List.set_cons_succ])); (refine wpAnyH_take (i := 9) (v := ?_) rfl (by kernel_rfl) (by kernel_rfl) (by kernel_rfl) (fun _ _ _ h => h) (Or.inl ⟨by rfl, ?_⟩) (by assumption) ?_; rotate_left; (· intro w hSw; (try dsimp only at hSw); go_simp; first | done | with_reducible rfl); (try simp only [List.getElem_toArray, List.getElem_cons_zero, List.getElem_cons_succ, Act.put, List.setIfInBounds_toArray, List.set_cons_zero, List.set_cons_succ])); (refine wpAnyH_take (i := 10) (v := ?_) rfl (by kernel_rfl) (by kernel_rfl) (by kernel_rfl) (fun _ _ _ h => h) (Or.inl ⟨by rfl, ?_⟩) (by assumption) ?_; rotate_left; (· intro w hSw; (try dsimp only at hSw); go_simp; first | done | with_reducible rfl); (try simp only [List.getElem_toArray, List.getElem_cons_zero, List.getElem_cons_succ, Act.put, List.setIfInBounds_toArray, List.set_cons_zero, List.set_cons_succ])))
        refine wpAnyH_ready (rs := [5, 12, 13]) (by kernel_rfl) (by simp) ?_
        refine (AllReadyH.cons (i := 5) rfl (fun K hK => ?_) (AllReadyH.cons (i := 12) rfl (fun K hK => ?_) (AllReadyH.cons (i := 13) rfl (fun K hK => ?_) AllReadyH.nil)))
        · skip
          go_simp
          have hf := HV0.out.fs HEW.out
          rw [HEL.out] at hf
          have hh := rowAt_any n b _ es ((y : Int) - 1) k2 _ hf (by rw [HEL.out]; exact H1.out) HK2.out HY2.out
          rw [Int.toNat_natCast] at hh
          refine hh.mono ?_; clear hh hf; rintro e v1 ⟨rfl, hb⟩
          have HG1 := Lib.hid ((hb.block w.heap.size (Array.getElem?_eq_some_iff.1 HG0.out).1).trans HG0.out)
          have HX1 := Lib.hid ((hb.block kb (Array.getElem?_eq_some_iff.1 HX0.out).1).trans HX0.out)
          have HV1 := Lib.hid (HV0.out.still hb); have HL1 := Lib.hid (HL0.out.still hb); have HR1 := Lib.hid (HR0.out.still hb); have HB1 := Lib.hid (HB0.out.trans (hb.mono HB0.out.size)); have HZ1 := Lib.hid (Nat.le_trans HZ0.out hb.size)
          clear hb
          go_wp2_with fail
          (refine hK.out _ _ (⟨(pair_cells HG1.out).1, (pair_cells HG1.out).2.1, (four_cells HX1.out).1, (four_cells HX1.out).2.1, (four_cells HX1.out).2.2.1, (four_cells HX1.out).2.2.2.1⟩) (fun hHeld => ?_); clear hK K; (try simp only [List.getElem_toArray, List.getElem_cons_zero, List.getElem_cons_succ, Act.put, List.setIfInBounds_toArray, List.set_cons_zero, List.set_cons_succ]))
          refine wpAnyH_ready (rs := [11, 12, 13]) (by kernel_rfl) (by simp) ?_
          refine (AllReadyH.cons (i := 11) rfl (fun K hK => ?_) (AllReadyH.cons (i := 12) rfl (fun K hK => ?_) (AllReadyH.cons (i := 13) rfl (fun K hK => ?_) AllReadyH.nil)))
          · skip
            go_simp
            have hf := HV1.out.fs HEW.out
            rw [HEL.out] at hf
            have hh := rowAt_any n b _ es ((y : Int) + 1) k3 _ hf (by rw [HEL.out]; exact H1.out) HK3.out HY3.out
            rw [Int.toNat_natCast] at hh
            refine hh.mono ?_; clear hh hf; rintro e v2 ⟨rfl, hb⟩
            have HG2 := Lib.hid ((hb.block w.heap.size (Array.getElem?_eq_some_iff.1 HG1.out).1).trans HG1.out)
            have HX2 := Lib.hid ((hb.block kb (Array.getElem?_eq_some_iff.1 HX1.out).1).trans HX1.out)
            have HV2 := Lib.hid (HV1.out.still hb); have HL2 := Lib.hid (HL1.out.still hb); have HR2 := Lib.hid (HR1.out.still hb); have HB2 := Lib.hid (HB1.out.trans (hb.mono HB1.out.size)); have HZ2 := Lib.hid (Nat.le_trans HZ1.out hb.size)
            clear hb
            go_wp2_with fail
            (refine hK.out _ _ (⟨(pair_cells HG2.out).1, (pair_cells HG2.out).2.1, (four_cells HX2.out).1, (four_cells HX2.out).2.1, (four_cells HX2.out).2.2.1, (four_cells HX2.out).2.2.2.1⟩) (fun hHeld => ?_); clear hK K; (try simp only [List.getElem_toArray, List.getElem_cons_zero, List.getElem_cons_succ, Act.put, List.setIfInBounds_toArray, List.set_cons_zero, List.set_cons_succ]))
            refine wpAnyH_ready (rs := [12, 13]) (by kernel_rfl) (by simp) ?_
            refine (AllReadyH.cons (i := 12) rfl (fun K hK => ?_) (AllReadyH.cons (i := 13) rfl (fun K hK => ?_) AllReadyH.nil))
            · skip
              go_simp
              go_wp2_with fail
              have hb := (Below.refl v2.heap.size v2).alloc (Nat.le_refl _) Z16
              have HP3 := Lib.hid (heap_alloc_new v2 Z16)
              have HG3 := Lib.hid ((hb.block w.heap.size (Array.getElem?_eq_some_iff.1 HG2.out).1).trans HG2.out)
              have HX3 := Lib.hid ((hb.block kb (Array.getElem?_eq_some_iff.1 HX2.out).1).trans HX2.out)
              have HV3 := Lib.hid (HV2.out.still hb); have HL3 := Lib.hid (HL2.out.still hb); have HR3 := Lib.hid (HR2.out.still hb); have HB3 := Lib.hid (HB2.out.trans (hb.mono HB2.out.size)); have HZ3 := Lib.hid (Nat.le_trans HZ2.out hb.size)
              have Hkp := Lib.hid (show zr ≤ v2.heap.size from HZ2.out)
              clear hb
              generalize v2.alloc Z16 = v3 at HP3 HG3 HX3 HV3 HL3 HR3 HB3 HZ3 ⊢
              generalize v2.heap.size = kp at HP3 Hkp ⊢
              (refine hK.out _ _ (⟨(pair_cells HG3.out).1, (pair_cells HG3.out).2.1, (four_cells HX3.out).1, (four_cells HX3.out).2.1, (four_cells HX3.out).2.2.1, (four_cells HX3.out).2.2.2.1⟩) (fun hHeld => ?_); clear hK K; (try simp only [List.getElem_toArray, List.getElem_cons_zero, List.getElem_cons_succ, Act.put, List.setIfInBounds_toArray, List.set_cons_zero, List.set_cons_succ]))
              refine wpAnyH_ready (rs := [13]) (by kernel_rfl) (by simp) ?_
              refine (AllReadyH.cons (i := 13) rfl (fun K hK => ?_) AllReadyH.nil)
              go_simp
              go_wp2_with fail
              have hb := (Below.refl v3.heap.size v3).alloc (Nat.le_refl _) Z16
              have HQ4 := Lib.hid (heap_alloc_new v3 Z16)
              have HG4 := Lib.hid ((hb.block w.heap.size (Array.getElem?_eq_some_iff.1 HG3.out).1).trans HG3.out)
              have HX4 := Lib.hid ((hb.block kb (Array.getElem?_eq_some_iff.1 HX3.out).1).trans HX3.out)
              have HV4 := Lib.hid (HV3.out.still hb); have HL4 := Lib.hid (HL3.out.still hb); have HR4 := Lib.hid (HR3.out.still hb); have HB4 := Lib.hid (HB3.out.trans (hb.mono HB3.out.size)); have HZ4 := Lib.hid (Nat.le_trans HZ3.out hb.size)
              have HP4 := Lib.hid ((hb.block kp (Array.getElem?_eq_some_iff.1 HP3.out).1).trans HP3.out)
              have Hkq := Lib.hid (show zr ≤ v3.heap.size from HZ3.out)
              have HPQ := Lib.hid (show kp ≠ v3.heap.size by have := (Array.getElem?_eq_some_iff.1 HP3.out).1; omega)
              clear hb
              generalize v3.alloc Z16 = v4 at HQ4 HG4 HX4 HV4 HL4 HR4 HB4 HZ4 HP4 ⊢
              generalize v3.heap.size = kq at HQ4 Hkq HPQ ⊢
              (refine hK.out _ _ (⟨(pair_cells HG4.out).1, (pair_cells HG4.out).2.1, (four_cells HX4.out).1, (four_cells HX4.out).2.1, (four_cells HX4.out).2.2.1, (four_cells HX4.out).2.2.2.1⟩) (fun hHeld => ?_); clear hK K; (try simp only [List.getElem_toArray, List.getElem_cons_zero, List.getElem_cons_succ, Act.put, List.setIfInBounds_toArray, List.set_cons_zero, List.set_cons_succ]))
              refine wpAnyH_ready (rs := [14]) (by kernel_rfl) (by simp) ?_
              refine (AllReadyH.cons (i := 14) rfl (fun K hK => ?_) AllReadyH.nil)
              refine hstep_store_row rfl 123 _ _ rfl kp ((rowL es k2 n).map (Value.float .f32)).toArray rfl rfl 123 _ HP4.out (rv_info HPL.out) (by rw [rv_size HPL.out]; rfl) (rv_one _) ?_
              have hs := rb_stored (rs := (rowL es k2 n)) HP4.out
              have HP5 := Lib.hid hs.1
              have HG5 := Lib.hid ((hs.2.block w.heap.size (Array.getElem?_eq_some_iff.1 HG4.out).1 (fun e => by have q1 := Option.some.inj e; have q2 := Hkp.out; have q3 := HZW.out; omega)).trans HG4.out)
              have HX5 := Lib.hid ((hs.2.block kb (Array.getElem?_eq_some_iff.1 HX4.out).1 (fun e => by have q1 := Option.some.inj e; have q2 := Hkp.out; have q3 := HZB.out; omega)).trans HX4.out)
              have HV5 := Lib.hid (HV4.out.other hs.2 (by have q2 := Hkp.out; have q3 := HZV.out; omega)); have HL5 := Lib.hid (HL4.out.other hs.2 (by have q2 := Hkp.out; have q3 := HZL.out; omega)); have HR5 := Lib.hid (HR4.out.grown hs.2 (by have q2 := Hkp.out; have q3 := HZR.out; omega)); have HB5 := Lib.hid (HB4.out.grown hs.2 HB4.out.size (fun q e => by cases e; have q2 := Hkp.out; have q3 := HZW.out; omega)); have HZ5 := Lib.hid (Nat.le_trans HZ4.out hs.2.size)
              have HQ5 := Lib.hid ((hs.2.block kq (Array.getElem?_eq_some_iff.1 HQ4.out).1 (fun e => HPQ.out (Option.some.inj e).symm)).trans HQ4.out)
              clear hs
              generalize v4.setRow kp ((rowL es k2 n).map (Value.float .f32)).toArray = v5 at HG5 HX5 HV5 HL5 HR5 HB5 HZ5 HP5 HQ5 ⊢
              (refine hK.out _ _ (⟨(pair_cells HG5.out).1, (pair_cells HG5.out).2.1, (four_cells HX5.out).1, (four_cells HX5.out).2.1, (four_cells HX5.out).2.2.1, (four_cells HX5.out).2.2.2.1⟩) (fun hHeld => ?_); clear hK K; (try simp only [List.getElem_toArray, List.getElem_cons_zero, List.getElem_cons_succ, Act.put, List.setIfInBounds_toArray, List.set_cons_zero, List.set_cons_succ]))
              refine wpAnyH_ready (rs := [15]) (by kernel_rfl) (by simp) ?_
              refine (AllReadyH.cons (i := 15) rfl (fun K hK => ?_) AllReadyH.nil)
              refine hstep_store_row rfl 123 _ _ rfl kq ((rowL es k3 n).map (Value.float .f32)).toArray rfl rfl 123 _ HQ5.out (rv_info HQL.out) (by rw [rv_size HQL.out]; rfl) (rv_one _) ?_
              have hs := rb_stored (rs := (rowL es k3 n)) HQ5.out
              have HQ6 := Lib.hid hs.1
              have HG6 := Lib.hid ((hs.2.block w.heap.size (Array.getElem?_eq_some_iff.1 HG5.out).1 (fun e => by have q1 := Option.some.inj e; have q2 := Hkq.out; have q3 := HZW.out; omega)).trans HG5.out)
              have HX6 := Lib.hid ((hs.2.block kb (Array.getElem?_eq_some_iff.1 HX5.out).1 (fun e => by have q1 := Option.some.inj e; have q2 := Hkq.out; have q3 := HZB.out; omega)).trans HX5.out)
              have HV6 := Lib.hid (HV5.out.other hs.2 (by have q2 := Hkq.out; have q3 := HZV.out; omega)); have HL6 := Lib.hid (HL5.out.other hs.2 (by have q2 := Hkq.out; have q3 := HZL.out; omega)); have HR6 := Lib.hid (HR5.out.grown hs.2 (by have q2 := Hkq.out; have q3 := HZR.out; omega)); have HB6 := Lib.hid (HB5.out.grown hs.2 HB5.out.size (fun q e => by cases e; have q2 := Hkq.out; have q3 := HZW.out; omega)); have HZ6 := Lib.hid (Nat.le_trans HZ5.out hs.2.size)
              have HP6 := Lib.hid (HP5.out.grown hs.2 HPQ.out)
              clear hs
              generalize v5.setRow kq ((rowL es k3 n).map (Value.float .f32)).toArray = v6 at HG6 HX6 HV6 HL6 HR6 HB6 HZ6 HP6 HQ6 ⊢
              (refine hK.out _ _ (⟨(pair_cells HG6.out).1, (pair_cells HG6.out).2.1, (four_cells HX6.out).1, (four_cells HX6.out).2.1, (four_cells HX6.out).2.2.1, (four_cells HX6.out).2.2.2.1⟩) (fun hHeld => ?_); clear hK K; (try simp only [List.getElem_toArray, List.getElem_cons_zero, List.getElem_cons_succ, Act.put, List.setIfInBounds_toArray, List.set_cons_zero, List.set_cons_succ]))
              (refine wpAnyH_done (by kernel_rfl) ?_ _; refine NoPanic.normal ?_)
              clear hHeld
              go_wp2_with fail
              go_meet
              case rel => exact ⟨kp, kq, rfl, rfl, HPQ, Hkp, Hkq, HP6, HQ6, HR6, HV6, HL6, HG6, HX6, HB6⟩
            · skip
              go_simp
              go_wp2_with fail
              have hb := (Below.refl v2.heap.size v2).alloc (Nat.le_refl _) Z16
              have HQ3 := Lib.hid (heap_alloc_new v2 Z16)
              have HG3 := Lib.hid ((hb.block w.heap.size (Array.getElem?_eq_some_iff.1 HG2.out).1).trans HG2.out)
              have HX3 := Lib.hid ((hb.block kb (Array.getElem?_eq_some_iff.1 HX2.out).1).trans HX2.out)
              have HV3 := Lib.hid (HV2.out.still hb); have HL3 := Lib.hid (HL2.out.still hb); have HR3 := Lib.hid (HR2.out.still hb); have HB3 := Lib.hid (HB2.out.trans (hb.mono HB2.out.size)); have HZ3 := Lib.hid (Nat.le_trans HZ2.out hb.size)
              have Hkq := Lib.hid (show zr ≤ v2.heap.size from HZ2.out)
              clear hb
              generalize v2.alloc Z16 = v3 at HQ3 HG3 HX3 HV3 HL3 HR3 HB3 HZ3 ⊢
              generalize v2.heap.size = kq at HQ3 Hkq ⊢
              (refine hK.out _ _ (⟨(pair_cells HG3.out).1, (pair_cells HG3.out).2.1, (four_cells HX3.out).1, (four_cells HX3.out).2.1, (four_cells HX3.out).2.2.1, (four_cells HX3.out).2.2.2.1⟩) (fun hHeld => ?_); clear hK K; (try simp only [List.getElem_toArray, List.getElem_cons_zero, List.getElem_cons_succ, Act.put, List.setIfInBounds_toArray, List.set_cons_zero, List.set_cons_succ]))
              refine wpAnyH_ready (rs := [12]) (by kernel_rfl) (by simp) ?_
              refine (AllReadyH.cons (i := 12) rfl (fun K hK => ?_) AllReadyH.nil)
              go_simp
              go_wp2_with fail
              have hb := (Below.refl v3.heap.size v3).alloc (Nat.le_refl _) Z16
              have HP4 := Lib.hid (heap_alloc_new v3 Z16)
              have HG4 := Lib.hid ((hb.block w.heap.size (Array.getElem?_eq_some_iff.1 HG3.out).1).trans HG3.out)
              have HX4 := Lib.hid ((hb.block kb (Array.getElem?_eq_some_iff.1 HX3.out).1).trans HX3.out)
              have HV4 := Lib.hid (HV3.out.still hb); have HL4 := Lib.hid (HL3.out.still hb); have HR4 := Lib.hid (HR3.out.still hb); have HB4 := Lib.hid (HB3.out.trans (hb.mono HB3.out.size)); have HZ4 := Lib.hid (Nat.le_trans HZ3.out hb.size)
              have HQ4 := Lib.hid ((hb.block kq (Array.getElem?_eq_some_iff.1 HQ3.out).1).trans HQ3.out)
              have Hkp := Lib.hid (show zr ≤ v3.heap.size from HZ3.out)
              have HPQ := Lib.hid (show v3.heap.size ≠ kq by have := (Array.getElem?_eq_some_iff.1 HQ3.out).1; omega)
              clear hb
              generalize v3.alloc Z16 = v4 at HP4 HG4 HX4 HV4 HL4 HR4 HB4 HZ4 HQ4 ⊢
              generalize v3.heap.size = kp at HP4 Hkp HPQ ⊢
              (refine hK.out _ _ (⟨(pair_cells HG4.out).1, (pair_cells HG4.out).2.1, (four_cells HX4.out).1, (four_cells HX4.out).2.1, (four_cells HX4.out).2.2.1, (four_cells HX4.out).2.2.2.1⟩) (fun hHeld => ?_); clear hK K; (try simp only [List.getElem_toArray, List.getElem_cons_zero, List.getElem_cons_succ, Act.put, List.setIfInBounds_toArray, List.set_cons_zero, List.set_cons_succ]))
              refine wpAnyH_ready (rs := [14]) (by kernel_rfl) (by simp) ?_
              refine (AllReadyH.cons (i := 14) rfl (fun K hK => ?_) AllReadyH.nil)
              refine hstep_store_row rfl 123 _ _ rfl kp ((rowL es k2 n).map (Value.float .f32)).toArray rfl rfl 123 _ HP4.out (rv_info HPL.out) (by rw [rv_size HPL.out]; rfl) (rv_one _) ?_
              have hs := rb_stored (rs := (rowL es k2 n)) HP4.out
              have HP5 := Lib.hid hs.1
              have HG5 := Lib.hid ((hs.2.block w.heap.size (Array.getElem?_eq_some_iff.1 HG4.out).1 (fun e => by have q1 := Option.some.inj e; have q2 := Hkp.out; have q3 := HZW.out; omega)).trans HG4.out)
              have HX5 := Lib.hid ((hs.2.block kb (Array.getElem?_eq_some_iff.1 HX4.out).1 (fun e => by have q1 := Option.some.inj e; have q2 := Hkp.out; have q3 := HZB.out; omega)).trans HX4.out)
              have HV5 := Lib.hid (HV4.out.other hs.2 (by have q2 := Hkp.out; have q3 := HZV.out; omega)); have HL5 := Lib.hid (HL4.out.other hs.2 (by have q2 := Hkp.out; have q3 := HZL.out; omega)); have HR5 := Lib.hid (HR4.out.grown hs.2 (by have q2 := Hkp.out; have q3 := HZR.out; omega)); have HB5 := Lib.hid (HB4.out.grown hs.2 HB4.out.size (fun q e => by cases e; have q2 := Hkp.out; have q3 := HZW.out; omega)); have HZ5 := Lib.hid (Nat.le_trans HZ4.out hs.2.size)
              have HQ5 := Lib.hid ((hs.2.block kq (Array.getElem?_eq_some_iff.1 HQ4.out).1 (fun e => HPQ.out (Option.some.inj e).symm)).trans HQ4.out)
              clear hs
              generalize v4.setRow kp ((rowL es k2 n).map (Value.float .f32)).toArray = v5 at HG5 HX5 HV5 HL5 HR5 HB5 HZ5 HP5 HQ5 ⊢
              (refine hK.out _ _ (⟨(pair_cells HG5.out).1, (pair_cells HG5.out).2.1, (four_cells HX5.out).1, (four_cells HX5.out).2.1, (four_cells HX5.out).2.2.1, (four_cells HX5.out).2.2.2.1⟩) (fun hHeld => ?_); clear hK K; (try simp only [List.getElem_toArray, List.getElem_cons_zero, List.getElem_cons_succ, Act.put, List.setIfInBounds_toArray, List.set_cons_zero, List.set_cons_succ]))
              refine wpAnyH_ready (rs := [15]) (by kernel_rfl) (by simp) ?_
              refine (AllReadyH.cons (i := 15) rfl (fun K hK => ?_) AllReadyH.nil)
              refine hstep_store_row rfl 123 _ _ rfl kq ((rowL es k3 n).map (Value.float .f32)).toArray rfl rfl 123 _ HQ5.out (rv_info HQL.out) (by rw [rv_size HQL.out]; rfl) (rv_one _) ?_
              have hs := rb_stored (rs := (rowL es k3 n)) HQ5.out
              have HQ6 := Lib.hid hs.1
              have HG6 := Lib.hid ((hs.2.block w.heap.size (Array.getElem?_eq_some_iff.1 HG5.out).1 (fun e => by have q1 := Option.some.inj e; have q2 := Hkq.out; have q3 := HZW.out; omega)).trans HG5.out)
              have HX6 := Lib.hid ((hs.2.block kb (Array.getElem?_eq_some_iff.1 HX5.out).1 (fun e => by have q1 := Option.some.inj e; have q2 := Hkq.out; have q3 := HZB.out; omega)).trans HX5.out)
              have HV6 := Lib.hid (HV5.out.other hs.2 (by have q2 := Hkq.out; have q3 := HZV.out; omega)); have HL6 := Lib.hid (HL5.out.other hs.2 (by have q2 := Hkq.out; have q3 := HZL.out; omega)); have HR6 := Lib.hid (HR5.out.grown hs.2 (by have q2 := Hkq.out; have q3 := HZR.out; omega)); have HB6 := Lib.hid (HB5.out.grown hs.2 HB5.out.size (fun q e => by cases e; have q2 := Hkq.out; have q3 := HZW.out; omega)); have HZ6 := Lib.hid (Nat.le_trans HZ5.out hs.2.size)
              have HP6 := Lib.hid (HP5.out.grown hs.2 HPQ.out)
              clear hs
              generalize v5.setRow kq ((rowL es k3 n).map (Value.float .f32)).toArray = v6 at HG6 HX6 HV6 HL6 HR6 HB6 HZ6 HP6 HQ6 ⊢
              (refine hK.out _ _ (⟨(pair_cells HG6.out).1, (pair_cells HG6.out).2.1, (four_cells HX6.out).1, (four_cells HX6.out).2.1, (four_cells HX6.out).2.2.1, (four_cells HX6.out).2.2.2.1⟩) (fun hHeld => ?_); clear hK K; (try simp only [List.getElem_toArray, List.getElem_cons_zero, List.getElem_cons_succ, Act.put, List.setIfInBounds_toArray, List.set_cons_zero, List.set_cons_succ]))
              (refine wpAnyH_done (by kernel_rfl) ?_ _; refine NoPanic.normal ?_)
              clear hHeld
              go_wp2_with fail
              go_meet
              case rel => exact ⟨kp, kq, rfl, rfl, HPQ, Hkp, Hkq, HP6, HQ6, HR6, HV6, HL6, HG6, HX6, HB6⟩
          · skip
            go_simp
            go_wp2_with fail
            have hb := (Below.refl v1.heap.size v1).alloc (Nat.le_refl _) Z16
            have HP2 := Lib.hid (heap_alloc_new v1 Z16)
            have HG2 := Lib.hid ((hb.block w.heap.size (Array.getElem?_eq_some_iff.1 HG1.out).1).trans HG1.out)
            have HX2 := Lib.hid ((hb.block kb (Array.getElem?_eq_some_iff.1 HX1.out).1).trans HX1.out)
            have HV2 := Lib.hid (HV1.out.still hb); have HL2 := Lib.hid (HL1.out.still hb); have HR2 := Lib.hid (HR1.out.still hb); have HB2 := Lib.hid (HB1.out.trans (hb.mono HB1.out.size)); have HZ2 := Lib.hid (Nat.le_trans HZ1.out hb.size)
            have Hkp := Lib.hid (show zr ≤ v1.heap.size from HZ1.out)
            clear hb
            generalize v1.alloc Z16 = v2 at HP2 HG2 HX2 HV2 HL2 HR2 HB2 HZ2 ⊢
            generalize v1.heap.size = kp at HP2 Hkp ⊢
            (refine hK.out _ _ (⟨(pair_cells HG2.out).1, (pair_cells HG2.out).2.1, (four_cells HX2.out).1, (four_cells HX2.out).2.1, (four_cells HX2.out).2.2.1, (four_cells HX2.out).2.2.2.1⟩) (fun hHeld => ?_); clear hK K; (try simp only [List.getElem_toArray, List.getElem_cons_zero, List.getElem_cons_succ, Act.put, List.setIfInBounds_toArray, List.set_cons_zero, List.set_cons_succ]))
            refine wpAnyH_ready (rs := [11, 13]) (by kernel_rfl) (by simp) ?_
            refine (AllReadyH.cons (i := 11) rfl (fun K hK => ?_) (AllReadyH.cons (i := 13) rfl (fun K hK => ?_) AllReadyH.nil))
            · skip
              go_simp
              have hf := HV2.out.fs HEW.out
              rw [HEL.out] at hf
              have hh := rowAt_any n b _ es ((y : Int) + 1) k3 _ hf (by rw [HEL.out]; exact H1.out) HK3.out HY3.out
              rw [Int.toNat_natCast] at hh
              refine hh.mono ?_; clear hh hf; rintro e v3 ⟨rfl, hb⟩
              have HG3 := Lib.hid ((hb.block w.heap.size (Array.getElem?_eq_some_iff.1 HG2.out).1).trans HG2.out)
              have HX3 := Lib.hid ((hb.block kb (Array.getElem?_eq_some_iff.1 HX2.out).1).trans HX2.out)
              have HV3 := Lib.hid (HV2.out.still hb); have HL3 := Lib.hid (HL2.out.still hb); have HR3 := Lib.hid (HR2.out.still hb); have HB3 := Lib.hid (HB2.out.trans (hb.mono HB2.out.size)); have HZ3 := Lib.hid (Nat.le_trans HZ2.out hb.size)
              have HP3 := Lib.hid ((hb.block kp (Array.getElem?_eq_some_iff.1 HP2.out).1).trans HP2.out)
              clear hb
              go_wp2_with fail
              (refine hK.out _ _ (⟨(pair_cells HG3.out).1, (pair_cells HG3.out).2.1, (four_cells HX3.out).1, (four_cells HX3.out).2.1, (four_cells HX3.out).2.2.1, (four_cells HX3.out).2.2.2.1⟩) (fun hHeld => ?_); clear hK K; (try simp only [List.getElem_toArray, List.getElem_cons_zero, List.getElem_cons_succ, Act.put, List.setIfInBounds_toArray, List.set_cons_zero, List.set_cons_succ]))
              refine wpAnyH_ready (rs := [13]) (by kernel_rfl) (by simp) ?_
              refine (AllReadyH.cons (i := 13) rfl (fun K hK => ?_) AllReadyH.nil)
              go_simp
              go_wp2_with fail
              have hb := (Below.refl v3.heap.size v3).alloc (Nat.le_refl _) Z16
              have HQ4 := Lib.hid (heap_alloc_new v3 Z16)
              have HG4 := Lib.hid ((hb.block w.heap.size (Array.getElem?_eq_some_iff.1 HG3.out).1).trans HG3.out)
              have HX4 := Lib.hid ((hb.block kb (Array.getElem?_eq_some_iff.1 HX3.out).1).trans HX3.out)
              have HV4 := Lib.hid (HV3.out.still hb); have HL4 := Lib.hid (HL3.out.still hb); have HR4 := Lib.hid (HR3.out.still hb); have HB4 := Lib.hid (HB3.out.trans (hb.mono HB3.out.size)); have HZ4 := Lib.hid (Nat.le_trans HZ3.out hb.size)
              have HP4 := Lib.hid ((hb.block kp (Array.getElem?_eq_some_iff.1 HP3.out).1).trans HP3.out)
              have Hkq := Lib.hid (show zr ≤ v3.heap.size from HZ3.out)
              have HPQ := Lib.hid (show kp ≠ v3.heap.size by have := (Array.getElem?_eq_some_iff.1 HP3.out).1; omega)
              clear hb
              generalize v3.alloc Z16 = v4 at HQ4 HG4 HX4 HV4 HL4 HR4 HB4 HZ4 HP4 ⊢
              generalize v3.heap.size = kq at HQ4 Hkq HPQ ⊢
              (refine hK.out _ _ (⟨(pair_cells HG4.out).1, (pair_cells HG4.out).2.1, (four_cells HX4.out).1, (four_cells HX4.out).2.1, (four_cells HX4.out).2.2.1, (four_cells HX4.out).2.2.2.1⟩) (fun hHeld => ?_); clear hK K; (try simp only [List.getElem_toArray, List.getElem_cons_zero, List.getElem_cons_succ, Act.put, List.setIfInBounds_toArray, List.set_cons_zero, List.set_cons_succ]))
              refine wpAnyH_ready (rs := [14]) (by kernel_rfl) (by simp) ?_
              refine (AllReadyH.cons (i := 14) rfl (fun K hK => ?_) AllReadyH.nil)
              refine hstep_store_row rfl 123 _ _ rfl kp ((rowL es k2 n).map (Value.float .f32)).toArray rfl rfl 123 _ HP4.out (rv_info HPL.out) (by rw [rv_size HPL.out]; rfl) (rv_one _) ?_
              have hs := rb_stored (rs := (rowL es k2 n)) HP4.out
              have HP5 := Lib.hid hs.1
              have HG5 := Lib.hid ((hs.2.block w.heap.size (Array.getElem?_eq_some_iff.1 HG4.out).1 (fun e => by have q1 := Option.some.inj e; have q2 := Hkp.out; have q3 := HZW.out; omega)).trans HG4.out)
              have HX5 := Lib.hid ((hs.2.block kb (Array.getElem?_eq_some_iff.1 HX4.out).1 (fun e => by have q1 := Option.some.inj e; have q2 := Hkp.out; have q3 := HZB.out; omega)).trans HX4.out)
              have HV5 := Lib.hid (HV4.out.other hs.2 (by have q2 := Hkp.out; have q3 := HZV.out; omega)); have HL5 := Lib.hid (HL4.out.other hs.2 (by have q2 := Hkp.out; have q3 := HZL.out; omega)); have HR5 := Lib.hid (HR4.out.grown hs.2 (by have q2 := Hkp.out; have q3 := HZR.out; omega)); have HB5 := Lib.hid (HB4.out.grown hs.2 HB4.out.size (fun q e => by cases e; have q2 := Hkp.out; have q3 := HZW.out; omega)); have HZ5 := Lib.hid (Nat.le_trans HZ4.out hs.2.size)
              have HQ5 := Lib.hid ((hs.2.block kq (Array.getElem?_eq_some_iff.1 HQ4.out).1 (fun e => HPQ.out (Option.some.inj e).symm)).trans HQ4.out)
              clear hs
              generalize v4.setRow kp ((rowL es k2 n).map (Value.float .f32)).toArray = v5 at HG5 HX5 HV5 HL5 HR5 HB5 HZ5 HP5 HQ5 ⊢
              (refine hK.out _ _ (⟨(pair_cells HG5.out).1, (pair_cells HG5.out).2.1, (four_cells HX5.out).1, (four_cells HX5.out).2.1, (four_cells HX5.out).2.2.1, (four_cells HX5.out).2.2.2.1⟩) (fun hHeld => ?_); clear hK K; (try simp only [List.getElem_toArray, List.getElem_cons_zero, List.getElem_cons_succ, Act.put, List.setIfInBounds_toArray, List.set_cons_zero, List.set_cons_succ]))
              refine wpAnyH_ready (rs := [15]) (by kernel_rfl) (by simp) ?_
              refine (AllReadyH.cons (i := 15) rfl (fun K hK => ?_) AllReadyH.nil)
              refine hstep_store_row rfl 123 _ _ rfl kq ((rowL es k3 n).map (Value.float .f32)).toArray rfl rfl 123 _ HQ5.out (rv_info HQL.out) (by rw [rv_size HQL.out]; rfl) (rv_one _) ?_
              have hs := rb_stored (rs := (rowL es k3 n)) HQ5.out
              have HQ6 := Lib.hid hs.1
              have HG6 := Lib.hid ((hs.2.block w.heap.size (Array.getElem?_eq_some_iff.1 HG5.out).1 (fun e => by have q1 := Option.some.inj e; have q2 := Hkq.out; have q3 := HZW.out; omega)).trans HG5.out)
              have HX6 := Lib.hid ((hs.2.block kb (Array.getElem?_eq_some_iff.1 HX5.out).1 (fun e => by have q1 := Option.some.inj e; have q2 := Hkq.out; have q3 := HZB.out; omega)).trans HX5.out)
              have HV6 := Lib.hid (HV5.out.other hs.2 (by have q2 := Hkq.out; have q3 := HZV.out; omega)); have HL6 := Lib.hid (HL5.out.other hs.2 (by have q2 := Hkq.out; have q3 := HZL.out; omega)); have HR6 := Lib.hid (HR5.out.grown hs.2 (by have q2 := Hkq.out; have q3 := HZR.out; omega)); have HB6 := Lib.hid (HB5.out.grown hs.2 HB5.out.size (fun q e => by cases e; have q2 := Hkq.out; have q3 := HZW.out; omega)); have HZ6 := Lib.hid (Nat.le_trans HZ5.out hs.2.size)
              have HP6 := Lib.hid (HP5.out.grown hs.2 HPQ.out)
              clear hs
              generalize v5.setRow kq ((rowL es k3 n).map (Value.float .f32)).toArray = v6 at HG6 HX6 HV6 HL6 HR6 HB6 HZ6 HP6 HQ6 ⊢
              (refine hK.out _ _ (⟨(pair_cells HG6.out).1, (pair_cells HG6.out).2.1, (four_cells HX6.out).1, (four_cells HX6.out).2.1, (four_cells HX6.out).2.2.1, (four_cells HX6.out).2.2.2.1⟩) (fun hHeld => ?_); clear hK K; (try simp only [List.getElem_toArray, List.getElem_cons_zero, List.getElem_cons_succ, Act.put, List.setIfInBounds_toArray, List.set_cons_zero, List.set_cons_succ]))
              (refine wpAnyH_done (by kernel_rfl) ?_ _; refine NoPanic.normal ?_)
              clear hHeld
              go_wp2_with fail
              go_meet
              case rel => exact ⟨kp, kq, rfl, rfl, HPQ, Hkp, Hkq, HP6, HQ6, HR6, HV6, HL6, HG6, HX6, HB6⟩
            · skip
              go_simp
              go_wp2_with fail
              have hb := (Below.refl v2.heap.size v2).alloc (Nat.le_refl _) Z16
              have HQ3 := Lib.hid (heap_alloc_new v2 Z16)
              have HG3 := Lib.hid ((hb.block w.heap.size (Array.getElem?_eq_some_iff.1 HG2.out).1).trans HG2.out)
              have HX3 := Lib.hid ((hb.block kb (Array.getElem?_eq_some_iff.1 HX2.out).1).trans HX2.out)
              have HV3 := Lib.hid (HV2.out.still hb); have HL3 := Lib.hid (HL2.out.still hb); have HR3 := Lib.hid (HR2.out.still hb); have HB3 := Lib.hid (HB2.out.trans (hb.mono HB2.out.size)); have HZ3 := Lib.hid (Nat.le_trans HZ2.out hb.size)
              have HP3 := Lib.hid ((hb.block kp (Array.getElem?_eq_some_iff.1 HP2.out).1).trans HP2.out)
              have Hkq := Lib.hid (show zr ≤ v2.heap.size from HZ2.out)
              have HPQ := Lib.hid (show kp ≠ v2.heap.size by have := (Array.getElem?_eq_some_iff.1 HP2.out).1; omega)
              clear hb
              generalize v2.alloc Z16 = v3 at HQ3 HG3 HX3 HV3 HL3 HR3 HB3 HZ3 HP3 ⊢
              generalize v2.heap.size = kq at HQ3 Hkq HPQ ⊢
              (refine hK.out _ _ (⟨(pair_cells HG3.out).1, (pair_cells HG3.out).2.1, (four_cells HX3.out).1, (four_cells HX3.out).2.1, (four_cells HX3.out).2.2.1, (four_cells HX3.out).2.2.2.1⟩) (fun hHeld => ?_); clear hK K; (try simp only [List.getElem_toArray, List.getElem_cons_zero, List.getElem_cons_succ, Act.put, List.setIfInBounds_toArray, List.set_cons_zero, List.set_cons_succ]))
              refine wpAnyH_ready (rs := [11]) (by kernel_rfl) (by simp) ?_
              refine (AllReadyH.cons (i := 11) rfl (fun K hK => ?_) AllReadyH.nil)
              go_simp
              have hf := HV3.out.fs HEW.out
              rw [HEL.out] at hf
              have hh := rowAt_any n b _ es ((y : Int) + 1) k3 _ hf (by rw [HEL.out]; exact H1.out) HK3.out HY3.out
              rw [Int.toNat_natCast] at hh
              refine hh.mono ?_; clear hh hf; rintro e v4 ⟨rfl, hb⟩
              have HG4 := Lib.hid ((hb.block w.heap.size (Array.getElem?_eq_some_iff.1 HG3.out).1).trans HG3.out)
              have HX4 := Lib.hid ((hb.block kb (Array.getElem?_eq_some_iff.1 HX3.out).1).trans HX3.out)
              have HV4 := Lib.hid (HV3.out.still hb); have HL4 := Lib.hid (HL3.out.still hb); have HR4 := Lib.hid (HR3.out.still hb); have HB4 := Lib.hid (HB3.out.trans (hb.mono HB3.out.size)); have HZ4 := Lib.hid (Nat.le_trans HZ3.out hb.size)
              have HP4 := Lib.hid ((hb.block kp (Array.getElem?_eq_some_iff.1 HP3.out).1).trans HP3.out)
              have HQ4 := Lib.hid ((hb.block kq (Array.getElem?_eq_some_iff.1 HQ3.out).1).trans HQ3.out)
              clear hb
              go_wp2_with fail
              (refine hK.out _ _ (⟨(pair_cells HG4.out).1, (pair_cells HG4.out).2.1, (four_cells HX4.out).1, (four_cells HX4.out).2.1, (four_cells HX4.out).2.2.1, (four_cells HX4.out).2.2.2.1⟩) (fun hHeld => ?_); clear hK K; (try simp only [List.getElem_toArray, List.getElem_cons_zero, List.getElem_cons_succ, Act.put, List.setIfInBounds_toArray, List.set_cons_zero, List.set_cons_succ]))
              refine wpAnyH_ready (rs := [14]) (by kernel_rfl) (by simp) ?_
              refine (AllReadyH.cons (i := 14) rfl (fun K hK => ?_) AllReadyH.nil)
              refine hstep_store_row rfl 123 _ _ rfl kp ((rowL es k2 n).map (Value.float .f32)).toArray rfl rfl 123 _ HP4.out (rv_info HPL.out) (by rw [rv_size HPL.out]; rfl) (rv_one _) ?_
              have hs := rb_stored (rs := (rowL es k2 n)) HP4.out
              have HP5 := Lib.hid hs.1
              have HG5 := Lib.hid ((hs.2.block w.heap.size (Array.getElem?_eq_some_iff.1 HG4.out).1 (fun e => by have q1 := Option.some.inj e; have q2 := Hkp.out; have q3 := HZW.out; omega)).trans HG4.out)
              have HX5 := Lib.hid ((hs.2.block kb (Array.getElem?_eq_some_iff.1 HX4.out).1 (fun e => by have q1 := Option.some.inj e; have q2 := Hkp.out; have q3 := HZB.out; omega)).trans HX4.out)
              have HV5 := Lib.hid (HV4.out.other hs.2 (by have q2 := Hkp.out; have q3 := HZV.out; omega)); have HL5 := Lib.hid (HL4.out.other hs.2 (by have q2 := Hkp.out; have q3 := HZL.out; omega)); have HR5 := Lib.hid (HR4.out.grown hs.2 (by have q2 := Hkp.out; have q3 := HZR.out; omega)); have HB5 := Lib.hid (HB4.out.grown hs.2 HB4.out.size (fun q e => by cases e; have q2 := Hkp.out; have q3 := HZW.out; omega)); have HZ5 := Lib.hid (Nat.le_trans HZ4.out hs.2.size)
              have HQ5 := Lib.hid ((hs.2.block kq (Array.getElem?_eq_some_iff.1 HQ4.out).1 (fun e => HPQ.out (Option.some.inj e).symm)).trans HQ4.out)
              clear hs
              generalize v4.setRow kp ((rowL es k2 n).map (Value.float .f32)).toArray = v5 at HG5 HX5 HV5 HL5 HR5 HB5 HZ5 HP5 HQ5 ⊢
              (refine hK.out _ _ (⟨(pair_cells HG5.out).1, (pair_cells HG5.out).2.1, (four_cells HX5.out).1, (four_cells HX5.out).2.1, (four_cells HX5.out).2.2.1, (four_cells HX5.out).2.2.2.1⟩) (fun hHeld => ?_); clear hK K; (try simp only [List.getElem_toArray, List.getElem_cons_zero, List.getElem_cons_succ, Act.put, List.setIfInBounds_toArray, List.set_cons_zero, List.set_cons_succ]))
              refine wpAnyH_ready (rs := [15]) (by kernel_rfl) (by simp) ?_
              refine (AllReadyH.cons (i := 15) rfl (fun K hK => ?_) AllReadyH.nil)
              refine hstep_store_row rfl 123 _ _ rfl kq ((rowL es k3 n).map (Value.float .f32)).toArray rfl rfl 123 _ HQ5.out (rv_info HQL.out) (by rw [rv_size HQL.out]; rfl) (rv_one _) ?_
              have hs := rb_stored (rs := (rowL es k3 n)) HQ5.out
              have HQ6 := Lib.hid hs.1
              have HG6 := Lib.hid ((hs.2.block w.heap.size (Array.getElem?_eq_some_iff.1 HG5.out).1 (fun e => by have q1 := Option.some.inj e; have q2 := Hkq.out; have q3 := HZW.out; omega)).trans HG5.out)
              have HX6 := Lib.hid ((hs.2.block kb (Array.getElem?_eq_some_iff.1 HX5.out).1 (fun e => by have q1 := Option.some.inj e; have q2 := Hkq.out; have q3 := HZB.out; omega)).trans HX5.out)
              have HV6 := Lib.hid (HV5.out.other hs.2 (by have q2 := Hkq.out; have q3 := HZV.out; omega)); have HL6 := Lib.hid (HL5.out.other hs.2 (by have q2 := Hkq.out; have q3 := HZL.out; omega)); have HR6 := Lib.hid (HR5.out.grown hs.2 (by have q2 := Hkq.out; have q3 := HZR.out; omega)); have HB6 := Lib.hid (HB5.out.grown hs.2 HB5.out.size (fun q e => by cases e; have q2 := Hkq.out; have q3 := HZW.out; omega)); have HZ6 := Lib.hid (Nat.le_trans HZ5.out hs.2.size)
              have HP6 := Lib.hid (HP5.out.grown hs.2 HPQ.out)
              clear hs
              generalize v5.setRow kq ((rowL es k3 n).map (Value.float .f32)).toArray = v6 at HG6 HX6 HV6 HL6 HR6 HB6 HZ6 HP6 HQ6 ⊢
              (refine hK.out _ _ (⟨(pair_cells HG6.out).1, (pair_cells HG6.out).2.1, (four_cells HX6.out).1, (four_cells HX6.out).2.1, (four_cells HX6.out).2.2.1, (four_cells HX6.out).2.2.2.1⟩) (fun hHeld => ?_); clear hK K; (try simp only [List.getElem_toArray, List.getElem_cons_zero, List.getElem_cons_succ, Act.put, List.setIfInBounds_toArray, List.set_cons_zero, List.set_cons_succ]))
              (refine wpAnyH_done (by kernel_rfl) ?_ _; refine NoPanic.normal ?_)
              clear hHeld
              go_wp2_with fail
              go_meet
              case rel => exact ⟨kp, kq, rfl, rfl, HPQ, Hkp, Hkq, HP6, HQ6, HR6, HV6, HL6, HG6, HX6, HB6⟩
          · skip
            go_simp
            go_wp2_with fail
            have hb := (Below.refl v1.heap.size v1).alloc (Nat.le_refl _) Z16
            have HQ2 := Lib.hid (heap_alloc_new v1 Z16)
            have HG2 := Lib.hid ((hb.block w.heap.size (Array.getElem?_eq_some_iff.1 HG1.out).1).trans HG1.out)
            have HX2 := Lib.hid ((hb.block kb (Array.getElem?_eq_some_iff.1 HX1.out).1).trans HX1.out)
            have HV2 := Lib.hid (HV1.out.still hb); have HL2 := Lib.hid (HL1.out.still hb); have HR2 := Lib.hid (HR1.out.still hb); have HB2 := Lib.hid (HB1.out.trans (hb.mono HB1.out.size)); have HZ2 := Lib.hid (Nat.le_trans HZ1.out hb.size)
            have Hkq := Lib.hid (show zr ≤ v1.heap.size from HZ1.out)
            clear hb
            generalize v1.alloc Z16 = v2 at HQ2 HG2 HX2 HV2 HL2 HR2 HB2 HZ2 ⊢
            generalize v1.heap.size = kq at HQ2 Hkq ⊢
            (refine hK.out _ _ (⟨(pair_cells HG2.out).1, (pair_cells HG2.out).2.1, (four_cells HX2.out).1, (four_cells HX2.out).2.1, (four_cells HX2.out).2.2.1, (four_cells HX2.out).2.2.2.1⟩) (fun hHeld => ?_); clear hK K; (try simp only [List.getElem_toArray, List.getElem_cons_zero, List.getElem_cons_succ, Act.put, List.setIfInBounds_toArray, List.set_cons_zero, List.set_cons_succ]))
            refine wpAnyH_ready (rs := [11, 12]) (by kernel_rfl) (by simp) ?_
            refine (AllReadyH.cons (i := 11) rfl (fun K hK => ?_) (AllReadyH.cons (i := 12) rfl (fun K hK => ?_) AllReadyH.nil))
            · skip
              go_simp
              have hf := HV2.out.fs HEW.out
              rw [HEL.out] at hf
              have hh := rowAt_any n b _ es ((y : Int) + 1) k3 _ hf (by rw [HEL.out]; exact H1.out) HK3.out HY3.out
              rw [Int.toNat_natCast] at hh
              refine hh.mono ?_; clear hh hf; rintro e v3 ⟨rfl, hb⟩
              have HG3 := Lib.hid ((hb.block w.heap.size (Array.getElem?_eq_some_iff.1 HG2.out).1).trans HG2.out)
              have HX3 := Lib.hid ((hb.block kb (Array.getElem?_eq_some_iff.1 HX2.out).1).trans HX2.out)
              have HV3 := Lib.hid (HV2.out.still hb); have HL3 := Lib.hid (HL2.out.still hb); have HR3 := Lib.hid (HR2.out.still hb); have HB3 := Lib.hid (HB2.out.trans (hb.mono HB2.out.size)); have HZ3 := Lib.hid (Nat.le_trans HZ2.out hb.size)
              have HQ3 := Lib.hid ((hb.block kq (Array.getElem?_eq_some_iff.1 HQ2.out).1).trans HQ2.out)
              clear hb
              go_wp2_with fail
              (refine hK.out _ _ (⟨(pair_cells HG3.out).1, (pair_cells HG3.out).2.1, (four_cells HX3.out).1, (four_cells HX3.out).2.1, (four_cells HX3.out).2.2.1, (four_cells HX3.out).2.2.2.1⟩) (fun hHeld => ?_); clear hK K; (try simp only [List.getElem_toArray, List.getElem_cons_zero, List.getElem_cons_succ, Act.put, List.setIfInBounds_toArray, List.set_cons_zero, List.set_cons_succ]))
              refine wpAnyH_ready (rs := [12]) (by kernel_rfl) (by simp) ?_
              refine (AllReadyH.cons (i := 12) rfl (fun K hK => ?_) AllReadyH.nil)
              go_simp
              go_wp2_with fail
              have hb := (Below.refl v3.heap.size v3).alloc (Nat.le_refl _) Z16
              have HP4 := Lib.hid (heap_alloc_new v3 Z16)
              have HG4 := Lib.hid ((hb.block w.heap.size (Array.getElem?_eq_some_iff.1 HG3.out).1).trans HG3.out)
              have HX4 := Lib.hid ((hb.block kb (Array.getElem?_eq_some_iff.1 HX3.out).1).trans HX3.out)
              have HV4 := Lib.hid (HV3.out.still hb); have HL4 := Lib.hid (HL3.out.still hb); have HR4 := Lib.hid (HR3.out.still hb); have HB4 := Lib.hid (HB3.out.trans (hb.mono HB3.out.size)); have HZ4 := Lib.hid (Nat.le_trans HZ3.out hb.size)
              have HQ4 := Lib.hid ((hb.block kq (Array.getElem?_eq_some_iff.1 HQ3.out).1).trans HQ3.out)
              have Hkp := Lib.hid (show zr ≤ v3.heap.size from HZ3.out)
              have HPQ := Lib.hid (show v3.heap.size ≠ kq by have := (Array.getElem?_eq_some_iff.1 HQ3.out).1; omega)
              clear hb
              generalize v3.alloc Z16 = v4 at HP4 HG4 HX4 HV4 HL4 HR4 HB4 HZ4 HQ4 ⊢
              generalize v3.heap.size = kp at HP4 Hkp HPQ ⊢
              (refine hK.out _ _ (⟨(pair_cells HG4.out).1, (pair_cells HG4.out).2.1, (four_cells HX4.out).1, (four_cells HX4.out).2.1, (four_cells HX4.out).2.2.1, (four_cells HX4.out).2.2.2.1⟩) (fun hHeld => ?_); clear hK K; (try simp only [List.getElem_toArray, List.getElem_cons_zero, List.getElem_cons_succ, Act.put, List.setIfInBounds_toArray, List.set_cons_zero, List.set_cons_succ]))
              refine wpAnyH_ready (rs := [14]) (by kernel_rfl) (by simp) ?_
              refine (AllReadyH.cons (i := 14) rfl (fun K hK => ?_) AllReadyH.nil)
              refine hstep_store_row rfl 123 _ _ rfl kp ((rowL es k2 n).map (Value.float .f32)).toArray rfl rfl 123 _ HP4.out (rv_info HPL.out) (by rw [rv_size HPL.out]; rfl) (rv_one _) ?_
              have hs := rb_stored (rs := (rowL es k2 n)) HP4.out
              have HP5 := Lib.hid hs.1
              have HG5 := Lib.hid ((hs.2.block w.heap.size (Array.getElem?_eq_some_iff.1 HG4.out).1 (fun e => by have q1 := Option.some.inj e; have q2 := Hkp.out; have q3 := HZW.out; omega)).trans HG4.out)
              have HX5 := Lib.hid ((hs.2.block kb (Array.getElem?_eq_some_iff.1 HX4.out).1 (fun e => by have q1 := Option.some.inj e; have q2 := Hkp.out; have q3 := HZB.out; omega)).trans HX4.out)
              have HV5 := Lib.hid (HV4.out.other hs.2 (by have q2 := Hkp.out; have q3 := HZV.out; omega)); have HL5 := Lib.hid (HL4.out.other hs.2 (by have q2 := Hkp.out; have q3 := HZL.out; omega)); have HR5 := Lib.hid (HR4.out.grown hs.2 (by have q2 := Hkp.out; have q3 := HZR.out; omega)); have HB5 := Lib.hid (HB4.out.grown hs.2 HB4.out.size (fun q e => by cases e; have q2 := Hkp.out; have q3 := HZW.out; omega)); have HZ5 := Lib.hid (Nat.le_trans HZ4.out hs.2.size)
              have HQ5 := Lib.hid ((hs.2.block kq (Array.getElem?_eq_some_iff.1 HQ4.out).1 (fun e => HPQ.out (Option.some.inj e).symm)).trans HQ4.out)
              clear hs
              generalize v4.setRow kp ((rowL es k2 n).map (Value.float .f32)).toArray = v5 at HG5 HX5 HV5 HL5 HR5 HB5 HZ5 HP5 HQ5 ⊢
              (refine hK.out _ _ (⟨(pair_cells HG5.out).1, (pair_cells HG5.out).2.1, (four_cells HX5.out).1, (four_cells HX5.out).2.1, (four_cells HX5.out).2.2.1, (four_cells HX5.out).2.2.2.1⟩) (fun hHeld => ?_); clear hK K; (try simp only [List.getElem_toArray, List.getElem_cons_zero, List.getElem_cons_succ, Act.put, List.setIfInBounds_toArray, List.set_cons_zero, List.set_cons_succ]))
              refine wpAnyH_ready (rs := [15]) (by kernel_rfl) (by simp) ?_
              refine (AllReadyH.cons (i := 15) rfl (fun K hK => ?_) AllReadyH.nil)
              refine hstep_store_row rfl 123 _ _ rfl kq ((rowL es k3 n).map (Value.float .f32)).toArray rfl rfl 123 _ HQ5.out (rv_info HQL.out) (by rw [rv_size HQL.out]; rfl) (rv_one _) ?_
              have hs := rb_stored (rs := (rowL es k3 n)) HQ5.out
              have HQ6 := Lib.hid hs.1
              have HG6 := Lib.hid ((hs.2.block w.heap.size (Array.getElem?_eq_some_iff.1 HG5.out).1 (fun e => by have q1 := Option.some.inj e; have q2 := Hkq.out; have q3 := HZW.out; omega)).trans HG5.out)
              have HX6 := Lib.hid ((hs.2.block kb (Array.getElem?_eq_some_iff.1 HX5.out).1 (fun e => by have q1 := Option.some.inj e; have q2 := Hkq.out; have q3 := HZB.out; omega)).trans HX5.out)
              have HV6 := Lib.hid (HV5.out.other hs.2 (by have q2 := Hkq.out; have q3 := HZV.out; omega)); have HL6 := Lib.hid (HL5.out.other hs.2 (by have q2 := Hkq.out; have q3 := HZL.out; omega)); have HR6 := Lib.hid (HR5.out.grown hs.2 (by have q2 := Hkq.out; have q3 := HZR.out; omega)); have HB6 := Lib.hid (HB5.out.grown hs.2 HB5.out.size (fun q e => by cases e; have q2 := Hkq.out; have q3 := HZW.out; omega)); have HZ6 := Lib.hid (Nat.le_trans HZ5.out hs.2.size)
              have HP6 := Lib.hid (HP5.out.grown hs.2 HPQ.out)
              clear hs
              generalize v5.setRow kq ((rowL es k3 n).map (Value.float .f32)).toArray = v6 at HG6 HX6 HV6 HL6 HR6 HB6 HZ6 HP6 HQ6 ⊢
              (refine hK.out _ _ (⟨(pair_cells HG6.out).1, (pair_cells HG6.out).2.1, (four_cells HX6.out).1, (four_cells HX6.out).2.1, (four_cells HX6.out).2.2.1, (four_cells HX6.out).2.2.2.1⟩) (fun hHeld => ?_); clear hK K; (try simp only [List.getElem_toArray, List.getElem_cons_zero, List.getElem_cons_succ, Act.put, List.setIfInBounds_toArray, List.set_cons_zero, List.set_cons_succ]))
              (refine wpAnyH_done (by kernel_rfl) ?_ _; refine NoPanic.normal ?_)
              clear hHeld
              go_wp2_with fail
              go_meet
              case rel => exact ⟨kp, kq, rfl, rfl, HPQ, Hkp, Hkq, HP6, HQ6, HR6, HV6, HL6, HG6, HX6, HB6⟩
            · skip
              go_simp
              go_wp2_with fail
              have hb := (Below.refl v2.heap.size v2).alloc (Nat.le_refl _) Z16
              have HP3 := Lib.hid (heap_alloc_new v2 Z16)
              have HG3 := Lib.hid ((hb.block w.heap.size (Array.getElem?_eq_some_iff.1 HG2.out).1).trans HG2.out)
              have HX3 := Lib.hid ((hb.block kb (Array.getElem?_eq_some_iff.1 HX2.out).1).trans HX2.out)
              have HV3 := Lib.hid (HV2.out.still hb); have HL3 := Lib.hid (HL2.out.still hb); have HR3 := Lib.hid (HR2.out.still hb); have HB3 := Lib.hid (HB2.out.trans (hb.mono HB2.out.size)); have HZ3 := Lib.hid (Nat.le_trans HZ2.out hb.size)
              have HQ3 := Lib.hid ((hb.block kq (Array.getElem?_eq_some_iff.1 HQ2.out).1).trans HQ2.out)
              have Hkp := Lib.hid (show zr ≤ v2.heap.size from HZ2.out)
              have HPQ := Lib.hid (show v2.heap.size ≠ kq by have := (Array.getElem?_eq_some_iff.1 HQ2.out).1; omega)
              clear hb
              generalize v2.alloc Z16 = v3 at HP3 HG3 HX3 HV3 HL3 HR3 HB3 HZ3 HQ3 ⊢
              generalize v2.heap.size = kp at HP3 Hkp HPQ ⊢
              (refine hK.out _ _ (⟨(pair_cells HG3.out).1, (pair_cells HG3.out).2.1, (four_cells HX3.out).1, (four_cells HX3.out).2.1, (four_cells HX3.out).2.2.1, (four_cells HX3.out).2.2.2.1⟩) (fun hHeld => ?_); clear hK K; (try simp only [List.getElem_toArray, List.getElem_cons_zero, List.getElem_cons_succ, Act.put, List.setIfInBounds_toArray, List.set_cons_zero, List.set_cons_succ]))
              refine wpAnyH_ready (rs := [11]) (by kernel_rfl) (by simp) ?_
              refine (AllReadyH.cons (i := 11) rfl (fun K hK => ?_) AllReadyH.nil)
              go_simp
              have hf := HV3.out.fs HEW.out
              rw [HEL.out] at hf
              have hh := rowAt_any n b _ es ((y : Int) + 1) k3 _ hf (by rw [HEL.out]; exact H1.out) HK3.out HY3.out
              rw [Int.toNat_natCast] at hh
              refine hh.mono ?_; clear hh hf; rintro e v4 ⟨rfl, hb⟩
              have HG4 := Lib.hid ((hb.block w.heap.size (Array.getElem?_eq_some_iff.1 HG3.out).1).trans HG3.out)
              have HX4 := Lib.hid ((hb.block kb (Array.getElem?_eq_some_iff.1 HX3.out).1).trans HX3.out)
              have HV4 := Lib.hid (HV3.out.still hb); have HL4 := Lib.hid (HL3.out.still hb); have HR4 := Lib.hid (HR3.out.still hb); have HB4 := Lib.hid (HB3.out.trans (hb.mono HB3.out.size)); have HZ4 := Lib.hid (Nat.le_trans HZ3.out hb.size)
              have HP4 := Lib.hid ((hb.block kp (Array.getElem?_eq_some_iff.1 HP3.out).1).trans HP3.out)
              have HQ4 := Lib.hid ((hb.block kq (Array.getElem?_eq_some_iff.1 HQ3.out).1).trans HQ3.out)
              clear hb
              go_wp2_with fail
              (refine hK.out _ _ (⟨(pair_cells HG4.out).1, (pair_cells HG4.out).2.1, (four_cells HX4.out).1, (four_cells HX4.out).2.1, (four_cells HX4.out).2.2.1, (four_cells HX4.out).2.2.2.1⟩) (fun hHeld => ?_); clear hK K; (try simp only [List.getElem_toArray, List.getElem_cons_zero, List.getElem_cons_succ, Act.put, List.setIfInBounds_toArray, List.set_cons_zero, List.set_cons_succ]))
              refine wpAnyH_ready (rs := [14]) (by kernel_rfl) (by simp) ?_
              refine (AllReadyH.cons (i := 14) rfl (fun K hK => ?_) AllReadyH.nil)
              refine hstep_store_row rfl 123 _ _ rfl kp ((rowL es k2 n).map (Value.float .f32)).toArray rfl rfl 123 _ HP4.out (rv_info HPL.out) (by rw [rv_size HPL.out]; rfl) (rv_one _) ?_
              have hs := rb_stored (rs := (rowL es k2 n)) HP4.out
              have HP5 := Lib.hid hs.1
              have HG5 := Lib.hid ((hs.2.block w.heap.size (Array.getElem?_eq_some_iff.1 HG4.out).1 (fun e => by have q1 := Option.some.inj e; have q2 := Hkp.out; have q3 := HZW.out; omega)).trans HG4.out)
              have HX5 := Lib.hid ((hs.2.block kb (Array.getElem?_eq_some_iff.1 HX4.out).1 (fun e => by have q1 := Option.some.inj e; have q2 := Hkp.out; have q3 := HZB.out; omega)).trans HX4.out)
              have HV5 := Lib.hid (HV4.out.other hs.2 (by have q2 := Hkp.out; have q3 := HZV.out; omega)); have HL5 := Lib.hid (HL4.out.other hs.2 (by have q2 := Hkp.out; have q3 := HZL.out; omega)); have HR5 := Lib.hid (HR4.out.grown hs.2 (by have q2 := Hkp.out; have q3 := HZR.out; omega)); have HB5 := Lib.hid (HB4.out.grown hs.2 HB4.out.size (fun q e => by cases e; have q2 := Hkp.out; have q3 := HZW.out; omega)); have HZ5 := Lib.hid (Nat.le_trans HZ4.out hs.2.size)
              have HQ5 := Lib.hid ((hs.2.block kq (Array.getElem?_eq_some_iff.1 HQ4.out).1 (fun e => HPQ.out (Option.some.inj e).symm)).trans HQ4.out)
              clear hs
              generalize v4.setRow kp ((rowL es k2 n).map (Value.float .f32)).toArray = v5 at HG5 HX5 HV5 HL5 HR5 HB5 HZ5 HP5 HQ5 ⊢
              (refine hK.out _ _ (⟨(pair_cells HG5.out).1, (pair_cells HG5.out).2.1, (four_cells HX5.out).1, (four_cells HX5.out).2.1, (four_cells HX5.out).2.2.1, (four_cells HX5.out).2.2.2.1⟩) (fun hHeld => ?_); clear hK K; (try simp only [List.getElem_toArray, List.getElem_cons_zero, List.getElem_cons_succ, Act.put, List.setIfInBounds_toArray, List.set_cons_zero, List.set_cons_succ]))
              refine wpAnyH_ready (rs := [15]) (by kernel_rfl) (by simp) ?_
              refine (AllReadyH.cons (i := 15) rfl (fun K hK => ?_) AllReadyH.nil)
              refine hstep_store_row rfl 123 _ _ rfl kq ((rowL es k3 n).map (Value.float .f32)).toArray rfl rfl 123 _ HQ5.out (rv_info HQL.out) (by rw [rv_size HQL.out]; rfl) (rv_one _) ?_
              have hs := rb_stored (rs := (rowL es k3 n)) HQ5.out
              have HQ6 := Lib.hid hs.1
              have HG6 := Lib.hid ((hs.2.block w.heap.size (Array.getElem?_eq_some_iff.1 HG5.out).1 (fun e => by have q1 := Option.some.inj e; have q2 := Hkq.out; have q3 := HZW.out; omega)).trans HG5.out)
              have HX6 := Lib.hid ((hs.2.block kb (Array.getElem?_eq_some_iff.1 HX5.out).1 (fun e => by have q1 := Option.some.inj e; have q2 := Hkq.out; have q3 := HZB.out; omega)).trans HX5.out)
              have HV6 := Lib.hid (HV5.out.other hs.2 (by have q2 := Hkq.out; have q3 := HZV.out; omega)); have HL6 := Lib.hid (HL5.out.other hs.2 (by have q2 := Hkq.out; have q3 := HZL.out; omega)); have HR6 := Lib.hid (HR5.out.grown hs.2 (by have q2 := Hkq.out; have q3 := HZR.out; omega)); have HB6 := Lib.hid (HB5.out.grown hs.2 HB5.out.size (fun q e => by cases e; have q2 := Hkq.out; have q3 := HZW.out; omega)); have HZ6 := Lib.hid (Nat.le_trans HZ5.out hs.2.size)
              have HP6 := Lib.hid (HP5.out.grown hs.2 HPQ.out)
              clear hs
              generalize v5.setRow kq ((rowL es k3 n).map (Value.float .f32)).toArray = v6 at HG6 HX6 HV6 HL6 HR6 HB6 HZ6 HP6 HQ6 ⊢
              (refine hK.out _ _ (⟨(pair_cells HG6.out).1, (pair_cells HG6.out).2.1, (four_cells HX6.out).1, (four_cells HX6.out).2.1, (four_cells HX6.out).2.2.1, (four_cells HX6.out).2.2.2.1⟩) (fun hHeld => ?_); clear hK K; (try simp only [List.getElem_toArray, List.getElem_cons_zero, List.getElem_cons_succ, Act.put, List.setIfInBounds_toArray, List.set_cons_zero, List.set_cons_succ]))
              (refine wpAnyH_done (by kernel_rfl) ?_ _; refine NoPanic.normal ?_)
              clear hHeld
              go_wp2_with fail
              go_meet
              case rel => exact ⟨kp, kq, rfl, rfl, HPQ, Hkp, Hkq, HP6, HQ6, HR6, HV6, HL6, HG6, HX6, HB6⟩
        · skip
          go_simp
          go_wp2_with fail
          have hb := (Below.refl v0.heap.size v0).alloc (Nat.le_refl _) Z16
          have HP1 := Lib.hid (heap_alloc_new v0 Z16)
          have HG1 := Lib.hid ((hb.block w.heap.size (Array.getElem?_eq_some_iff.1 HG0.out).1).trans HG0.out)
          have HX1 := Lib.hid ((hb.block kb (Array.getElem?_eq_some_iff.1 HX0.out).1).trans HX0.out)
          have HV1 := Lib.hid (HV0.out.still hb); have HL1 := Lib.hid (HL0.out.still hb); have HR1 := Lib.hid (HR0.out.still hb); have HB1 := Lib.hid (HB0.out.trans (hb.mono HB0.out.size)); have HZ1 := Lib.hid (Nat.le_trans HZ0.out hb.size)
          have Hkp := Lib.hid (show zr ≤ v0.heap.size from HZ0.out)
          clear hb
          generalize v0.alloc Z16 = v1 at HP1 HG1 HX1 HV1 HL1 HR1 HB1 HZ1 ⊢
          generalize v0.heap.size = kp at HP1 Hkp ⊢
          (refine hK.out _ _ (⟨(pair_cells HG1.out).1, (pair_cells HG1.out).2.1, (four_cells HX1.out).1, (four_cells HX1.out).2.1, (four_cells HX1.out).2.2.1, (four_cells HX1.out).2.2.2.1⟩) (fun hHeld => ?_); clear hK K; (try simp only [List.getElem_toArray, List.getElem_cons_zero, List.getElem_cons_succ, Act.put, List.setIfInBounds_toArray, List.set_cons_zero, List.set_cons_succ]))
          refine wpAnyH_ready (rs := [5, 13]) (by kernel_rfl) (by simp) ?_
          refine (AllReadyH.cons (i := 5) rfl (fun K hK => ?_) (AllReadyH.cons (i := 13) rfl (fun K hK => ?_) AllReadyH.nil))
          · skip
            go_simp
            have hf := HV1.out.fs HEW.out
            rw [HEL.out] at hf
            have hh := rowAt_any n b _ es ((y : Int) - 1) k2 _ hf (by rw [HEL.out]; exact H1.out) HK2.out HY2.out
            rw [Int.toNat_natCast] at hh
            refine hh.mono ?_; clear hh hf; rintro e v2 ⟨rfl, hb⟩
            have HG2 := Lib.hid ((hb.block w.heap.size (Array.getElem?_eq_some_iff.1 HG1.out).1).trans HG1.out)
            have HX2 := Lib.hid ((hb.block kb (Array.getElem?_eq_some_iff.1 HX1.out).1).trans HX1.out)
            have HV2 := Lib.hid (HV1.out.still hb); have HL2 := Lib.hid (HL1.out.still hb); have HR2 := Lib.hid (HR1.out.still hb); have HB2 := Lib.hid (HB1.out.trans (hb.mono HB1.out.size)); have HZ2 := Lib.hid (Nat.le_trans HZ1.out hb.size)
            have HP2 := Lib.hid ((hb.block kp (Array.getElem?_eq_some_iff.1 HP1.out).1).trans HP1.out)
            clear hb
            go_wp2_with fail
            (refine hK.out _ _ (⟨(pair_cells HG2.out).1, (pair_cells HG2.out).2.1, (four_cells HX2.out).1, (four_cells HX2.out).2.1, (four_cells HX2.out).2.2.1, (four_cells HX2.out).2.2.2.1⟩) (fun hHeld => ?_); clear hK K; (try simp only [List.getElem_toArray, List.getElem_cons_zero, List.getElem_cons_succ, Act.put, List.setIfInBounds_toArray, List.set_cons_zero, List.set_cons_succ]))
            refine wpAnyH_ready (rs := [11, 13]) (by kernel_rfl) (by simp) ?_
            refine (AllReadyH.cons (i := 11) rfl (fun K hK => ?_) (AllReadyH.cons (i := 13) rfl (fun K hK => ?_) AllReadyH.nil))
            · skip
              go_simp
              have hf := HV2.out.fs HEW.out
              rw [HEL.out] at hf
              have hh := rowAt_any n b _ es ((y : Int) + 1) k3 _ hf (by rw [HEL.out]; exact H1.out) HK3.out HY3.out
              rw [Int.toNat_natCast] at hh
              refine hh.mono ?_; clear hh hf; rintro e v3 ⟨rfl, hb⟩
              have HG3 := Lib.hid ((hb.block w.heap.size (Array.getElem?_eq_some_iff.1 HG2.out).1).trans HG2.out)
              have HX3 := Lib.hid ((hb.block kb (Array.getElem?_eq_some_iff.1 HX2.out).1).trans HX2.out)
              have HV3 := Lib.hid (HV2.out.still hb); have HL3 := Lib.hid (HL2.out.still hb); have HR3 := Lib.hid (HR2.out.still hb); have HB3 := Lib.hid (HB2.out.trans (hb.mono HB2.out.size)); have HZ3 := Lib.hid (Nat.le_trans HZ2.out hb.size)
              have HP3 := Lib.hid ((hb.block kp (Array.getElem?_eq_some_iff.1 HP2.out).1).trans HP2.out)
              clear hb
              go_wp2_with fail
              (refine hK.out _ _ (⟨(pair_cells HG3.out).1, (pair_cells HG3.out).2.1, (four_cells HX3.out).1, (four_cells HX3.out).2.1, (four_cells HX3.out).2.2.1, (four_cells HX3.out).2.2.2.1⟩) (fun hHeld => ?_); clear hK K; (try simp only [List.getElem_toArray, List.getElem_cons_zero, List.getElem_cons_succ, Act.put, List.setIfInBounds_toArray, List.set_cons_zero, List.set_cons_succ]))
              refine wpAnyH_ready (rs := [13]) (by kernel_rfl) (by simp) ?_
              refine (AllReadyH.cons (i := 13) rfl (fun K hK => ?_) AllReadyH.nil)
              go_simp
              go_wp2_with fail
              have hb := (Below.refl v3.heap.size v3).alloc (Nat.le_refl _) Z16
              have HQ4 := Lib.hid (heap_alloc_new v3 Z16)
              have HG4 := Lib.hid ((hb.block w.heap.size (Array.getElem?_eq_some_iff.1 HG3.out).1).trans HG3.out)
              have HX4 := Lib.hid ((hb.block kb (Array.getElem?_eq_some_iff.1 HX3.out).1).trans HX3.out)
              have HV4 := Lib.hid (HV3.out.still hb); have HL4 := Lib.hid (HL3.out.still hb); have HR4 := Lib.hid (HR3.out.still hb); have HB4 := Lib.hid (HB3.out.trans (hb.mono HB3.out.size)); have HZ4 := Lib.hid (Nat.le_trans HZ3.out hb.size)
              have HP4 := Lib.hid ((hb.block kp (Array.getElem?_eq_some_iff.1 HP3.out).1).trans HP3.out)
              have Hkq := Lib.hid (show zr ≤ v3.heap.size from HZ3.out)
              have HPQ := Lib.hid (show kp ≠ v3.heap.size by have := (Array.getElem?_eq_some_iff.1 HP3.out).1; omega)
              clear hb
              generalize v3.alloc Z16 = v4 at HQ4 HG4 HX4 HV4 HL4 HR4 HB4 HZ4 HP4 ⊢
              generalize v3.heap.size = kq at HQ4 Hkq HPQ ⊢
              (refine hK.out _ _ (⟨(pair_cells HG4.out).1, (pair_cells HG4.out).2.1, (four_cells HX4.out).1, (four_cells HX4.out).2.1, (four_cells HX4.out).2.2.1, (four_cells HX4.out).2.2.2.1⟩) (fun hHeld => ?_); clear hK K; (try simp only [List.getElem_toArray, List.getElem_cons_zero, List.getElem_cons_succ, Act.put, List.setIfInBounds_toArray, List.set_cons_zero, List.set_cons_succ]))
              refine wpAnyH_ready (rs := [14]) (by kernel_rfl) (by simp) ?_
              refine (AllReadyH.cons (i := 14) rfl (fun K hK => ?_) AllReadyH.nil)
              refine hstep_store_row rfl 123 _ _ rfl kp ((rowL es k2 n).map (Value.float .f32)).toArray rfl rfl 123 _ HP4.out (rv_info HPL.out) (by rw [rv_size HPL.out]; rfl) (rv_one _) ?_
              have hs := rb_stored (rs := (rowL es k2 n)) HP4.out
              have HP5 := Lib.hid hs.1
              have HG5 := Lib.hid ((hs.2.block w.heap.size (Array.getElem?_eq_some_iff.1 HG4.out).1 (fun e => by have q1 := Option.some.inj e; have q2 := Hkp.out; have q3 := HZW.out; omega)).trans HG4.out)
              have HX5 := Lib.hid ((hs.2.block kb (Array.getElem?_eq_some_iff.1 HX4.out).1 (fun e => by have q1 := Option.some.inj e; have q2 := Hkp.out; have q3 := HZB.out; omega)).trans HX4.out)
              have HV5 := Lib.hid (HV4.out.other hs.2 (by have q2 := Hkp.out; have q3 := HZV.out; omega)); have HL5 := Lib.hid (HL4.out.other hs.2 (by have q2 := Hkp.out; have q3 := HZL.out; omega)); have HR5 := Lib.hid (HR4.out.grown hs.2 (by have q2 := Hkp.out; have q3 := HZR.out; omega)); have HB5 := Lib.hid (HB4.out.grown hs.2 HB4.out.size (fun q e => by cases e; have q2 := Hkp.out; have q3 := HZW.out; omega)); have HZ5 := Lib.hid (Nat.le_trans HZ4.out hs.2.size)
              have HQ5 := Lib.hid ((hs.2.block kq (Array.getElem?_eq_some_iff.1 HQ4.out).1 (fun e => HPQ.out (Option.some.inj e).symm)).trans HQ4.out)
              clear hs
              generalize v4.setRow kp ((rowL es k2 n).map (Value.float .f32)).toArray = v5 at HG5 HX5 HV5 HL5 HR5 HB5 HZ5 HP5 HQ5 ⊢
              (refine hK.out _ _ (⟨(pair_cells HG5.out).1, (pair_cells HG5.out).2.1, (four_cells HX5.out).1, (four_cells HX5.out).2.1, (four_cells HX5.out).2.2.1, (four_cells HX5.out).2.2.2.1⟩) (fun hHeld => ?_); clear hK K; (try simp only [List.getElem_toArray, List.getElem_cons_zero, List.getElem_cons_succ, Act.put, List.setIfInBounds_toArray, List.set_cons_zero, List.set_cons_succ]))
              refine wpAnyH_ready (rs := [15]) (by kernel_rfl) (by simp) ?_
              refine (AllReadyH.cons (i := 15) rfl (fun K hK => ?_) AllReadyH.nil)
              refine hstep_store_row rfl 123 _ _ rfl kq ((rowL es k3 n).map (Value.float .f32)).toArray rfl rfl 123 _ HQ5.out (rv_info HQL.out) (by rw [rv_size HQL.out]; rfl) (rv_one _) ?_
              have hs := rb_stored (rs := (rowL es k3 n)) HQ5.out
              have HQ6 := Lib.hid hs.1
              have HG6 := Lib.hid ((hs.2.block w.heap.size (Array.getElem?_eq_some_iff.1 HG5.out).1 (fun e => by have q1 := Option.some.inj e; have q2 := Hkq.out; have q3 := HZW.out; omega)).trans HG5.out)
              have HX6 := Lib.hid ((hs.2.block kb (Array.getElem?_eq_some_iff.1 HX5.out).1 (fun e => by have q1 := Option.some.inj e; have q2 := Hkq.out; have q3 := HZB.out; omega)).trans HX5.out)
              have HV6 := Lib.hid (HV5.out.other hs.2 (by have q2 := Hkq.out; have q3 := HZV.out; omega)); have HL6 := Lib.hid (HL5.out.other hs.2 (by have q2 := Hkq.out; have q3 := HZL.out; omega)); have HR6 := Lib.hid (HR5.out.grown hs.2 (by have q2 := Hkq.out; have q3 := HZR.out; omega)); have HB6 := Lib.hid (HB5.out.grown hs.2 HB5.out.size (fun q e => by cases e; have q2 := Hkq.out; have q3 := HZW.out; omega)); have HZ6 := Lib.hid (Nat.le_trans HZ5.out hs.2.size)
              have HP6 := Lib.hid (HP5.out.grown hs.2 HPQ.out)
              clear hs
              generalize v5.setRow kq ((rowL es k3 n).map (Value.float .f32)).toArray = v6 at HG6 HX6 HV6 HL6 HR6 HB6 HZ6 HP6 HQ6 ⊢
              (refine hK.out _ _ (⟨(pair_cells HG6.out).1, (pair_cells HG6.out).2.1, (four_cells HX6.out).1, (four_cells HX6.out).2.1, (four_cells HX6.out).2.2.1, (four_cells HX6.out).2.2.2.1⟩) (fun hHeld => ?_); clear hK K; (try simp only [List.getElem_toArray, List.getElem_cons_zero, List.getElem_cons_succ, Act.put, List.setIfInBounds_toArray, List.set_cons_zero, List.set_cons_succ]))
              (refine wpAnyH_done (by kernel_rfl) ?_ _; refine NoPanic.normal ?_)
              clear hHeld
              go_wp2_with fail
              go_meet
              case rel => exact ⟨kp, kq, rfl, rfl, HPQ, Hkp, Hkq, HP6, HQ6, HR6, HV6, HL6, HG6, HX6, HB6⟩
            · skip
              go_simp
              go_wp2_with fail
              have hb := (Below.refl v2.heap.size v2).alloc (Nat.le_refl _) Z16
              have HQ3 := Lib.hid (heap_alloc_new v2 Z16)
              have HG3 := Lib.hid ((hb.block w.heap.size (Array.getElem?_eq_some_iff.1 HG2.out).1).trans HG2.out)
              have HX3 := Lib.hid ((hb.block kb (Array.getElem?_eq_some_iff.1 HX2.out).1).trans HX2.out)
              have HV3 := Lib.hid (HV2.out.still hb); have HL3 := Lib.hid (HL2.out.still hb); have HR3 := Lib.hid (HR2.out.still hb); have HB3 := Lib.hid (HB2.out.trans (hb.mono HB2.out.size)); have HZ3 := Lib.hid (Nat.le_trans HZ2.out hb.size)
              have HP3 := Lib.hid ((hb.block kp (Array.getElem?_eq_some_iff.1 HP2.out).1).trans HP2.out)
              have Hkq := Lib.hid (show zr ≤ v2.heap.size from HZ2.out)
              have HPQ := Lib.hid (show kp ≠ v2.heap.size by have := (Array.getElem?_eq_some_iff.1 HP2.out).1; omega)
              clear hb
              generalize v2.alloc Z16 = v3 at HQ3 HG3 HX3 HV3 HL3 HR3 HB3 HZ3 HP3 ⊢
              generalize v2.heap.size = kq at HQ3 Hkq HPQ ⊢
              (refine hK.out _ _ (⟨(pair_cells HG3.out).1, (pair_cells HG3.out).2.1, (four_cells HX3.out).1, (four_cells HX3.out).2.1, (four_cells HX3.out).2.2.1, (four_cells HX3.out).2.2.2.1⟩) (fun hHeld => ?_); clear hK K; (try simp only [List.getElem_toArray, List.getElem_cons_zero, List.getElem_cons_succ, Act.put, List.setIfInBounds_toArray, List.set_cons_zero, List.set_cons_succ]))
              refine wpAnyH_ready (rs := [11]) (by kernel_rfl) (by simp) ?_
              refine (AllReadyH.cons (i := 11) rfl (fun K hK => ?_) AllReadyH.nil)
              go_simp
              have hf := HV3.out.fs HEW.out
              rw [HEL.out] at hf
              have hh := rowAt_any n b _ es ((y : Int) + 1) k3 _ hf (by rw [HEL.out]; exact H1.out) HK3.out HY3.out
              rw [Int.toNat_natCast] at hh
              refine hh.mono ?_; clear hh hf; rintro e v4 ⟨rfl, hb⟩
              have HG4 := Lib.hid ((hb.block w.heap.size (Array.getElem?_eq_some_iff.1 HG3.out).1).trans HG3.out)
              have HX4 := Lib.hid ((hb.block kb (Array.getElem?_eq_some_iff.1 HX3.out).1).trans HX3.out)
              have HV4 := Lib.hid (HV3.out.still hb); have HL4 := Lib.hid (HL3.out.still hb); have HR4 := Lib.hid (HR3.out.still hb); have HB4 := Lib.hid (HB3.out.trans (hb.mono HB3.out.size)); have HZ4 := Lib.hid (Nat.le_trans HZ3.out hb.size)
              have HP4 := Lib.hid ((hb.block kp (Array.getElem?_eq_some_iff.1 HP3.out).1).trans HP3.out)
              have HQ4 := Lib.hid ((hb.block kq (Array.getElem?_eq_some_iff.1 HQ3.out).1).trans HQ3.out)
              clear hb
              go_wp2_with fail
              (refine hK.out _ _ (⟨(pair_cells HG4.out).1, (pair_cells HG4.out).2.1, (four_cells HX4.out).1, (four_cells HX4.out).2.1, (four_cells HX4.out).2.2.1, (four_cells HX4.out).2.2.2.1⟩) (fun hHeld => ?_); clear hK K; (try simp only [List.getElem_toArray, List.getElem_cons_zero, List.getElem_cons_succ, Act.put, List.setIfInBounds_toArray, List.set_cons_zero, List.set_cons_succ]))
              refine wpAnyH_ready (rs := [14]) (by kernel_rfl) (by simp) ?_
              refine (AllReadyH.cons (i := 14) rfl (fun K hK => ?_) AllReadyH.nil)
              refine hstep_store_row rfl 123 _ _ rfl kp ((rowL es k2 n).map (Value.float .f32)).toArray rfl rfl 123 _ HP4.out (rv_info HPL.out) (by rw [rv_size HPL.out]; rfl) (rv_one _) ?_
              have hs := rb_stored (rs := (rowL es k2 n)) HP4.out
              have HP5 := Lib.hid hs.1
              have HG5 := Lib.hid ((hs.2.block w.heap.size (Array.getElem?_eq_some_iff.1 HG4.out).1 (fun e => by have q1 := Option.some.inj e; have q2 := Hkp.out; have q3 := HZW.out; omega)).trans HG4.out)
              have HX5 := Lib.hid ((hs.2.block kb (Array.getElem?_eq_some_iff.1 HX4.out).1 (fun e => by have q1 := Option.some.inj e; have q2 := Hkp.out; have q3 := HZB.out; omega)).trans HX4.out)
              have HV5 := Lib.hid (HV4.out.other hs.2 (by have q2 := Hkp.out; have q3 := HZV.out; omega)); have HL5 := Lib.hid (HL4.out.other hs.2 (by have q2 := Hkp.out; have q3 := HZL.out; omega)); have HR5 := Lib.hid (HR4.out.grown hs.2 (by have q2 := Hkp.out; have q3 := HZR.out; omega)); have HB5 := Lib.hid (HB4.out.grown hs.2 HB4.out.size (fun q e => by cases e; have q2 := Hkp.out; have q3 := HZW.out; omega)); have HZ5 := Lib.hid (Nat.le_trans HZ4.out hs.2.size)
              have HQ5 := Lib.hid ((hs.2.block kq (Array.getElem?_eq_some_iff.1 HQ4.out).1 (fun e => HPQ.out (Option.some.inj e).symm)).trans HQ4.out)
              clear hs
              generalize v4.setRow kp ((rowL es k2 n).map (Value.float .f32)).toArray = v5 at HG5 HX5 HV5 HL5 HR5 HB5 HZ5 HP5 HQ5 ⊢
              (refine hK.out _ _ (⟨(pair_cells HG5.out).1, (pair_cells HG5.out).2.1, (four_cells HX5.out).1, (four_cells HX5.out).2.1, (four_cells HX5.out).2.2.1, (four_cells HX5.out).2.2.2.1⟩) (fun hHeld => ?_); clear hK K; (try simp only [List.getElem_toArray, List.getElem_cons_zero, List.getElem_cons_succ, Act.put, List.setIfInBounds_toArray, List.set_cons_zero, List.set_cons_succ]))
              refine wpAnyH_ready (rs := [15]) (by kernel_rfl) (by simp) ?_
              refine (AllReadyH.cons (i := 15) rfl (fun K hK => ?_) AllReadyH.nil)
              refine hstep_store_row rfl 123 _ _ rfl kq ((rowL es k3 n).map (Value.float .f32)).toArray rfl rfl 123 _ HQ5.out (rv_info HQL.out) (by rw [rv_size HQL.out]; rfl) (rv_one _) ?_
              have hs := rb_stored (rs := (rowL es k3 n)) HQ5.out
              have HQ6 := Lib.hid hs.1
              have HG6 := Lib.hid ((hs.2.block w.heap.size (Array.getElem?_eq_some_iff.1 HG5.out).1 (fun e => by have q1 := Option.some.inj e; have q2 := Hkq.out; have q3 := HZW.out; omega)).trans HG5.out)
              have HX6 := Lib.hid ((hs.2.block kb (Array.getElem?_eq_some_iff.1 HX5.out).1 (fun e => by have q1 := Option.some.inj e; have q2 := Hkq.out; have q3 := HZB.out; omega)).trans HX5.out)
              have HV6 := Lib.hid (HV5.out.other hs.2 (by have q2 := Hkq.out; have q3 := HZV.out; omega)); have HL6 := Lib.hid (HL5.out.other hs.2 (by have q2 := Hkq.out; have q3 := HZL.out; omega)); have HR6 := Lib.hid (HR5.out.grown hs.2 (by have q2 := Hkq.out; have q3 := HZR.out; omega)); have HB6 := Lib.hid (HB5.out.grown hs.2 HB5.out.size (fun q e => by cases e; have q2 := Hkq.out; have q3 := HZW.out; omega)); have HZ6 := Lib.hid (Nat.le_trans HZ5.out hs.2.size)
              have HP6 := Lib.hid (HP5.out.grown hs.2 HPQ.out)
              clear hs
              generalize v5.setRow kq ((rowL es k3 n).map (Value.float .f32)).toArray = v6 at HG6 HX6 HV6 HL6 HR6 HB6 HZ6 HP6 HQ6 ⊢
              (refine hK.out _ _ (⟨(pair_cells HG6.out).1, (pair_cells HG6.out).2.1, (four_cells HX6.out).1, (four_cells HX6.out).2.1, (four_cells HX6.out).2.2.1, (four_cells HX6.out).2.2.2.1⟩) (fun hHeld => ?_); clear hK K; (try simp only [List.getElem_toArray, List.getElem_cons_zero, List.getElem_cons_succ, Act.put, List.setIfInBounds_toArray, List.set_cons_zero, List.set_cons_succ]))
              (refine wpAnyH_done (by kernel_rfl) ?_ _; refine NoPanic.normal ?_)
              clear hHeld
              go_wp2_with fail
              go_meet
              case rel => exact ⟨kp, kq, rfl, rfl, HPQ, Hkp, Hkq, HP6, HQ6, HR6, HV6, HL6, HG6, HX6, HB6⟩
          · skip
            go_simp
            go_wp2_with fail
            have hb := (Below.refl v1.heap.size v1).alloc (Nat.le_refl _) Z16
            have HQ2 := Lib.hid (heap_alloc_new v1 Z16)
            have HG2 := Lib.hid ((hb.block w.heap.size (Array.getElem?_eq_some_iff.1 HG1.out).1).trans HG1.out)
            have HX2 := Lib.hid ((hb.block kb (Array.getElem?_eq_some_iff.1 HX1.out).1).trans HX1.out)
            have HV2 := Lib.hid (HV1.out.still hb); have HL2 := Lib.hid (HL1.out.still hb); have HR2 := Lib.hid (HR1.out.still hb); have HB2 := Lib.hid (HB1.out.trans (hb.mono HB1.out.size)); have HZ2 := Lib.hid (Nat.le_trans HZ1.out hb.size)
            have HP2 := Lib.hid ((hb.block kp (Array.getElem?_eq_some_iff.1 HP1.out).1).trans HP1.out)
            have Hkq := Lib.hid (show zr ≤ v1.heap.size from HZ1.out)
            have HPQ := Lib.hid (show kp ≠ v1.heap.size by have := (Array.getElem?_eq_some_iff.1 HP1.out).1; omega)
            clear hb
            generalize v1.alloc Z16 = v2 at HQ2 HG2 HX2 HV2 HL2 HR2 HB2 HZ2 HP2 ⊢
            generalize v1.heap.size = kq at HQ2 Hkq HPQ ⊢
            (refine hK.out _ _ (⟨(pair_cells HG2.out).1, (pair_cells HG2.out).2.1, (four_cells HX2.out).1, (four_cells HX2.out).2.1, (four_cells HX2.out).2.2.1, (four_cells HX2.out).2.2.2.1⟩) (fun hHeld => ?_); clear hK K; (try simp only [List.getElem_toArray, List.getElem_cons_zero, List.getElem_cons_succ, Act.put, List.setIfInBounds_toArray, List.set_cons_zero, List.set_cons_succ]))
            refine wpAnyH_ready (rs := [5]) (by kernel_rfl) (by simp) ?_
            refine (AllReadyH.cons (i := 5) rfl (fun K hK => ?_) AllReadyH.nil)
            go_simp
            have hf := HV2.out.fs HEW.out
            rw [HEL.out] at hf
            have hh := rowAt_any n b _ es ((y : Int) - 1) k2 _ hf (by rw [HEL.out]; exact H1.out) HK2.out HY2.out
            rw [Int.toNat_natCast] at hh
            refine hh.mono ?_; clear hh hf; rintro e v3 ⟨rfl, hb⟩
            have HG3 := Lib.hid ((hb.block w.heap.size (Array.getElem?_eq_some_iff.1 HG2.out).1).trans HG2.out)
            have HX3 := Lib.hid ((hb.block kb (Array.getElem?_eq_some_iff.1 HX2.out).1).trans HX2.out)
            have HV3 := Lib.hid (HV2.out.still hb); have HL3 := Lib.hid (HL2.out.still hb); have HR3 := Lib.hid (HR2.out.still hb); have HB3 := Lib.hid (HB2.out.trans (hb.mono HB2.out.size)); have HZ3 := Lib.hid (Nat.le_trans HZ2.out hb.size)
            have HP3 := Lib.hid ((hb.block kp (Array.getElem?_eq_some_iff.1 HP2.out).1).trans HP2.out)
            have HQ3 := Lib.hid ((hb.block kq (Array.getElem?_eq_some_iff.1 HQ2.out).1).trans HQ2.out)
            clear hb
            go_wp2_with fail
            (refine hK.out _ _ (⟨(pair_cells HG3.out).1, (pair_cells HG3.out).2.1, (four_cells HX3.out).1, (four_cells HX3.out).2.1, (four_cells HX3.out).2.2.1, (four_cells HX3.out).2.2.2.1⟩) (fun hHeld => ?_); clear hK K; (try simp only [List.getElem_toArray, List.getElem_cons_zero, List.getElem_cons_succ, Act.put, List.setIfInBounds_toArray, List.set_cons_zero, List.set_cons_succ]))
            refine wpAnyH_ready (rs := [11]) (by kernel_rfl) (by simp) ?_
            refine (AllReadyH.cons (i := 11) rfl (fun K hK => ?_) AllReadyH.nil)
            go_simp
            have hf := HV3.out.fs HEW.out
            rw [HEL.out] at hf
            have hh := rowAt_any n b _ es ((y : Int) + 1) k3 _ hf (by rw [HEL.out]; exact H1.out) HK3.out HY3.out
            rw [Int.toNat_natCast] at hh
            refine hh.mono ?_; clear hh hf; rintro e v4 ⟨rfl, hb⟩
            have HG4 := Lib.hid ((hb.block w.heap.size (Array.getElem?_eq_some_iff.1 HG3.out).1).trans HG3.out)
            have HX4 := Lib.hid ((hb.block kb (Array.getElem?_eq_some_iff.1 HX3.out).1).trans HX3.out)
            have HV4 := Lib.hid (HV3.out.still hb); have HL4 := Lib.hid (HL3.out.still hb); have HR4 := Lib.hid (HR3.out.still hb); have HB4 := Lib.hid (HB3.out.trans (hb.mono HB3.out.size)); have HZ4 := Lib.hid (Nat.le_trans HZ3.out hb.size)
            have HP4 := Lib.hid ((hb.block kp (Array.getElem?_eq_some_iff.1 HP3.out).1).trans HP3.out)
            have HQ4 := Lib.hid ((hb.block kq (Array.getElem?_eq_some_iff.1 HQ3.out).1).trans HQ3.out)
            clear hb
            go_wp2_with fail
            (refine hK.out _ _ (⟨(pair_cells HG4.out).1, (pair_cells HG4.out).2.1, (four_cells HX4.out).1, (four_cells HX4.out).2.1, (four_cells HX4.out).2.2.1, (four_cells HX4.out).2.2.2.1⟩) (fun hHeld => ?_); clear hK K; (try simp only [List.getElem_toArray, List.getElem_cons_zero, List.getElem_cons_succ, Act.put, List.setIfInBounds_toArray, List.set_cons_zero, List.set_cons_succ]))
            refine wpAnyH_ready (rs := [14]) (by kernel_rfl) (by simp) ?_
            refine (AllReadyH.cons (i := 14) rfl (fun K hK => ?_) AllReadyH.nil)
            refine hstep_store_row rfl 123 _ _ rfl kp ((rowL es k2 n).map (Value.float .f32)).toArray rfl rfl 123 _ HP4.out (rv_info HPL.out) (by rw [rv_size HPL.out]; rfl) (rv_one _) ?_
            have hs := rb_stored (rs := (rowL es k2 n)) HP4.out
            have HP5 := Lib.hid hs.1
            have HG5 := Lib.hid ((hs.2.block w.heap.size (Array.getElem?_eq_some_iff.1 HG4.out).1 (fun e => by have q1 := Option.some.inj e; have q2 := Hkp.out; have q3 := HZW.out; omega)).trans HG4.out)
            have HX5 := Lib.hid ((hs.2.block kb (Array.getElem?_eq_some_iff.1 HX4.out).1 (fun e => by have q1 := Option.some.inj e; have q2 := Hkp.out; have q3 := HZB.out; omega)).trans HX4.out)
            have HV5 := Lib.hid (HV4.out.other hs.2 (by have q2 := Hkp.out; have q3 := HZV.out; omega)); have HL5 := Lib.hid (HL4.out.other hs.2 (by have q2 := Hkp.out; have q3 := HZL.out; omega)); have HR5 := Lib.hid (HR4.out.grown hs.2 (by have q2 := Hkp.out; have q3 := HZR.out; omega)); have HB5 := Lib.hid (HB4.out.grown hs.2 HB4.out.size (fun q e => by cases e; have q2 := Hkp.out; have q3 := HZW.out; omega)); have HZ5 := Lib.hid (Nat.le_trans HZ4.out hs.2.size)
            have HQ5 := Lib.hid ((hs.2.block kq (Array.getElem?_eq_some_iff.1 HQ4.out).1 (fun e => HPQ.out (Option.some.inj e).symm)).trans HQ4.out)
            clear hs
            generalize v4.setRow kp ((rowL es k2 n).map (Value.float .f32)).toArray = v5 at HG5 HX5 HV5 HL5 HR5 HB5 HZ5 HP5 HQ5 ⊢
            (refine hK.out _ _ (⟨(pair_cells HG5.out).1, (pair_cells HG5.out).2.1, (four_cells HX5.out).1, (four_cells HX5.out).2.1, (four_cells HX5.out).2.2.1, (four_cells HX5.out).2.2.2.1⟩) (fun hHeld => ?_); clear hK K; (try simp only [List.getElem_toArray, List.getElem_cons_zero, List.getElem_cons_succ, Act.put, List.setIfInBounds_toArray, List.set_cons_zero, List.set_cons_succ]))
            refine wpAnyH_ready (rs := [15]) (by kernel_rfl) (by simp) ?_
            refine (AllReadyH.cons (i := 15) rfl (fun K hK => ?_) AllReadyH.nil)
            refine hstep_store_row rfl 123 _ _ rfl kq ((rowL es k3 n).map (Value.float .f32)).toArray rfl rfl 123 _ HQ5.out (rv_info HQL.out) (by rw [rv_size HQL.out]; rfl) (rv_one _) ?_
            have hs := rb_stored (rs := (rowL es k3 n)) HQ5.out
            have HQ6 := Lib.hid hs.1
            have HG6 := Lib.hid ((hs.2.block w.heap.size (Array.getElem?_eq_some_iff.1 HG5.out).1 (fun e => by have q1 := Option.some.inj e; have q2 := Hkq.out; have q3 := HZW.out; omega)).trans HG5.out)
            have HX6 := Lib.hid ((hs.2.block kb (Array.getElem?_eq_some_iff.1 HX5.out).1 (fun e => by have q1 := Option.some.inj e; have q2 := Hkq.out; have q3 := HZB.out; omega)).trans HX5.out)
            have HV6 := Lib.hid (HV5.out.other hs.2 (by have q2 := Hkq.out; have q3 := HZV.out; omega)); have HL6 := Lib.hid (HL5.out.other hs.2 (by have q2 := Hkq.out; have q3 := HZL.out; omega)); have HR6 := Lib.hid (HR5.out.grown hs.2 (by have q2 := Hkq.out; have q3 := HZR.out; omega)); have HB6 := Lib.hid (HB5.out.grown hs.2 HB5.out.size (fun q e => by cases e; have q2 := Hkq.out; have q3 := HZW.out; omega)); have HZ6 := Lib.hid (Nat.le_trans HZ5.out hs.2.size)
            have HP6 := Lib.hid (HP5.out.grown hs.2 HPQ.out)
            clear hs
            generalize v5.setRow kq ((rowL es k3 n).map (Value.float .f32)).toArray = v6 at HG6 HX6 HV6 HL6 HR6 HB6 HZ6 HP6 HQ6 ⊢
            (refine hK.out _ _ (⟨(pair_cells HG6.out).1, (pair_cells HG6.out).2.1, (four_cells HX6.out).1, (four_cells HX6.out).2.1, (four_cells HX6.out).2.2.1, (four_cells HX6.out).2.2.2.1⟩) (fun hHeld => ?_); clear hK K; (try simp only [List.getElem_toArray, List.getElem_cons_zero, List.getElem_cons_succ, Act.put, List.setIfInBounds_toArray, List.set_cons_zero, List.set_cons_succ]))
            (refine wpAnyH_done (by kernel_rfl) ?_ _; refine NoPanic.normal ?_)
            clear hHeld
            go_wp2_with fail
            go_meet
            case rel => exact ⟨kp, kq, rfl, rfl, HPQ, Hkp, Hkq, HP6, HQ6, HR6, HV6, HL6, HG6, HX6, HB6⟩
        · skip
          go_simp
          go_wp2_with fail
          have hb := (Below.refl v0.heap.size v0).alloc (Nat.le_refl _) Z16
          have HQ1 := Lib.hid (heap_alloc_new v0 Z16)
          have HG1 := Lib.hid ((hb.block w.heap.size (Array.getElem?_eq_some_iff.1 HG0.out).1).trans HG0.out)
          have HX1 := Lib.hid ((hb.block kb (Array.getElem?_eq_some_iff.1 HX0.out).1).trans HX0.out)
          have HV1 := Lib.hid (HV0.out.still hb); have HL1 := Lib.hid (HL0.out.still hb); have HR1 := Lib.hid (HR0.out.still hb); have HB1 := Lib.hid (HB0.out.trans (hb.mono HB0.out.size)); have HZ1 := Lib.hid (Nat.le_trans HZ0.out hb.size)
          have Hkq := Lib.hid (show zr ≤ v0.heap.size from HZ0.out)
          clear hb
          generalize v0.alloc Z16 = v1 at HQ1 HG1 HX1 HV1 HL1 HR1 HB1 HZ1 ⊢
          generalize v0.heap.size = kq at HQ1 Hkq ⊢
          (refine hK.out _ _ (⟨(pair_cells HG1.out).1, (pair_cells HG1.out).2.1, (four_cells HX1.out).1, (four_cells HX1.out).2.1, (four_cells HX1.out).2.2.1, (four_cells HX1.out).2.2.2.1⟩) (fun hHeld => ?_); clear hK K; (try simp only [List.getElem_toArray, List.getElem_cons_zero, List.getElem_cons_succ, Act.put, List.setIfInBounds_toArray, List.set_cons_zero, List.set_cons_succ]))
          refine wpAnyH_ready (rs := [5, 12]) (by kernel_rfl) (by simp) ?_
          refine (AllReadyH.cons (i := 5) rfl (fun K hK => ?_) (AllReadyH.cons (i := 12) rfl (fun K hK => ?_) AllReadyH.nil))
          · skip
            go_simp
            have hf := HV1.out.fs HEW.out
            rw [HEL.out] at hf
            have hh := rowAt_any n b _ es ((y : Int) - 1) k2 _ hf (by rw [HEL.out]; exact H1.out) HK2.out HY2.out
            rw [Int.toNat_natCast] at hh
            refine hh.mono ?_; clear hh hf; rintro e v2 ⟨rfl, hb⟩
            have HG2 := Lib.hid ((hb.block w.heap.size (Array.getElem?_eq_some_iff.1 HG1.out).1).trans HG1.out)
            have HX2 := Lib.hid ((hb.block kb (Array.getElem?_eq_some_iff.1 HX1.out).1).trans HX1.out)
            have HV2 := Lib.hid (HV1.out.still hb); have HL2 := Lib.hid (HL1.out.still hb); have HR2 := Lib.hid (HR1.out.still hb); have HB2 := Lib.hid (HB1.out.trans (hb.mono HB1.out.size)); have HZ2 := Lib.hid (Nat.le_trans HZ1.out hb.size)
            have HQ2 := Lib.hid ((hb.block kq (Array.getElem?_eq_some_iff.1 HQ1.out).1).trans HQ1.out)
            clear hb
            go_wp2_with fail
            (refine hK.out _ _ (⟨(pair_cells HG2.out).1, (pair_cells HG2.out).2.1, (four_cells HX2.out).1, (four_cells HX2.out).2.1, (four_cells HX2.out).2.2.1, (four_cells HX2.out).2.2.2.1⟩) (fun hHeld => ?_); clear hK K; (try simp only [List.getElem_toArray, List.getElem_cons_zero, List.getElem_cons_succ, Act.put, List.setIfInBounds_toArray, List.set_cons_zero, List.set_cons_succ]))
            refine wpAnyH_ready (rs := [11, 12]) (by kernel_rfl) (by simp) ?_
            refine (AllReadyH.cons (i := 11) rfl (fun K hK => ?_) (AllReadyH.cons (i := 12) rfl (fun K hK => ?_) AllReadyH.nil))
            · skip
              go_simp
              have hf := HV2.out.fs HEW.out
              rw [HEL.out] at hf
              have hh := rowAt_any n b _ es ((y : Int) + 1) k3 _ hf (by rw [HEL.out]; exact H1.out) HK3.out HY3.out
              rw [Int.toNat_natCast] at hh
              refine hh.mono ?_; clear hh hf; rintro e v3 ⟨rfl, hb⟩
              have HG3 := Lib.hid ((hb.block w.heap.size (Array.getElem?_eq_some_iff.1 HG2.out).1).trans HG2.out)
              have HX3 := Lib.hid ((hb.block kb (Array.getElem?_eq_some_iff.1 HX2.out).1).trans HX2.out)
              have HV3 := Lib.hid (HV2.out.still hb); have HL3 := Lib.hid (HL2.out.still hb); have HR3 := Lib.hid (HR2.out.still hb); have HB3 := Lib.hid (HB2.out.trans (hb.mono HB2.out.size)); have HZ3 := Lib.hid (Nat.le_trans HZ2.out hb.size)
              have HQ3 := Lib.hid ((hb.block kq (Array.getElem?_eq_some_iff.1 HQ2.out).1).trans HQ2.out)
              clear hb
              go_wp2_with fail
              (refine hK.out _ _ (⟨(pair_cells HG3.out).1, (pair_cells HG3.out).2.1, (four_cells HX3.out).1, (four_cells HX3.out).2.1, (four_cells HX3.out).2.2.1, (four_cells HX3.out).2.2.2.1⟩) (fun hHeld => ?_); clear hK K; (try simp only [List.getElem_toArray, List.getElem_cons_zero, List.getElem_cons_succ, Act.put, List.setIfInBounds_toArray, List.set_cons_zero, List.set_cons_succ]))
              refine wpAnyH_ready (rs := [12]) (by kernel_rfl) (by simp) ?_
              refine (AllReadyH.cons (i := 12) rfl (fun K hK => ?_) AllReadyH.nil)
              go_simp
              go_wp2_with fail
              have hb := (Below.refl v3.heap.size v3).alloc (Nat.le_refl _) Z16
              have HP4 := Lib.hid (heap_alloc_new v3 Z16)
              have HG4 := Lib.hid ((hb.block w.heap.size (Array.getElem?_eq_some_iff.1 HG3.out).1).trans HG3.out)
              have HX4 := Lib.hid ((hb.block kb (Array.getElem?_eq_some_iff.1 HX3.out).1).trans HX3.out)
              have HV4 := Lib.hid (HV3.out.still hb); have HL4 := Lib.hid (HL3.out.still hb); have HR4 := Lib.hid (HR3.out.still hb); have HB4 := Lib.hid (HB3.out.trans (hb.mono HB3.out.size)); have HZ4 := Lib.hid (Nat.le_trans HZ3.out hb.size)
              have HQ4 := Lib.hid ((hb.block kq (Array.getElem?_eq_some_iff.1 HQ3.out).1).trans HQ3.out)
              have Hkp := Lib.hid (show zr ≤ v3.heap.size from HZ3.out)
              have HPQ := Lib.hid (show v3.heap.size ≠ kq by have := (Array.getElem?_eq_some_iff.1 HQ3.out).1; omega)
              clear hb
              generalize v3.alloc Z16 = v4 at HP4 HG4 HX4 HV4 HL4 HR4 HB4 HZ4 HQ4 ⊢
              generalize v3.heap.size = kp at HP4 Hkp HPQ ⊢
              (refine hK.out _ _ (⟨(pair_cells HG4.out).1, (pair_cells HG4.out).2.1, (four_cells HX4.out).1, (four_cells HX4.out).2.1, (four_cells HX4.out).2.2.1, (four_cells HX4.out).2.2.2.1⟩) (fun hHeld => ?_); clear hK K; (try simp only [List.getElem_toArray, List.getElem_cons_zero, List.getElem_cons_succ, Act.put, List.setIfInBounds_toArray, List.set_cons_zero, List.set_cons_succ]))
              refine wpAnyH_ready (rs := [14]) (by kernel_rfl) (by simp) ?_
              refine (AllReadyH.cons (i := 14) rfl (fun K hK => ?_) AllReadyH.nil)
              refine hstep_store_row rfl 123 _ _ rfl kp ((rowL es k2 n).map (Value.float .f32)).toArray rfl rfl 123 _ HP4.out (rv_info HPL.out) (by rw [rv_size HPL.out]; rfl) (rv_one _) ?_
              have hs := rb_stored (rs := (rowL es k2 n)) HP4.out
              have HP5 := Lib.hid hs.1
              have HG5 := Lib.hid ((hs.2.block w.heap.size (Array.getElem?_eq_some_iff.1 HG4.out).1 (fun e => by have q1 := Option.some.inj e; have q2 := Hkp.out; have q3 := HZW.out; omega)).trans HG4.out)
              have HX5 := Lib.hid ((hs.2.block kb (Array.getElem?_eq_some_iff.1 HX4.out).1 (fun e => by have q1 := Option.some.inj e; have q2 := Hkp.out; have q3 := HZB.out; omega)).trans HX4.out)
              have HV5 := Lib.hid (HV4.out.other hs.2 (by have q2 := Hkp.out; have q3 := HZV.out; omega)); have HL5 := Lib.hid (HL4.out.other hs.2 (by have q2 := Hkp.out; have q3 := HZL.out; omega)); have HR5 := Lib.hid (HR4.out.grown hs.2 (by have q2 := Hkp.out; have q3 := HZR.out; omega)); have HB5 := Lib.hid (HB4.out.grown hs.2 HB4.out.size (fun q e => by cases e; have q2 := Hkp.out; have q3 := HZW.out; omega)); have HZ5 := Lib.hid (Nat.le_trans HZ4.out hs.2.size)
              have HQ5 := Lib.hid ((hs.2.block kq (Array.getElem?_eq_some_iff.1 HQ4.out).1 (fun e => HPQ.out (Option.some.inj e).symm)).trans HQ4.out)
              clear hs
              generalize v4.setRow kp ((rowL es k2 n).map (Value.float .f32)).toArray = v5 at HG5 HX5 HV5 HL5 HR5 HB5 HZ5 HP5 HQ5 ⊢
              (refine hK.out _ _ (⟨(pair_cells HG5.out).1, (pair_cells HG5.out).2.1, (four_cells HX5.out).1, (four_cells HX5.out).2.1, (four_cells HX5.out).2.2.1, (four_cells HX5.out).2.2.2.1⟩) (fun hHeld => ?_); clear hK K; (try simp only [List.getElem_toArray, List.getElem_cons_zero, List.getElem_cons_succ, Act.put, List.setIfInBounds_toArray, List.set_cons_zero, List.set_cons_succ]))
              refine wpAnyH_ready (rs := [15]) (by kernel_rfl) (by simp) ?_
              refine (AllReadyH.cons (i := 15) rfl (fun K hK => ?_) AllReadyH.nil)
              refine hstep_store_row rfl 123 _ _ rfl kq ((rowL es k3 n).map (Value.float .f32)).toArray rfl rfl 123 _ HQ5.out (rv_info HQL.out) (by rw [rv_size HQL.out]; rfl) (rv_one _) ?_
              have hs := rb_stored (rs := (rowL es k3 n)) HQ5.out
              have HQ6 := Lib.hid hs.1
              have HG6 := Lib.hid ((hs.2.block w.heap.size (Array.getElem?_eq_some_iff.1 HG5.out).1 (fun e => by have q1 := Option.some.inj e; have q2 := Hkq.out; have q3 := HZW.out; omega)).trans HG5.out)
              have HX6 := Lib.hid ((hs.2.block kb (Array.getElem?_eq_some_iff.1 HX5.out).1 (fun e => by have q1 := Option.some.inj e; have q2 := Hkq.out; have q3 := HZB.out; omega)).trans HX5.out)
              have HV6 := Lib.hid (HV5.out.other hs.2 (by have q2 := Hkq.out; have q3 := HZV.out; omega)); have HL6 := Lib.hid (HL5.out.other hs.2 (by have q2 := Hkq.out; have q3 := HZL.out; omega)); have HR6 := Lib.hid (HR5.out.grown hs.2 (by have q2 := Hkq.out; have q3 := HZR.out; omega)); have HB6 := Lib.hid (HB5.out.grown hs.2 HB5.out.size (fun q e => by cases e; have q2 := Hkq.out; have q3 := HZW.out; omega)); have HZ6 := Lib.hid (Nat.le_trans HZ5.out hs.2.size)
              have HP6 := Lib.hid (HP5.out.grown hs.2 HPQ.out)
              clear hs
              generalize v5.setRow kq ((rowL es k3 n).map (Value.float .f32)).toArray = v6 at HG6 HX6 HV6 HL6 HR6 HB6 HZ6 HP6 HQ6 ⊢
              (refine hK.out _ _ (⟨(pair_cells HG6.out).1, (pair_cells HG6.out).2.1, (four_cells HX6.out).1, (four_cells HX6.out).2.1, (four_cells HX6.out).2.2.1, (four_cells HX6.out).2.2.2.1⟩) (fun hHeld => ?_); clear hK K; (try simp only [List.getElem_toArray, List.getElem_cons_zero, List.getElem_cons_succ, Act.put, List.setIfInBounds_toArray, List.set_cons_zero, List.set_cons_succ]))
              (refine wpAnyH_done (by kernel_rfl) ?_ _; refine NoPanic.normal ?_)
              clear hHeld
              go_wp2_with fail
              go_meet
              case rel => exact ⟨kp, kq, rfl, rfl, HPQ, Hkp, Hkq, HP6, HQ6, HR6, HV6, HL6, HG6, HX6, HB6⟩
            · skip
              go_simp
              go_wp2_with fail
              have hb := (Below.refl v2.heap.size v2).alloc (Nat.le_refl _) Z16
              have HP3 := Lib.hid (heap_alloc_new v2 Z16)
              have HG3 := Lib.hid ((hb.block w.heap.size (Array.getElem?_eq_some_iff.1 HG2.out).1).trans HG2.out)
              have HX3 := Lib.hid ((hb.block kb (Array.getElem?_eq_some_iff.1 HX2.out).1).trans HX2.out)
              have HV3 := Lib.hid (HV2.out.still hb); have HL3 := Lib.hid (HL2.out.still hb); have HR3 := Lib.hid (HR2.out.still hb); have HB3 := Lib.hid (HB2.out.trans (hb.mono HB2.out.size)); have HZ3 := Lib.hid (Nat.le_trans HZ2.out hb.size)
              have HQ3 := Lib.hid ((hb.block kq (Array.getElem?_eq_some_iff.1 HQ2.out).1).trans HQ2.out)
              have Hkp := Lib.hid (show zr ≤ v2.heap.size from HZ2.out)
              have HPQ := Lib.hid (show v2.heap.size ≠ kq by have := (Array.getElem?_eq_some_iff.1 HQ2.out).1; omega)
              clear hb
              generalize v2.alloc Z16 = v3 at HP3 HG3 HX3 HV3 HL3 HR3 HB3 HZ3 HQ3 ⊢
              generalize v2.heap.size = kp at HP3 Hkp HPQ ⊢
              (refine hK.out _ _ (⟨(pair_cells HG3.out).1, (pair_cells HG3.out).2.1, (four_cells HX3.out).1, (four_cells HX3.out).2.1, (four_cells HX3.out).2.2.1, (four_cells HX3.out).2.2.2.1⟩) (fun hHeld => ?_); clear hK K; (try simp only [List.getElem_toArray, List.getElem_cons_zero, List.getElem_cons_succ, Act.put, List.setIfInBounds_toArray, List.set_cons_zero, List.set_cons_succ]))
              refine wpAnyH_ready (rs := [11]) (by kernel_rfl) (by simp) ?_
              refine (AllReadyH.cons (i := 11) rfl (fun K hK => ?_) AllReadyH.nil)
              go_simp
              have hf := HV3.out.fs HEW.out
              rw [HEL.out] at hf
              have hh := rowAt_any n b _ es ((y : Int) + 1) k3 _ hf (by rw [HEL.out]; exact H1.out) HK3.out HY3.out
              rw [Int.toNat_natCast] at hh
              refine hh.mono ?_; clear hh hf; rintro e v4 ⟨rfl, hb⟩
              have HG4 := Lib.hid ((hb.block w.heap.size (Array.getElem?_eq_some_iff.1 HG3.out).1).trans HG3.out)
              have HX4 := Lib.hid ((hb.block kb (Array.getElem?_eq_some_iff.1 HX3.out).1).trans HX3.out)
              have HV4 := Lib.hid (HV3.out.still hb); have HL4 := Lib.hid (HL3.out.still hb); have HR4 := Lib.hid (HR3.out.still hb); have HB4 := Lib.hid (HB3.out.trans (hb.mono HB3.out.size)); have HZ4 := Lib.hid (Nat.le_trans HZ3.out hb.size)
              have HP4 := Lib.hid ((hb.block kp (Array.getElem?_eq_some_iff.1 HP3.out).1).trans HP3.out)
              have HQ4 := Lib.hid ((hb.block kq (Array.getElem?_eq_some_iff.1 HQ3.out).1).trans HQ3.out)
              clear hb
              go_wp2_with fail
              (refine hK.out _ _ (⟨(pair_cells HG4.out).1, (pair_cells HG4.out).2.1, (four_cells HX4.out).1, (four_cells HX4.out).2.1, (four_cells HX4.out).2.2.1, (four_cells HX4.out).2.2.2.1⟩) (fun hHeld => ?_); clear hK K; (try simp only [List.getElem_toArray, List.getElem_cons_zero, List.getElem_cons_succ, Act.put, List.setIfInBounds_toArray, List.set_cons_zero, List.set_cons_succ]))
              refine wpAnyH_ready (rs := [14]) (by kernel_rfl) (by simp) ?_
              refine (AllReadyH.cons (i := 14) rfl (fun K hK => ?_) AllReadyH.nil)
              refine hstep_store_row rfl 123 _ _ rfl kp ((rowL es k2 n).map (Value.float .f32)).toArray rfl rfl 123 _ HP4.out (rv_info HPL.out) (by rw [rv_size HPL.out]; rfl) (rv_one _) ?_
              have hs := rb_stored (rs := (rowL es k2 n)) HP4.out
              have HP5 := Lib.hid hs.1
              have HG5 := Lib.hid ((hs.2.block w.heap.size (Array.getElem?_eq_some_iff.1 HG4.out).1 (fun e => by have q1 := Option.some.inj e; have q2 := Hkp.out; have q3 := HZW.out; omega)).trans HG4.out)
              have HX5 := Lib.hid ((hs.2.block kb (Array.getElem?_eq_some_iff.1 HX4.out).1 (fun e => by have q1 := Option.some.inj e; have q2 := Hkp.out; have q3 := HZB.out; omega)).trans HX4.out)
              have HV5 := Lib.hid (HV4.out.other hs.2 (by have q2 := Hkp.out; have q3 := HZV.out; omega)); have HL5 := Lib.hid (HL4.out.other hs.2 (by have q2 := Hkp.out; have q3 := HZL.out; omega)); have HR5 := Lib.hid (HR4.out.grown hs.2 (by have q2 := Hkp.out; have q3 := HZR.out; omega)); have HB5 := Lib.hid (HB4.out.grown hs.2 HB4.out.size (fun q e => by cases e; have q2 := Hkp.out; have q3 := HZW.out; omega)); have HZ5 := Lib.hid (Nat.le_trans HZ4.out hs.2.size)
              have HQ5 := Lib.hid ((hs.2.block kq (Array.getElem?_eq_some_iff.1 HQ4.out).1 (fun e => HPQ.out (Option.some.inj e).symm)).trans HQ4.out)
              clear hs
              generalize v4.setRow kp ((rowL es k2 n).map (Value.float .f32)).toArray = v5 at HG5 HX5 HV5 HL5 HR5 HB5 HZ5 HP5 HQ5 ⊢
              (refine hK.out _ _ (⟨(pair_cells HG5.out).1, (pair_cells HG5.out).2.1, (four_cells HX5.out).1, (four_cells HX5.out).2.1, (four_cells HX5.out).2.2.1, (four_cells HX5.out).2.2.2.1⟩) (fun hHeld => ?_); clear hK K; (try simp only [List.getElem_toArray, List.getElem_cons_zero, List.getElem_cons_succ, Act.put, List.setIfInBounds_toArray, List.set_cons_zero, List.set_cons_succ]))
              refine wpAnyH_ready (rs := [15]) (by kernel_rfl) (by simp) ?_
              refine (AllReadyH.cons (i := 15) rfl (fun K hK => ?_) AllReadyH.nil)
              refine hstep_store_row rfl 123 _ _ rfl kq ((rowL es k3 n).map (Value.float .f32)).toArray rfl rfl 123 _ HQ5.out (rv_info HQL.out) (by rw [rv_size HQL.out]; rfl) (rv_one _) ?_
              have hs := rb_stored (rs := (rowL es k3 n)) HQ5.out
              have HQ6 := Lib.hid hs.1
              have HG6 := Lib.hid ((hs.2.block w.heap.size (Array.getElem?_eq_some_iff.1 HG5.out).1 (fun e => by have q1 := Option.some.inj e; have q2 := Hkq.out; have q3 := HZW.out; omega)).trans HG5.out)
              have HX6 := Lib.hid ((hs.2.block kb (Array.getElem?_eq_some_iff.1 HX5.out).1 (fun e => by have q1 := Option.some.inj e; have q2 := Hkq.out; have q3 := HZB.out; omega)).trans HX5.out)
              have HV6 := Lib.hid (HV5.out.other hs.2 (by have q2 := Hkq.out; have q3 := HZV.out; omega)); have HL6 := Lib.hid (HL5.out.other hs.2 (by have q2 := Hkq.out; have q3 := HZL.out; omega)); have HR6 := Lib.hid (HR5.out.grown hs.2 (by have q2 := Hkq.out; have q3 := HZR.out; omega)); have HB6 := Lib.hid (HB5.out.grown hs.2 HB5.out.size (fun q e => by cases e; have q2 := Hkq.out; have q3 := HZW.out; omega)); have HZ6 := Lib.hid (Nat.le_trans HZ5.out hs.2.size)
              have HP6 := Lib.hid (HP5.out.grown hs.2 HPQ.out)
              clear hs
              generalize v5.setRow kq ((rowL es k3 n).map (Value.float .f32)).toArray = v6 at HG6 HX6 HV6 HL6 HR6 HB6 HZ6 HP6 HQ6 ⊢
              (refine hK.out _ _ (⟨(pair_cells HG6.out).1, (pair_cells HG6.out).2.1, (four_cells HX6.out).1, (four_cells HX6.out).2.1, (four_cells HX6.out).2.2.1, (four_cells HX6.out).2.2.2.1⟩) (fun hHeld => ?_); clear hK K; (try simp only [List.getElem_toArray, List.getElem_cons_zero, List.getElem_cons_succ, Act.put, List.setIfInBounds_toArray, List.set_cons_zero, List.set_cons_succ]))
              (refine wpAnyH_done (by kernel_rfl) ?_ _; refine NoPanic.normal ?_)
              clear hHeld
              go_wp2_with fail
              go_meet
              case rel => exact ⟨kp, kq, rfl, rfl, HPQ, Hkp, Hkq, HP6, HQ6, HR6, HV6, HL6, HG6, HX6, HB6⟩
          · skip
            go_simp
            go_wp2_with fail
            have hb := (Below.refl v1.heap.size v1).alloc (Nat.le_refl _) Z16
            have HP2 := Lib.hid (heap_alloc_new v1 Z16)
            have HG2 := Lib.hid ((hb.block w.heap.size (Array.getElem?_eq_some_iff.1 HG1.out).1).trans HG1.out)
            have HX2 := Lib.hid ((hb.block kb (Array.getElem?_eq_some_iff.1 HX1.out).1).trans HX1.out)
            have HV2 := Lib.hid (HV1.out.still hb); have HL2 := Lib.hid (HL1.out.still hb); have HR2 := Lib.hid (HR1.out.still hb); have HB2 := Lib.hid (HB1.out.trans (hb.mono HB1.out.size)); have HZ2 := Lib.hid (Nat.le_trans HZ1.out hb.size)
            have HQ2 := Lib.hid ((hb.block kq (Array.getElem?_eq_some_iff.1 HQ1.out).1).trans HQ1.out)
            have Hkp := Lib.hid (show zr ≤ v1.heap.size from HZ1.out)
            have HPQ := Lib.hid (show v1.heap.size ≠ kq by have := (Array.getElem?_eq_some_iff.1 HQ1.out).1; omega)
            clear hb
            generalize v1.alloc Z16 = v2 at HP2 HG2 HX2 HV2 HL2 HR2 HB2 HZ2 HQ2 ⊢
            generalize v1.heap.size = kp at HP2 Hkp HPQ ⊢
            (refine hK.out _ _ (⟨(pair_cells HG2.out).1, (pair_cells HG2.out).2.1, (four_cells HX2.out).1, (four_cells HX2.out).2.1, (four_cells HX2.out).2.2.1, (four_cells HX2.out).2.2.2.1⟩) (fun hHeld => ?_); clear hK K; (try simp only [List.getElem_toArray, List.getElem_cons_zero, List.getElem_cons_succ, Act.put, List.setIfInBounds_toArray, List.set_cons_zero, List.set_cons_succ]))
            refine wpAnyH_ready (rs := [5]) (by kernel_rfl) (by simp) ?_
            refine (AllReadyH.cons (i := 5) rfl (fun K hK => ?_) AllReadyH.nil)
            go_simp
            have hf := HV2.out.fs HEW.out
            rw [HEL.out] at hf
            have hh := rowAt_any n b _ es ((y : Int) - 1) k2 _ hf (by rw [HEL.out]; exact H1.out) HK2.out HY2.out
            rw [Int.toNat_natCast] at hh
            refine hh.mono ?_; clear hh hf; rintro e v3 ⟨rfl, hb⟩
            have HG3 := Lib.hid ((hb.block w.heap.size (Array.getElem?_eq_some_iff.1 HG2.out).1).trans HG2.out)
            have HX3 := Lib.hid ((hb.block kb (Array.getElem?_eq_some_iff.1 HX2.out).1).trans HX2.out)
            have HV3 := Lib.hid (HV2.out.still hb); have HL3 := Lib.hid (HL2.out.still hb); have HR3 := Lib.hid (HR2.out.still hb); have HB3 := Lib.hid (HB2.out.trans (hb.mono HB2.out.size)); have HZ3 := Lib.hid (Nat.le_trans HZ2.out hb.size)
            have HP3 := Lib.hid ((hb.block kp (Array.getElem?_eq_some_iff.1 HP2.out).1).trans HP2.out)
            have HQ3 := Lib.hid ((hb.block kq (Array.getElem?_eq_some_iff.1 HQ2.out).1).trans HQ2.out)
            clear hb
            go_wp2_with fail
            (refine hK.out _ _ (⟨(pair_cells HG3.out).1, (pair_cells HG3.out).2.1, (four_cells HX3.out).1, (four_cells HX3.out).2.1, (four_cells HX3.out).2.2.1, (four_cells HX3.out).2.2.2.1⟩) (fun hHeld => ?_); clear hK K; (try simp only [List.getElem_toArray, List.getElem_cons_zero, List.getElem_cons_succ, Act.put, List.setIfInBounds_toArray, List.set_cons_zero, List.set_cons_succ]))
            refine wpAnyH_ready (rs := [11]) (by kernel_rfl) (by simp) ?_
            refine (AllReadyH.cons (i := 11) rfl (fun K hK => ?_) AllReadyH.nil)
            go_simp
            have hf := HV3.out.fs HEW.out
            rw [HEL.out] at hf
            have hh := rowAt_any n b _ es ((y : Int) + 1) k3 _ hf (by rw [HEL.out]; exact H1.out) HK3.out HY3.out
            rw [Int.toNat_natCast] at hh
            refine hh.mono ?_; clear hh hf; rintro e v4 ⟨rfl, hb⟩
            have HG4 := Lib.hid ((hb.block w.heap.size (Array.getElem?_eq_some_iff.1 HG3.out).1).trans HG3.out)
            have HX4 := Lib.hid ((hb.block kb (Array.getElem?_eq_some_iff.1 HX3.out).1).trans HX3.out)
            have HV4 := Lib.hid (HV3.out.still hb); have HL4 := Lib.hid (HL3.out.still hb); have HR4 := Lib.hid (HR3.out.still hb); have HB4 := Lib.hid (HB3.out.trans (hb.mono HB3.out.size)); have HZ4 := Lib.hid (Nat.le_trans HZ3.out hb.size)
            have HP4 := Lib.hid ((hb.block kp (Array.getElem?_eq_some_iff.1 HP3.out).1).trans HP3.out)
            have HQ4 := Lib.hid ((hb.block kq (Array.getElem?_eq_some_iff.1 HQ3.out).1).trans HQ3.out)
            clear hb
            go_wp2_with fail
            (refine hK.out _ _ (⟨(pair_cells HG4.out).1, (pair_cells HG4.out).2.1, (four_cells HX4.out).1, (four_cells HX4.out).2.1, (four_cells HX4.out).2.2.1, (four_cells HX4.out).2.2.2.1⟩) (fun hHeld => ?_); clear hK K; (try simp only [List.getElem_toArray, List.getElem_cons_zero, List.getElem_cons_succ, Act.put, List.setIfInBounds_toArray, List.set_cons_zero, List.set_cons_succ]))
            refine wpAnyH_ready (rs := [14]) (by kernel_rfl) (by simp) ?_
            refine (AllReadyH.cons (i := 14) rfl (fun K hK => ?_) AllReadyH.nil)
            refine hstep_store_row rfl 123 _ _ rfl kp ((rowL es k2 n).map (Value.float .f32)).toArray rfl rfl 123 _ HP4.out (rv_info HPL.out) (by rw [rv_size HPL.out]; rfl) (rv_one _) ?_
            have hs := rb_stored (rs := (rowL es k2 n)) HP4.out
            have HP5 := Lib.hid hs.1
            have HG5 := Lib.hid ((hs.2.block w.heap.size (Array.getElem?_eq_some_iff.1 HG4.out).1 (fun e => by have q1 := Option.some.inj e; have q2 := Hkp.out; have q3 := HZW.out; omega)).trans HG4.out)
            have HX5 := Lib.hid ((hs.2.block kb (Array.getElem?_eq_some_iff.1 HX4.out).1 (fun e => by have q1 := Option.some.inj e; have q2 := Hkp.out; have q3 := HZB.out; omega)).trans HX4.out)
            have HV5 := Lib.hid (HV4.out.other hs.2 (by have q2 := Hkp.out; have q3 := HZV.out; omega)); have HL5 := Lib.hid (HL4.out.other hs.2 (by have q2 := Hkp.out; have q3 := HZL.out; omega)); have HR5 := Lib.hid (HR4.out.grown hs.2 (by have q2 := Hkp.out; have q3 := HZR.out; omega)); have HB5 := Lib.hid (HB4.out.grown hs.2 HB4.out.size (fun q e => by cases e; have q2 := Hkp.out; have q3 := HZW.out; omega)); have HZ5 := Lib.hid (Nat.le_trans HZ4.out hs.2.size)
            have HQ5 := Lib.hid ((hs.2.block kq (Array.getElem?_eq_some_iff.1 HQ4.out).1 (fun e => HPQ.out (Option.some.inj e).symm)).trans HQ4.out)
            clear hs
            generalize v4.setRow kp ((rowL es k2 n).map (Value.float .f32)).toArray = v5 at HG5 HX5 HV5 HL5 HR5 HB5 HZ5 HP5 HQ5 ⊢
            (refine hK.out _ _ (⟨(pair_cells HG5.out).1, (pair_cells HG5.out).2.1, (four_cells HX5.out).1, (four_cells HX5.out).2.1, (four_cells HX5.out).2.2.1, (four_cells HX5.out).2.2.2.1⟩) (fun hHeld => ?_); clear hK K; (try simp only [List.getElem_toArray, List.getElem_cons_zero, List.getElem_cons_succ, Act.put, List.setIfInBounds_toArray, List.set_cons_zero, List.set_cons_succ]))
            refine wpAnyH_ready (rs := [15]) (by kernel_rfl) (by simp) ?_
            refine (AllReadyH.cons (i := 15) rfl (fun K hK => ?_) AllReadyH.nil)
            refine hstep_store_row rfl 123 _ _ rfl kq ((rowL es k3 n).map (Value.float .f32)).toArray rfl rfl 123 _ HQ5.out (rv_info HQL.out) (by rw [rv_size HQL.out]; rfl) (rv_one _) ?_
            have hs := rb_stored (rs := (rowL es k3 n)) HQ5.out
            have HQ6 := Lib.hid hs.1
            have HG6 := Lib.hid ((hs.2.block w.heap.size (Array.getElem?_eq_some_iff.1 HG5.out).1 (fun e => by have q1 := Option.some.inj e; have q2 := Hkq.out; have q3 := HZW.out; omega)).trans HG5.out)
            have HX6 := Lib.hid ((hs.2.block kb (Array.getElem?_eq_some_iff.1 HX5.out).1 (fun e => by have q1 := Option.some.inj e; have q2 := Hkq.out; have q3 := HZB.out; omega)).trans HX5.out)
            have HV6 := Lib.hid (HV5.out.other hs.2 (by have q2 := Hkq.out; have q3 := HZV.out; omega)); have HL6 := Lib.hid (HL5.out.other hs.2 (by have q2 := Hkq.out; have q3 := HZL.out; omega)); have HR6 := Lib.hid (HR5.out.grown hs.2 (by have q2 := Hkq.out; have q3 := HZR.out; omega)); have HB6 := Lib.hid (HB5.out.grown hs.2 HB5.out.size (fun q e => by cases e; have q2 := Hkq.out; have q3 := HZW.out; omega)); have HZ6 := Lib.hid (Nat.le_trans HZ5.out hs.2.size)
            have HP6 := Lib.hid (HP5.out.grown hs.2 HPQ.out)
            clear hs
            generalize v5.setRow kq ((rowL es k3 n).map (Value.float .f32)).toArray = v6 at HG6 HX6 HV6 HL6 HR6 HB6 HZ6 HP6 HQ6 ⊢
            (refine hK.out _ _ (⟨(pair_cells HG6.out).1, (pair_cells HG6.out).2.1, (four_cells HX6.out).1, (four_cells HX6.out).2.1, (four_cells HX6.out).2.2.1, (four_cells HX6.out).2.2.2.1⟩) (fun hHeld => ?_); clear hK K; (try simp only [List.getElem_toArray, List.getElem_cons_zero, List.getElem_cons_succ, Act.put, List.setIfInBounds_toArray, List.set_cons_zero, List.set_cons_succ]))
            (refine wpAnyH_done (by kernel_rfl) ?_ _; refine NoPanic.normal ?_)
            clear hHeld
            go_wp2_with fail
            go_meet
            case rel => exact ⟨kp, kq, rfl, rfl, HPQ, Hkp, Hkq, HP6, HQ6, HR6, HV6, HL6, HG6, HX6, HB6⟩
      case rest =>
      obtain ⟨kp, kq, rfl, rfl, HPQ, Hkp, Hkq, HP7, HQ7, HR7, HV7, HL7, HG7, HX7, HB7⟩ := hcut
      clear HR6 HV6 HL6 HG6 HX6 HB6 HZ6 hwm hwp
      have g0 := (pair_cells HG7.out).1
      go_wp2_with fail
      clear g0
      have HRIGHT := Lib.hid (fun (x : Nat) (hx : x < n) => (show (rowL ls k1 n).getD x 0 = ls.getD (x + n * y) 0 ∧ (rowL es k2 n).getD x 0 = es.getD (nbI n b 0 (-1) x y) 0 ∧ (rowL es k3 n).getD x 0 = es.getD (nbI n b 0 1 x y) 0 from by
        have e1 : k1 = n * y := by have h := HK1.out; rw [Int.emod_eq_of_lt (by omega) HLT.out] at h; exact_mod_cast h
        have f2 := (nbI_facts (a := (n : Int)) (b := b) 0 (-1) x y HA.out.1 HA.out.2.2.1).1
        have f3 := (nbI_facts (a := (n : Int)) (b := b) 0 1 x y HA.out.1 HA.out.2.2.1).1
        have hxn : ((x : Int) + 0) % (n : Int) = (x : Int) := by rw [Int.add_zero]; exact Int.emod_eq_of_lt (by omega) (by omega)
        have m2 := HK2.out; have m3 := HK3.out
        rw [hxn] at f2 f3
        rw [show (y : Int) + -1 = (y : Int) - 1 by omega] at f2
        refine ⟨?_, ?_, ?_⟩
        · rw [rowL_at (by rw [HLS.out]; exact HF1.out) hx, e1, Nat.add_comm]
        · rw [rowL_at (by rw [HEL.out]; exact HF2.out) hx, show k2 + x = nbI n b 0 (-1) x y by omega]
        · rw [rowL_at (by rw [HEL.out]; exact HF3.out) hx, show k3 + x = nbI n b 0 1 x y by omega]))
      go_loopw [50] (fun i wr => ∃ (x : Nat) (rs : List Nat), i = .int .i64 (x : Int) ∧ x ≤ n ∧ Hid (rs.length = 16) ∧ Hid (∀ q ∈ rs, q < 2 ^ FloatKind.f32.format.width) ∧ Hid (EqOn rs (rightF n b (fun j => cn .f32 (ls.getD j 0)) (fun j => cn .f32 (es.getD j 0)) y) 0 x) ∧ Hid (∀ j, x ≤ j → rs.getD j 0 = (rowL ls k1 n).getD j 0) ∧ Hid (RB wr kp (rowL es k2 n)) ∧ Hid (RB wr kq (rowL es k3 n)) ∧ Hid (RB wr kr rs) ∧ Hid (RW w.heap.size wr gv capv es) ∧ Hid (RW w.heap.size wr gl capl ls) ∧ Hid (wr.heap[w.heap.size]? = some (.cells #[.int .i64 (n : Int), .int .i64 b] 27)) ∧ Hid (wr.heap[kb]? = some (.cells #[.int .i64 (n : Int), .int .i64 b, .slice (some ⟨gv, 0, none⟩) xs.length capv, .slice (some ⟨gl, 0, none⟩) xs.length capl] 108)) ∧ Hid (Below w.heap.size w wr)) (fun i _ => n - (intOf i).toNat)
      case atStart => exact ⟨0, rowL ls k1 n, rfl, Nat.zero_le _, HRL, Lib.hid (rowL_lt HWL.out), Lib.hid (EqOn.none _ _ _), Lib.hid (fun _ _ => rfl), HP7, HQ7, HR7, HV7, HL7, HG7, HX7, HB7⟩
      case round =>
        clear HP7 HQ7 HR7 HV7 HL7 HG7 HX7 HB7
        obtain ⟨x, rs, rfl, hxn, HSL, HSW, HSE, HSO, HP, HQ, HR, HVE, HVL, HG, HX, HB⟩ := hrel
        by_cases hlx : x < n
        · have HLX := Lib.hid hlx
          have HWXX := Lib.hid (wrap_next hlx (by have := HN16.out; omega))
          have hr3 := HRIGHT.out x hlx
          have xr := HR.out.at (show x < rs.length by rw [HSL.out]; have := HN16.out; omega)
          have xp := HP.out.at (show x < (rowL es k2 n).length by rw [HPL.out]; have := HN16.out; omega)
          have xq := HQ.out.at (show x < (rowL es k3 n).length by rw [HQL.out]; have := HN16.out; omega)
          rw [HSO.out x (Nat.le_refl _), hr3.1] at xr
          rw [hr3.2.1] at xp
          rw [hr3.2.2] at xq
          have hF : rightF n b (fun j => cn .f32 (ls.getD j 0)) (fun j => cn .f32 (es.getD j 0)) y x = fop .add .f32 (fop .add .f32 (cn .f32 (ls.getD (x + n * y) 0)) (cn .f32 (es.getD (nbI n b 0 (-1) x y) 0))) (cn .f32 (es.getD (nbI n b 0 1 x y) 0)) := by unfold rightF; rw [Int.toNat_natCast]
          have I1 := FS.is HWL.out (x + n * y) (by rw [HLS.out]; have := row_ix (a := (n : Int)) HA.out.1 HA.out.2.2.2.2.1 (show x < (n : Int).toNat by rw [Int.toNat_natCast]; exact hlx) HLT.out; rwa [Int.toNat_natCast] at this)
          have I2 := FS.is HEW.out (nbI n b 0 (-1) x y) (by rw [HEL.out]; exact lt_of_ar HA.out.2.2.2.2.1 (nbI_facts 0 (-1) _ _ HA.out.1 HA.out.2.2.1).2)
          have I3 := FS.is HEW.out (nbI n b 0 1 x y) (by rw [HEL.out]; exact lt_of_ar HA.out.2.2.2.2.1 (nbI_facts 0 1 _ _ HA.out.1 HA.out.2.2.1).2)
          have HFF := Lib.hid hF
          clear hF hr3
          generalize cn .f32 (ls.getD (x + n * y) 0) = X at I1 HFF
          generalize cn .f32 (es.getD (nbI n b 0 (-1) x y) 0) = Y2 at I2 HFF
          generalize cn .f32 (es.getD (nbI n b 0 1 x y) 0) = Y3 at I3 HFF
          generalize ls.getD (x + n * y) 0 = z1 at xr I1
          generalize hz2 : es.getD (nbI n b 0 (-1) x y) 0 = z2 at xp I2
          generalize hz3 : es.getD (nbI n b 0 1 x y) 0 = z3 at xq I3
          have HZ2 := Lib.hid hz2; have HZ3 := Lib.hid hz3
          clear hz2 hz3
          have hf := HR.out.frozen x
          have iX0 : (0 : Int) ≤ (x : Int) := Int.natCast_nonneg _
          have iX1 : (x : Int) < 16 := by have := HN16.out; omega
          go_wp2_with fail
          refine wp_region_noPanic ?_
          refine wp_region_held_drew (S := fun w' => w'.cell? ⟨kp, x, none⟩ = some (.float .f32 z2) ∧ w'.cell? ⟨kq, x, none⟩ = some (.float .f32 z3)) (by kernel_rfl) ⟨xp, xq⟩ (fun hHeld => ?_)
          ((refine wpAnyH_take (i := 0) (v := ?_) rfl (by kernel_rfl) (by kernel_rfl) (by kernel_rfl) (fun _ _ _ h => h) (Or.inl ⟨by rfl, ?_⟩) (by assumption) ?_; rotate_left; (· intro w hSw; (try dsimp only at hSw); go_simp; first | done | with_reducible rfl); (try simp only [List.getElem_toArray, List.getElem_cons_zero, List.getElem_cons_succ, Act.put, List.setIfInBounds_toArray, List.set_cons_zero, List.set_cons_succ])); (refine wpAnyH_take (i := 1) (v := ?_) rfl (by kernel_rfl) (by kernel_rfl) (by kernel_rfl) (fun _ _ _ h => h) (Or.inl ⟨by rfl, ?_⟩) (by assumption) ?_; rotate_left; (· intro w hSw; (try dsimp only at hSw); go_simp; first | done | with_reducible rfl); (try simp only [List.getElem_toArray, List.getElem_cons_zero, List.getElem_cons_succ, Act.put, List.setIfInBounds_toArray, List.set_cons_zero, List.set_cons_succ])); (refine wpAnyH_take (i := 2) (v := ?_) rfl (by kernel_rfl) (by kernel_rfl) (by kernel_rfl) (fun _ _ _ h => h) (Or.inl ⟨by rfl, ?_⟩) (by assumption) ?_; rotate_left; (· intro w hSw; (try dsimp only at hSw); go_simp; first | done | with_reducible rfl); (try simp only [List.getElem_toArray, List.getElem_cons_zero, List.getElem_cons_succ, Act.put, List.setIfInBounds_toArray, List.set_cons_zero, List.set_cons_succ])); (refine wpAnyH_take (i := 4) (v := ?_) rfl (by kernel_rfl) (by kernel_rfl) (by kernel_rfl) (fun _ _ _ h => h) (Or.inl ⟨by rfl, ?_⟩) (by assumption) ?_; rotate_left; (· intro w hSw; (try dsimp only at hSw); go_simp; first | done | with_reducible rfl); (try simp only [List.getElem_toArray, List.getElem_cons_zero, List.getElem_cons_succ, Act.put, List.setIfInBounds_toArray, List.set_cons_zero, List.set_cons_succ])); (refine wpAnyH_take (i := 5) (v := ?_) rfl (by kernel_rfl) (by kernel_rfl) (by kernel_rfl) (fun _ _ _ h => h) (Or.inl ⟨by rfl, ?_⟩) (by assumption) ?_; rotate_left; (· intro w hSw; (try dsimp only at hSw); go_simp; first | done | with_reducible rfl); (try simp only [List.getElem_toArray, List.getElem_cons_zero, List.getElem_cons_succ, Act.put, List.setIfInBounds_toArray, List.set_cons_zero, List.set_cons_succ])); (refine wpAnyH_take (i := 6) (v := ?_) rfl (by kernel_rfl) (by kernel_rfl) (by kernel_rfl) (fun _ _ _ h => h) (Or.inl ⟨by rfl, ?_⟩) (by assumption) ?_; rotate_left; (· intro w hSw; (try dsimp only at hSw); go_simp; first | done | with_reducible rfl); (try simp only [List.getElem_toArray, List.getElem_cons_zero, List.getElem_cons_succ, Act.put, List.setIfInBounds_toArray, List.set_cons_zero, List.set_cons_succ])); (refine wpAnyH_take (i := 8) (v := ?_) rfl (by kernel_rfl) (by kernel_rfl) (by kernel_rfl) (fun _ _ _ h => h) (Or.inl ⟨by rfl, ?_⟩) (by assumption) ?_; rotate_left; (· intro w hSw; (try dsimp only at hSw); go_simp; first | done | with_reducible rfl); (try simp only [List.getElem_toArray, List.getElem_cons_zero, List.getElem_cons_succ, Act.put, List.setIfInBounds_toArray, List.set_cons_zero, List.set_cons_succ])); (refine wpAnyH_take (i := 9) (v := ?_) rfl (by kernel_rfl) (by kernel_rfl) (by kernel_rfl) (fun _ _ _ h => h) (Or.inl ⟨by rfl, ?_⟩) (by assumption) ?_; rotate_left; (· intro w hSw; (try dsimp only at hSw); go_simp; first | done | with_reducible rfl); (try simp only [List.getElem_toArray, List.getElem_cons_zero, List.getElem_cons_succ, Act.put, List.setIfInBounds_toArray, List.set_cons_zero, List.set_cons_succ])); (refine wpAnyH_take (i := 10) (v := ?_) rfl (by kernel_rfl) (by kernel_rfl) (by kernel_rfl) (fun _ _ _ h => h) (Or.inl ⟨by rfl, ?_⟩) (by assumption) ?_; rotate_left; (· intro w hSw; (try dsimp only at hSw); go_simp; first | done | with_reducible rfl); (try simp only [List.getElem_toArray, List.getElem_cons_zero, List.getElem_cons_succ, Act.put, List.setIfInBounds_toArray, List.set_cons_zero, List.set_cons_succ])))
          (refine wpAnyH_ready (rs := [3]) (by kernel_rfl) (by simp) ?_; refine AllReadyH.cons (i := 3) rfl (fun K hK => ?_) AllReadyH.nil)
          go_simp
          (refine hK.out _ _ (⟨xp, xq⟩) (fun hHeld => ?_); clear hK K; (try simp only [List.getElem_toArray, List.getElem_cons_zero, List.getElem_cons_succ, Act.put, List.setIfInBounds_toArray, List.set_cons_zero, List.set_cons_succ]))
          (refine wpAnyH_ready (rs := [7]) (by kernel_rfl) (by simp) ?_; refine AllReadyH.cons (i := 7) rfl (fun K hK => ?_) AllReadyH.nil)
          refine hstep_fa rfl .add 37 37 _ _ rfl rfl .f32 z1 z2 rfl rfl I1 I2 ?_
          intro r1 n1a hr1
          (refine hK.out _ _ (⟨xp, xq⟩) (fun hHeld => ?_); clear hK K; (try simp only [List.getElem_toArray, List.getElem_cons_zero, List.getElem_cons_succ, Act.put, List.setIfInBounds_toArray, List.set_cons_zero, List.set_cons_succ]))
          (refine wpAnyH_ready (rs := [11]) (by kernel_rfl) (by simp) ?_; refine AllReadyH.cons (i := 11) rfl (fun K hK => ?_) AllReadyH.nil)
          refine hstep_fa rfl .add 37 37 _ _ rfl rfl .f32 r1 z3 rfl rfl hr1 I3 ?_
          intro r n2a hr
          (refine hK.out _ _ (⟨xp, xq⟩) (fun hHeld => ?_); clear hK K; (try simp only [List.getElem_toArray, List.getElem_cons_zero, List.getElem_cons_succ, Act.put, List.setIfInBounds_toArray, List.set_cons_zero, List.set_cons_succ]))
          have hpg := grown_cell (wr.drewN (1 + n1a + n2a)) ⟨kr, x, none⟩ (.float .f32 r)
          have HR8 := Lib.hid (RB.put (show RB (wr.drewN (1 + n1a + n2a)) kr rs from HR.out) x r)
          have HP8 := Lib.hid (RB.grown (show RB (wr.drewN (1 + n1a + n2a)) kp _ from HP.out) hpg (show kp ≠ kr from by have q1 := Hkp.out; have q2 := HZR.out; omega))
          have HQ8 := Lib.hid (RB.grown (show RB (wr.drewN (1 + n1a + n2a)) kq _ from HQ.out) hpg (show kq ≠ kr from by have q1 := Hkq.out; have q2 := HZR.out; omega))
          have HV8 := Lib.hid (RW.other (show RW w.heap.size (wr.drewN (1 + n1a + n2a)) gv capv es from HVE.out) hpg (fun e => HRW.out.1 e.symm))
          have HL8 := Lib.hid (RW.other (show RW w.heap.size (wr.drewN (1 + n1a + n2a)) gl capl ls from HVL.out) hpg (fun e => HRW.out.2.1 e.symm))
          have HG8 := Lib.hid ((hpg.block w.heap.size (Array.getElem?_eq_some_iff.1 HG.out).1 (fun e => HRW.out.2.2.1 (Option.some.inj e).symm)).trans (show (wr.drewN (1 + n1a + n2a)).heap[w.heap.size]? = _ from HG.out))
          have HX8 := Lib.hid ((hpg.block kb (Array.getElem?_eq_some_iff.1 HX.out).1 (fun e => HRW.out.2.2.2.1 (Option.some.inj e).symm)).trans (show (wr.drewN (1 + n1a + n2a)).heap[kb]? = _ from HX.out))
          have HB8 := Lib.hid ((below_drewN HB.out (1 + n1a + n2a)).setCell (p := ⟨kr, x, none⟩) (Nat.le_of_lt HRW.out.2.2.2.2) (.float .f32 r))
          have HRR := Lib.hid (show Is .f32 r (rightF n b (fun j => cn .f32 (ls.getD j 0)) (fun j => cn .f32 (es.getD j 0)) y x) by rw [HFF.out]; exact hr)
          have xp8 := HP8.out.at (show x < (rowL es k2 n).length by rw [HPL.out]; have q1 := HN16.out; have q2 := HLX.out; omega)
          have xq8 := HQ8.out.at (show x < (rowL es k3 n).length by rw [HQL.out]; have q1 := HN16.out; have q2 := HLX.out; omega)
          rw [(HRIGHT.out x HLX.out).2.1, HZ2.out] at xp8
          rw [(HRIGHT.out x HLX.out).2.2, HZ3.out] at xq8
          ((refine wpAnyH_take (i := 12) (v := ?_) rfl (by kernel_rfl) (by kernel_rfl) (by kernel_rfl) (fun _ _ _ h => h) (Or.inl ⟨by rfl, ?_⟩) (by assumption) ?_; rotate_left; (· intro w hSw; (try dsimp only at hSw); go_simp; first | done | with_reducible rfl); (try simp only [List.getElem_toArray, List.getElem_cons_zero, List.getElem_cons_succ, Act.put, List.setIfInBounds_toArray, List.set_cons_zero, List.set_cons_succ])))
          (refine wpAnyH_ready (rs := [13]) (by kernel_rfl) (by simp) ?_; refine AllReadyH.cons (i := 13) rfl (fun K hK => ?_) AllReadyH.nil)
          go_simp
          (refine hK.out _ _ (⟨xp8, xq8⟩) (fun hHeld => ?_); clear hK K; (try simp only [List.getElem_toArray, List.getElem_cons_zero, List.getElem_cons_succ, Act.put, List.setIfInBounds_toArray, List.set_cons_zero, List.set_cons_succ]))
          (refine wpAnyH_done (by kernel_rfl) ?_ _; refine NoPanic.normal ?_)
          clear hHeld xp xq xr hf xp8 xq8 hpg hr hr1
          generalize (wr.drewN (1 + n1a + n2a)).setCell ⟨kr, x, none⟩ (.float .f32 r) = w8 at HR8 HP8 HQ8 HV8 HL8 HG8 HX8 HB8 ⊢
          go_wp2_with fail
          go_roundw
          case rel => exact ⟨x + 1, rs.set x r, by first | exact congrArg (Value.int .i64) HWXX.out | exact congrArg (Value.int .i64) (show (x : Int) + 1 = ((x + 1 : Nat) : Int) by omega), HLX.out, Lib.hid (by rw [List.length_set]; exact HSL.out), Lib.hid (fun q hq => by
              rcases List.mem_or_eq_of_mem_set hq with h | h
              · exact HSW.out q h
              · subst h; exact HRR.out.lt), Lib.hid (EqOn.set_up HSE.out (by rw [HSL.out]; have := HN16.out; have := HLX.out; omega) HRR.out), Lib.hid (fun j hj => by rw [getD_set _ _ _ _ (by rw [HSL.out]; have := HN16.out; have := HLX.out; omega), if_neg (by omega)]; exact HSO.out j (by omega)), HP8, HQ8, HR8, HV8, HL8, HG8, HX8, HB8⟩
          case measure => first | exact meas_natV rfl rfl HWXX.out HLX.out | exact meas_natV rfl rfl (show (x : Int) + 1 = ((x + 1 : Nat) : Int) by omega) HLX.out
        · have hxe : x = n := by omega
          have HSE2 := Lib.hid (show EqOn (rs.take n) (rightF n b (fun j => cn .f32 (ls.getD j 0)) (fun j => cn .f32 (es.getD j 0)) y) 0 n from fun j q1 q2 => by
            have := HSE.out j q1 (by rw [hxe]; exact q2)
            rwa [show (rs.take n).getD j 0 = rs.getD j 0 by rw [List.getD_eq_getElem?_getD, List.getD_eq_getElem?_getD, List.getElem?_take, if_pos q2]])
          have HTL := Lib.hid (show (rs.take n).length = n by rw [List.length_take, HSL.out]; exact Nat.min_eq_left HN16.out.1)
          have HTF := Lib.hid (rb_fs HR.out HSL.out HN16.out.1 HSW.out)
          have hsl := slice16 kr n HN16.out.1
          have g0 := (pair_cells HG.out).1
          clear hxe
          go_wp2_with fail
          clear g0 hsl
          refine (iRing_yes _ (rs.take n) _ HTF.out (by rw [HTL.out]; have := HN16.out; omega) (by rw [HTL.out]; have := HN16.out; omega)).mono ?_; rintro e w9 ⟨⟨q, rfl, hq⟩, hb9⟩
          rw [HTL.out] at hq
          obtain ⟨gq, capq, qs, rfl, hql, hqe, hqo⟩ := fres_row hq (by have := HN16.out; omega)
          have hrq : RW wr.heap.size w9 gq capq qs := by show w9.ownsRow _ _ _ (.slice _ qs.length _) qs.length _; rw [hql]; exact hqo
          have HV9 := Lib.hid (HVE.out.still hb9); have HL9 := Lib.hid (HVL.out.still hb9)
          have HG9 := Lib.hid ((hb9.block w.heap.size (Array.getElem?_eq_some_iff.1 HG.out).1).trans HG.out)
          have HX9 := Lib.hid ((hb9.block kb (Array.getElem?_eq_some_iff.1 HX.out).1).trans HX.out)
          have HB9 := Lib.hid (HB.out.trans (hb9.mono HB.out.size))
          have HQ9 := Lib.hid hrq; have HQL9 := Lib.hid hql; have HQE9 := Lib.hid hqe
          have HQV := Lib.hid (show gq ≠ gv by have q1 := (hrq.lt gq rfl).1; have q2 := (HVE.out.lt gv rfl).2; omega)
          clear hq hql hqe hqo hrq hb9 HVE HVL HG HX HB
          go_wp2_with fail
          have g0 := (pair_cells HG9.out).1; have g1 := (pair_cells HG9.out).2.1
          have x2 := (four_cells HX9.out).2.2.1
          have hcc := (fun (c : Nat) (h : xs.length ≤ c) => (show ¬ (c : Int) = (k1 : Int) ∧ ¬ c = k1 from by have q1 := HF1.out; have q2 := HN16.out; omega))
          obtain ⟨cur, hcu, hcl, hct, hcn, hcm, hcb⟩ := rw_cells HV9.out
          rw [HEL.out] at hcn
          have hc1 := (hcc capv hcn).1; have hc2 := (hcc capv hcn).2
          have hkl : (k1 : Int) ≤ (xs.length : Int) := by have q1 := HF1.out; omega
          have hk0 : (0 : Int) ≤ (k1 : Int) := Int.natCast_nonneg _
          have HCN := Lib.hid hcn; have HCL := Lib.hid hcl; have HCT := Lib.hid hct; have HCM := Lib.hid hcm; have HCB := Lib.hid hcb; have HCU := Lib.hid hcu
          have HJ := Lib.hid (show (k1 : Int) = (0 : Int) % (n : Int) + (n : Int) * ((y : Int) % b) by rw [HK1.out]; simp)
          clear hcc hcu hcl hct hcn hcm hcb
          refine wp_region_noPanic ?_
          refine wp_region_held_drew (S := fun w' => w'.cell? ⟨w.heap.size, 0, none⟩ = some (.int .i64 (n : Int)) ∧ w'.cell? ⟨w.heap.size, 1, none⟩ = some (.int .i64 b) ∧ w'.cell? ⟨kb, 2, none⟩ = some (.slice (some ⟨gv, 0, none⟩) xs.length capv)) (by kernel_rfl) ⟨g0, g1, x2⟩ (fun hHeld => ?_)
          ((refine wpAnyH_take (i := 0) (v := ?_) rfl (by kernel_rfl) (by kernel_rfl) (by kernel_rfl) (fun _ _ _ h => h) (Or.inl ⟨by rfl, ?_⟩) (by assumption) ?_; rotate_left; (· intro w hSw; (try dsimp only at hSw); go_simp; first | done | with_reducible rfl); (try simp only [List.getElem_toArray, List.getElem_cons_zero, List.getElem_cons_succ, Act.put, List.setIfInBounds_toArray, List.set_cons_zero, List.set_cons_succ])); (refine wpAnyH_take (i := 1) (v := ?_) rfl (by kernel_rfl) (by kernel_rfl) (by kernel_rfl) (fun _ _ _ h => h) (Or.inl ⟨by rfl, ?_⟩) (by assumption) ?_; rotate_left; (· intro w hSw; (try dsimp only at hSw); go_simp; first | done | with_reducible rfl); (try simp only [List.getElem_toArray, List.getElem_cons_zero, List.getElem_cons_succ, Act.put, List.setIfInBounds_toArray, List.set_cons_zero, List.set_cons_succ])); (refine wpAnyH_take (i := 2) (v := ?_) rfl (by kernel_rfl) (by kernel_rfl) (by kernel_rfl) (fun _ _ _ h => h) (Or.inl ⟨by rfl, ?_⟩) (by assumption) ?_; rotate_left; (· intro w hSw; (try dsimp only at hSw); go_simp; first | done | with_reducible rfl); (try simp only [List.getElem_toArray, List.getElem_cons_zero, List.getElem_cons_succ, Act.put, List.setIfInBounds_toArray, List.set_cons_zero, List.set_cons_succ])); (refine wpAnyH_take (i := 3) (v := ?_) rfl (by kernel_rfl) (by kernel_rfl) (by kernel_rfl) (fun _ _ _ h => h) (Or.inl ⟨by rfl, ?_⟩) (by assumption) ?_; rotate_left; (· intro w hSw; (try dsimp only at hSw); go_simp; first | done | with_reducible rfl); (try simp only [List.getElem_toArray, List.getElem_cons_zero, List.getElem_cons_succ, Act.put, List.setIfInBounds_toArray, List.set_cons_zero, List.set_cons_succ])); (refine wpAnyH_take (i := 6) (v := ?_) rfl (by kernel_rfl) (by kernel_rfl) (by kernel_rfl) (fun _ _ _ h => h) (Or.inl ⟨by rfl, ?_⟩) (by assumption) ?_; rotate_left; (· intro w hSw; (try dsimp only at hSw); go_simp; first | done | with_reducible rfl); (try simp only [List.getElem_toArray, List.getElem_cons_zero, List.getElem_cons_succ, Act.put, List.setIfInBounds_toArray, List.set_cons_zero, List.set_cons_succ])))
          (refine wpAnyH_ready (rs := [4]) (by kernel_rfl) (by simp) ?_; refine AllReadyH.cons (i := 4) rfl (fun K hK => ?_) AllReadyH.nil)
          go_simp
          refine (indexOf_any (n : Int) b 0 (y : Int) k1 _ ⟨HA.out.1, HA.out.2.1⟩ ⟨HA.out.2.2.1, HA.out.2.2.2.1⟩ HJ.out).mono ?_; rintro e w10 ⟨rfl, hb10⟩
          have hbd := ((Below.refl w9.heap.size w9).drew).trans (hb10.mono (Nat.le_refl _))
          have HV10 := Lib.hid (HV9.out.still hbd); have HL10 := Lib.hid (HL9.out.still hbd); have HQ10 := Lib.hid (HQ9.out.still hbd)
          have HG10 := Lib.hid ((hbd.block w.heap.size (Array.getElem?_eq_some_iff.1 HG9.out).1).trans HG9.out)
          have HX10 := Lib.hid ((hbd.block kb (Array.getElem?_eq_some_iff.1 HX9.out).1).trans HX9.out)
          have HC10 := Lib.hid ((hbd.block gv (Array.getElem?_eq_some_iff.1 HCU.out).1).trans HCU.out)
          have HB10 := Lib.hid (HB9.out.trans (hbd.mono HB9.out.size))
          clear hb10 hbd g0 g1 x2
          go_wp2_with fail
          (refine hK.out _ _ (⟨(pair_cells HG10.out).1, (pair_cells HG10.out).2.1, (four_cells HX10.out).2.2.1⟩) (fun hHeld => ?_); clear hK K; (try simp only [List.getElem_toArray, List.getElem_cons_zero, List.getElem_cons_succ, Act.put, List.setIfInBounds_toArray, List.set_cons_zero, List.set_cons_succ]))
          ((refine wpAnyH_take (i := 5) (v := ?_) rfl (by kernel_rfl) (by kernel_rfl) (by kernel_rfl) (fun _ _ _ h => h) (Or.inl ⟨by rfl, ?_⟩) (by assumption) ?_; rotate_left; (· intro w hSw; (try dsimp only at hSw); go_simp; first | done | with_reducible rfl); (try simp only [List.getElem_toArray, List.getElem_cons_zero, List.getElem_cons_succ, Act.put, List.setIfInBounds_toArray, List.set_cons_zero, List.set_cons_succ])))
          (refine wpAnyH_ready (rs := [7]) (by kernel_rfl) (by simp) ?_; refine AllReadyH.cons (i := 7) rfl (fun K hK => ?_) AllReadyH.nil)
          refine step_copy_grown rfl _ _ 24 24 rfl 37 Try.underlying24 info_size ⟨gq, 0, none⟩ (xs.length - k1) (capv - k1) n capq gv k1 (by first | rfl | (simp; done)) (by rfl) cur 37 HC10.out (qs.map (Value.float .f32)) (by rw [List.length_map, HQL9.out]; exact (Nat.min_eq_left (by have q1 := HF1.out; omega)).symm) (news_of (w := w10) (b := gq) (off := 0) (xs := qs) (fun i hi => by rw [Nat.zero_add]; exact HQ10.out.at hi)) (by rw [List.length_map, HQL9.out, HCL.out]; have q1 := HF1.out; have q2 := HCN.out; omega) (by intro v hv; obtain ⟨q, _, rfl⟩ := List.mem_map.1 hv; rfl) ?_
          intro w11 hg11 hb11
          have HKQ := Lib.hid (show k1 + qs.length ≤ es.length by rw [HQL9.out, HEL.out]; exact HF1.out)
          have HK1N := Lib.hid (show k1 = n * y by have h := HK1.out; rw [Int.emod_eq_of_lt (by omega) HLT.out] at h; exact_mod_cast h)
          have HFL := Lib.hid (show (splice es k1 qs).length = xs.length by rw [length_splice es k1 qs HKQ.out]; exact HEL.out)
          have HFW := Lib.hid (splice_lt (k := k1) HEW.out (EqOn.eqs HQE9.out HQL9.out).lt)
          have HFE := Lib.hid (rows_step (a := (n : Int)) (b := b) (rs := rs.take n) (qs := qs) (fs := splice es k1 qs) HA.out.1 HA.out.2.2.1 HA.out.2.2.2.2.1 HLT.out HE.out (by rw [HTL.out, Int.toNat_natCast]) (by rw [Int.toNat_natCast]; exact HSE2.out) (by rw [Int.toNat_natCast]; exact HQE9.out) (fun j _ => by rw [Int.toNat_natCast]; exact splice_row (by have := HN16.out; omega) HK1N.out HQL9.out (by rw [HEL.out]; exact HF1.out) j))
          have HV11 := Lib.hid (rw_of_cells (B := w.heap.size) (cap := capv) (xs := splice es k1 qs) hg11 (by rw [length_splice _ _ _ (by rw [List.length_map, HQL9.out, HCL.out]; have q1 := HF1.out; have q2 := HCN.out; omega)]; exact HCL.out) (take_splice HKQ.out HCT.out (by rw [HEL.out, HCL.out]; exact HCN.out)) (by rw [HFL.out]; exact HCN.out) HCM.out HCB.out)
          have HL11 := Lib.hid (RW.other HL10.out hb11 (fun e => HNE.out e.symm))
          have HG11 := Lib.hid ((hb11.block w.heap.size (Array.getElem?_eq_some_iff.1 HG10.out).1 (fun e => HGW.out (Option.some.inj e).symm)).trans HG10.out)
          have HX11 := Lib.hid ((hb11.block kb (Array.getElem?_eq_some_iff.1 HX10.out).1 (fun e => HKV.out (Option.some.inj e).symm)).trans HX10.out)
          have HB11 := Lib.hid (HB10.out.grown hb11 HB10.out.size (fun q e => by cases e; exact HCB.out))
          clear hg11 hb11
          (refine hK.out _ _ (⟨(pair_cells HG11.out).1, (pair_cells HG11.out).2.1, (four_cells HX11.out).2.2.1⟩) (fun hHeld => ?_); clear hK K; (try simp only [List.getElem_toArray, List.getElem_cons_zero, List.getElem_cons_succ, Act.put, List.setIfInBounds_toArray, List.set_cons_zero, List.set_cons_succ]))
          (refine wpAnyH_done (by kernel_rfl) ?_ _; refine NoPanic.normal ?_)
          clear hHeld
          generalize splice es k1 qs = fs at HFL HFW HFE HV11 ⊢
          go_wp2_with fail
          go_roundw
          case rel => exact ⟨y + 1, fs, congrArg (Value.int .i64) HWY.out, (show ((y + 1 : Nat) : Int) ≤ b from by have := HLT.out; omega), HFL, HFW, HFE, HV11, HL11, HG11, HX11, HB11⟩
          case measure => exact meas_upV rfl rfl HWY.out HLT.out
    · have hk2 : (y : Int) = b := by omega
      have HE2 := Lib.hid (show EqOn es (rwsF n b xs zs) 0 xs.length from rwsF_of H1.out HLE.out (by have := HE.out; rw [show y = b.toNat by omega] at this; exact this))
      have x2 := (four_cells HX.out).2.2.1
      clear hk2
      go_wp2_with fail
      go_ret2
      exact ⟨⟨_, rfl, RWr.res HVE.out HEL.out HE2.out⟩, HB.out⟩
end Go.Proofs.Ytjfnecmnofcjbaa
