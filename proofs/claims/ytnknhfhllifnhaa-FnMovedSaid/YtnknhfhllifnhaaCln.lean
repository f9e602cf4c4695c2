/-
  Lists of particles: a copy of one, and what changes one (the program's pushAll, whatever function changes a particle).
-/
import Derived.Test.YtnknhfhllifnhaaPtT
import Derived.Test.YtnknhfhllifnhaaPq
import Derived.Deep.AppendLies
import Derived.Shelf.Abstract
import Derived.Laws.Cover3
namespace Go.Proofs.Ytnknhfhllifnhaa
open Go.Fl Go.RowKit
set_option linter.unusedSimpArgs false
set_option linter.unusedVariables false

@[go_sem] theorem eql_nilP (a : Option Addr) (l c : Nat) (w : World) : (binOp .eql 27 (.slice a l c) (.slice none 0 0)).run Try.prog w = .ok (.bool a.isNone) w := by
  simp [binOp, run_equal_slice_nil w _ _ a l c Try.underlying27, go_sem]

theorem ones4 {ts : List R4} (h : ∀ t ∈ ts, t.one) : ∀ u ∈ cells4 ts, u.oneCell' = true := by
  intro u hu
  unfold cells4 at hu
  obtain ⟨t, ht, hu⟩ := List.mem_flatMap.1 hu
  obtain ⟨h0, h1, h2, h3⟩ := h t ht
  simp only [R4.cs, List.mem_cons, List.not_mem_nil, or_false] at hu
  rcases hu with rfl | rfl | rfl | rfl <;> assumption
theorem pq_one (t : Pq) : t.r4.one := ⟨rfl, rfl, rfl, rfl⟩
theorem pqs_one (ts : List Pq) : ∀ t ∈ ts.map Pq.r4, t.one := by
  intro t ht
  obtain ⟨u, _, rfl⟩ := List.mem_map.1 ht
  exact pq_one u
theorem r4_start (B : Nat) (w : World) (h : B ≤ w.heap.size) : R4Own B (w.alloc (.cells #[] 57)) (.slice (some ⟨w.heap.size, 0, none⟩) 0 0) [] :=
  World.ownsRow_made w #[] 0 h (Nat.zero_le _) rfl

set_option maxHeartbeats 400000 in
set_option maxRecDepth 100000 in
theorem cloneP_any (B : Nat) (v : Value) (ts : List R4) (w : World) (hv : R4Own B w v ts) (h1 : ∀ t ∈ ts, t.one) (hn : ts.length ≤ 64) :
    Calls Try.prog 118 #[v] w fun e w' => (∃ r, e = .returned r ∧ R4Own w.heap.size w' r ts) ∧ Below w.heap.size w w' := by
  obtain ⟨i0, hi, hz0, hz1, hz2⟩ := info_parts PTinfo
  have hv0 := hv
  unfold R4Own at hv0
  rcases hv0.2 with ⟨rfl, h0⟩ | ⟨g, cap, cur, rfl, hB, _⟩
  · have h0' : ts = [] := List.length_eq_zero_iff.1 h0
    subst h0'
    clear hv hv0
    go_enter Try.func118, Try.ntmps118
    go_wp2
    go_ret
    exact ⟨⟨_, rfl, World.ownsRow_nil _ _ _ _⟩, Below.refl _ _⟩
  · have hbel := (Below.refl w.heap.size w).alloc (Nat.le_refl _) (.cells #[] 57)
    have hown0 := r4_start w.heap.size w (Nat.le_refl _)
    have hv1 := r4_below hv hbel
    have hnews := Lib.hid (show ∀ j u, (cells4 ts)[j]? = some u → (w.alloc (.cells #[] 57)).cell? ((⟨g, 0, none⟩ : Addr).add j) = some u from fun j u hu => by
      have hj : j < (cells4 ts).length := (List.getElem?_eq_some_iff.1 hu).1
      rw [cells4_len] at hj
      unfold R4Own at hv1
      rw [Addr.add_lit, Nat.zero_add, hv1.cellAt j hj]
      exact hu)
    have HB := Lib.hid hbel
    have HO := Lib.hid hown0
    have H1 := Lib.hid (ones4 h1)
    clear hv hv0 hv1 hbel hown0 h1
    go_enter Try.func118, Try.ntmps118
    by_cases h0 : 0 < ts.length
    · go_wp2_with (at_builtin; refine wpList_append_lies _ rfl _ _ _ rfl w.heap.size 57 i0 _ 4 24 Try.underlying27 hi hz0 hz1 hz2 rfl (by omega) (.slice (some ⟨w.heap.size, 0, none⟩) 0 0) 0 [] rfl HO.out ⟨g, 0, none⟩ ts.length cap (cells4 ts) rfl (cells4_len ts) hnews.out H1.out h0 (by unfold maxLen; omega) (by omega) (by simp) (w.heap.size + 1) (by simp) ?_; intro g2 cap2 w3 hown hgrow hat hltg)
      have hb5 := HB.out.grown hgrow HB.out.size (fun k hk => (HO.out.lt k hk).1)
      go_ret
      exact ⟨⟨_, rfl, by unfold R4Own; simpa using hown⟩, hb5⟩
    · have h0' : ts = [] := List.length_eq_zero_iff.1 (by omega)
      subst h0'
      go_wp2_with (at_builtin; refine wpList_append_fits _ rfl _ _ _ rfl w.heap.size 57 i0 4 Try.underlying27 hi hz1 w.heap.size 0 0 [] rfl HO.out ⟨g, 0, none⟩ 0 cap [] rfl rfl (fun j u h => by simp at h) (fun u h => by simp at h) (by omega) ?_; intro w3 hown hgrow)
      have hb5 := HB.out.grown hgrow HB.out.size (fun k hk => by cases hk; exact Nat.le_refl _)
      go_ret
      exact ⟨⟨_, rfl, by unfold R4Own cells4; simpa using hown⟩, hb5⟩

theorem wpList_app4 {ops : Array Oper} {rest : List Oper} {o : Oper} {a : Act} {w : World} {Q : Exit → Act → World → Prop} (hgd : o.guard = none) (s x : Operand) (ho : o.op = .call { callee := .builtin .append, args := #[s, x], argTypes := #[27, 27] })
    (B : Nat) (v : Value) (n : Nat) (xs : List R4) (hs : a.eval s = v) (hown : R4Own B w v xs) (hl : xs.length = n) (g c : Nat) (hx : a.eval x = .slice (some ⟨g, 0, none⟩) 1 c) (v0 v1 v2 v3 : Value) (hb : w.heap[g]? = some (.cells #[v0, v1, v2, v3] 57))
    (h0 : v0.oneCell' = true) (h1 : v1.oneCell' = true) (h2 : v2.oneCell' = true) (h3 : v3.oneCell' = true) (hn : n ≤ 1000) (hB : B ≤ w.heap.size)
    (h : ∀ g' cap' w', R4Own B w' (.slice (some ⟨g', 0, none⟩) (n + 1) cap') (xs ++ [⟨v0, v1, v2, v3⟩]) → w.grownBy w' v.ownBlock → wpList Try.prog ops Q rest (a.put o.dst (.slice (some ⟨g', 0, none⟩) (n + 1) cap')) w') : wpList Try.prog ops Q (o :: rest) a w := by
  obtain ⟨ti, hi, hz0, hz1, hz2⟩ := info_parts PTinfo
  subst hl
  refine wpList_append_own w hgd s x 27 ho B 57 ti (.agg ZC) 4 24 Try.underlying27 hi hz0 hz1 hz2 rfl (by decide) v xs.length (cells4 xs) hs hown ⟨g, 0, none⟩ 1 c [v0, v1, v2, v3] hx rfl (World.news_of_block (cs := #[v0, v1, v2, v3]) (t := 57) (fr := (0, 0)) hb) (by intro u hu; simp at hu; rcases hu with rfl | rfl | rfl | rfl <;> assumption) (by unfold maxLen; omega) (by omega) hB ?_
  intro v' w' hown' hgrow _
  obtain ⟨g2, cap2, rfl⟩ := Joins.ownsRow_form hown' (by omega)
  refine h g2 cap2 w' ?_ hgrow
  unfold R4Own
  rw [cells4_app, List.length_append, List.length_singleton]
  exact hown'

set_option maxHeartbeats 1000000 in
set_option maxRecDepth 100000 in
/-- What changes all particles of a list, whatever changes one: P is what holds when some are changed. -/
theorem iPushAll_any (B : Nat) (v : Value) (ts : List Pq) (w : World) (f : FuncId) (bs : Array Value) (P : Option Addr → Nat → Nat → World → Prop) (hv : QOwn B w v ts) (h : okq ts) (hn : ts.length ≤ 64)
    (hf : ∀ args w, (callFunc f args).run Try.prog w = .ok (.enter f args) w)
    (h0 : ∀ a cap w1, Below w.heap.size w w1 → QOwn w.heap.size w1 (.slice a ts.length cap) ts → P a cap 0 w1)
    (hs : ∀ g cap k wr, k < ts.length → P (some ⟨g, 0, none⟩) cap k wr → Calls Try.prog f (#[.pointer (some ⟨g, k * 4, none⟩)] ++ bs) wr fun e w' => e = .returned (.bool true) ∧ P (some ⟨g, 0, none⟩) cap (k + 1) w') :
    Calls Try.prog 130 #[v, .int .i64 1, .func (.func f) #[] bs] w fun e w' => ∃ a cap, e = .returned (.tuple #[.slice a ts.length cap, .bool true]) ∧ P a cap ts.length w' := by
  have HV := Lib.hid hv; have HO := Lib.hid h; have HF := Lib.hid hf; have H0 := Lib.hid h0; have HS := Lib.hid hs
  clear hv h hf h0 hs
  go_enter Try.func130, Try.ntmps130
  go_wp2_with fail
  refine (iAre_pq B _ ts _ HV.out HO.out hn).mono ?_
  rintro e w1 ⟨rfl, hb1⟩
  have HB1 := Lib.hid hb1
  clear hb1
  go_wp2_with fail
  have HL : Calls Try.prog 172 #[.int .i64 1] w1 fun e w' => e = .returned (.bool true) ∧ w1 = w' := by
    go_enter Try.func172, Try.ntmps172
    go_wp2
    go_ret
    exact ⟨rfl, rfl⟩
  refine HL.mono ?_
  rintro e w2 ⟨rfl, rfl⟩
  clear HL
  go_wp2_with fail
  refine (cloneP_any B _ (ts.map Pq.r4) _ (r4_below HV.out HB1.out) (pqs_one ts) (by simpa using hn)).mono ?_
  rintro e w3 ⟨⟨r, rfl, hr⟩, hb3⟩
  have HB3 := Lib.hid (HB1.out.trans (hb3.mono HB1.out.size))
  have HR := Lib.hid (show QOwn w.heap.size w3 r ts from Go.Joins.ownsRow_le hr HB1.out.size)
  clear hb3 hr
  obtain ⟨a, cap, rfl, hfm⟩ := q_form HR.out
  have HP0 := Lib.hid (H0.out a cap w3 HB3.out HR.out)
  clear HR HV H0 HB1
  go_wp2_with fail
  go_loopw [21] (fun i wr => ∃ j : Nat, j ≤ 1 ∧ i = .int .i64 j ∧ Hid (P a cap (j * ts.length) wr)) (fun i _ => 1 - (intOf i).toNat)
  case atStart => exact ⟨0, by omega, rfl, by rw [Nat.zero_mul]; exact HP0⟩
  case round =>
    clear HP0 HB3
    obtain ⟨j, hj, rfl, HP⟩ := hrel
    by_cases hlt : j < 1
    · obtain rfl : j = 0 := by omega
      rw [Nat.zero_mul] at HP
      clear hlt hj
      go_wp2_with fail
      go_loopw [25] (fun i wr => ∃ k : Nat, k ≤ ts.length ∧ i = .int .i64 k ∧ Hid (P a cap k wr)) (fun i _ => ts.length - (intOf i).toNat)
      case atStart => exact ⟨0, Nat.zero_le _, rfl, HP⟩
      case round =>
        clear HP
        obtain ⟨k, hk, rfl, HP⟩ := hrel
        by_cases hlt : k < ts.length
        · rcases hfm with hfm | ⟨g, rfl, _, _⟩
          · subst hfm; simp at hlt
          have HL := Lib.hid hlt
          go_wp2_with fail
          rw [HF.out]
          go_simp
          refine (HS.out g cap k _ HL.out HP.out).mono ?_
          rintro e w6 ⟨rfl, hp⟩
          have HP6 := Lib.hid hp
          clear hp HP
          go_wp2_with fail
          go_roundw
          case rel => exact ⟨_, _, _, _, _, _, _, _, _, _, _, _, _, ⟨k + 1, by omega, by go_num, HP6⟩, rfl⟩
          case measure => simp [intOf]; omega
        · obtain rfl : k = ts.length := by omega
          clear hlt
          go_wp2_with fail
          go_roundw
          case rel => exact ⟨1, by omega, by go_num, by rw [Nat.one_mul]; exact HP⟩
          case measure => simp [intOf]
    · obtain rfl : j = 1 := by omega
      rw [Nat.one_mul] at HP
      clear hlt hj
      go_wp2_with fail
      go_ret2
      exact ⟨_, _, rfl, HP.out⟩
end Go.Proofs.Ytnknhfhllifnhaa
