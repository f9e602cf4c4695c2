/-
  Copies of fields.
-/
import Derived.Test.YtlfnbnhbobohlaaFields
import Derived.Laws.Cover3
namespace Go.Proofs.Ytlfnbnhbobohlaa
open Go.Fl Go.RowKit
open Go.Joins (ownsRow_le)
set_option linter.unusedSimpArgs false
set_option linter.unusedVariables false

@[go_sem] theorem eql_nil32 (a : Option Addr) (l c : Nat) (w : World) : (binOp .eql 24 (.slice a l c) (.slice none 0 0)).run Try.prog w = .ok (.bool a.isNone) w := by
  simp [binOp, run_equal_slice_nil w _ _ a l c Try.underlying24, go_sem]

theorem news_of {w : World} {b off : Nat} {xs : List Nat} (h : ∀ i, i < xs.length → w.cell? ⟨b, off + i, none⟩ = some (.float .f32 (xs.getD i 0))) :
    ∀ j u, (xs.map (Value.float .f32))[j]? = some u → w.cell? ((⟨b, off, none⟩ : Addr).add j) = some u := by
  intro j u hu
  rw [List.getElem?_map] at hu
  cases hx : xs[j]? with
  | none => rw [hx] at hu; cases hu
  | some x =>
    rw [hx] at hu
    simp only [Option.map_some, Option.some.injEq] at hu
    have hj : j < xs.length := (List.getElem?_eq_some_iff.1 hx).1
    have := h j hj
    rw [List.getD_eq_getElem?_getD, hx, Option.getD_some] at this
    subst hu
    by_cases hz : j = 0
    · subst hz; simpa [Addr.add] using this
    · simpa [Addr.add, hz] using this

set_option maxHeartbeats 400000 in
set_option maxRecDepth 100000 in
theorem clone_any (u : Value) (xs : List Nat) (w : World) (hu : FS .f32 w u xs) (h0 : 0 < xs.length) (h1 : xs.length ≤ 1048576) :
    Calls Try.prog 67 #[u] w fun e w' => (∃ v, e = .returned v ∧ FOwn w.heap.size w' v xs) ∧ Below w.heap.size w w' := by
  obtain ⟨i0, hi, hz0, hz1, hz2⟩ := info_parts F32info
  obtain ⟨a, cap, rfl, hlc, hcm, hwf, hmem⟩ := hu
  rcases hmem with rfl | ⟨b, off, rfl, hb, hc⟩
  · simp at h0
  have hbel := (Below.refl w.heap.size w).alloc (Nat.le_refl _) (.cells #[] 46)
  have hown0 := own_start w.heap.size w (Nat.le_refl _)
  have hnews := Lib.hid (news_of (w := w.alloc (.cells #[] 46)) (b := b) (off := off) (xs := xs) (fun i hi => by rw [hbel.cell (p := ⟨b, off + i, none⟩) hb]; exact hc i hi))
  have HB := Lib.hid hbel
  have HO := Lib.hid hown0
  clear hc hbel hown0
  go_enter Try.func67, Try.ntmps67
  go_wp2_with (at_builtin; refine wpList_append_lies _ rfl _ _ _ rfl w.heap.size 46 i0 _ 1 4 Try.underlying24 hi hz0 hz1 hz2 rfl (by omega) (.slice (some ⟨w.heap.size, 0, none⟩) 0 0) 0 [] rfl HO.out ⟨b, off, none⟩ xs.length cap (xs.map (Value.float .f32)) rfl (by simp) hnews.out (by intro u hu; obtain ⟨x, _, rfl⟩ := List.mem_map.1 hu; rfl) h0 (by unfold maxLen; omega) (by omega) (by simp) (w.heap.size + 1) (by simp) ?_; intro g2 cap2 w3 hown hgrow hat hltg)
  have hb5 := HB.out.grown hgrow HB.out.size (fun k hk => (HO.out.lt k hk).1)
  go_ret
  exact ⟨⟨_, rfl, by unfold FOwn; simpa using hown⟩, hb5⟩

end Go.Proofs.Ytlfnbnhbobohlaa
