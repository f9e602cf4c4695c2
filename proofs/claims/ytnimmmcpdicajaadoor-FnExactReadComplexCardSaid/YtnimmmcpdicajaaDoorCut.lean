/-
  Texts cut at commas: the model's function.
-/
import Derived.Test.YtnimmmcpdicajaaDoorCutM
import Derived.Test.YtnimmmcpdicajaaDoorChecked
import Derived.Lib.Slices
import Derived.Lib.Hide
import Derived.Laws.IdiomStrings
import Derived.OwnWalk
import Derived.WalkKit
import Derived.BigCall
import Derived.WalkLawsBesides
import Derived.Lib.SmallJoins
import Derived.Below
namespace Go.Proofs.YtnimmmcpdicajaaDoor
open Go.RowKit Go.Dec

theorem Strinfo : (Tryd.prog.info? 9).map (fun i => (i.zero, i.size, i.bytes)) = some (some (.string ⟨#[]⟩), 1, 16) := by kernel_rfl

/-- A slice of the call's own, not nil, with the texts ps. -/
def SOwn (B : Nat) (w : World) (v : Value) (ps : List ByteArray) : Prop := ∃ g cap, v = .slice (some ⟨g, 0, none⟩) ps.length cap ∧ w.ownsRow B 9 1 v ps.length (ps.map Value.string)

theorem sown_none {B : Nat} (w : World) (h : B ≤ w.heap.size) : SOwn B (w.alloc (.cells #[] 9)) (.slice (some ⟨w.heap.size, 0, none⟩) 0 0) [] :=
  ⟨_, _, rfl, by simp, .inr ⟨w.heap.size, 0, #[], rfl, h, heap_alloc_new w _, Nat.le_refl _, by unfold maxLen; decide, by simp, by simp⟩⟩

theorem sown_of {B : Nat} {w' : World} {v' : Value} {n : Nat} {xs : List Value} {ps : List ByteArray} (h : w'.ownsRow B 9 1 v' n xs) (hn : v' ≠ .slice none 0 0) (hl : xs = ps.map Value.string) : SOwn B w' v' ps := by
  have hnl : n = ps.length := by have := h.1; rw [hl, List.length_map] at this; omega
  subst hnl hl
  rcases h.2 with ⟨h1, _⟩ | ⟨g, cap, cur, rfl, _⟩
  · exact absurd h1 hn
  · exact ⟨g, cap, rfl, h⟩

theorem ext_list (s : ByteArray) (f k : Nat) : (s.extract f k).data.toList = (s.data.toList.drop f).take (k - f) := by
  simp [ByteArray.data_extract, List.extract_eq_take_drop]

structure CutAt (s : ByteArray) (ps : List ByteArray) (f k : Nat) : Prop where
  fk : f ≤ k
  ks : k ≤ s.size
  eq : ps.map (·.data.toList) ++ cutL (s.data.toList.drop f) = cutL s.data.toList
  no : 44 ∉ (s.data.toList.drop f).take (k - f)
  len : ps.length ≤ k

theorem CutAt.start (s : ByteArray) : CutAt s [] 0 0 := ⟨Nat.le_refl _, Nat.zero_le _, by simp, by simp, Nat.le_refl _⟩
theorem byte_at (s : ByteArray) (f k : Nat) (hf : f ≤ k) (h : k < s.size) : s.data.toList.drop f = (s.data.toList.drop f).take (k - f) ++ s[k] :: s.data.toList.drop (k + 1) := by
  have h1 : s.data.toList.drop k = s[k] :: s.data.toList.drop (k + 1) := by
    rw [List.drop_eq_getElem_cons (by simpa using h)]; rfl
  have h2 := (List.take_append_drop (k - f) (s.data.toList.drop f)).symm
  rw [List.drop_drop, show f + (k - f) = k by omega, h1] at h2
  exact h2
theorem CutAt.pass {s : ByteArray} {ps : List ByteArray} {f k : Nat} (h : CutAt s ps f k) (hk : k < s.size) (hc : s[k] ≠ 44) : CutAt s ps f (k + 1) := by
  refine ⟨by have := h.fk; omega, hk, h.eq, ?_, by have := h.len; omega⟩
  have e := byte_at s f k h.fk hk
  have e2 : (s.data.toList.drop f).take (k + 1 - f) = (s.data.toList.drop f).take (k - f) ++ [s[k]] := by
    have hlen : ((s.data.toList.drop f).take (k - f)).length = k - f := by
      simp; have := h.fk; omega
    have h3 : (s.data.toList.drop f).take (k + 1 - f) = ((s.data.toList.drop f).take (k - f) ++ s[k] :: s.data.toList.drop (k + 1)).take (k + 1 - f) := by rw [← e]
    rw [h3, List.take_append, List.take_of_length_le (by omega), hlen, show k + 1 - f - (k - f) = 1 by have := h.fk; omega]
    rfl
  rw [e2]
  simp only [List.mem_append, List.mem_singleton, not_or]
  exact ⟨h.no, fun e => hc e.symm⟩
theorem CutAt.cut {s : ByteArray} {ps : List ByteArray} {f k : Nat} (h : CutAt s ps f k) (hk : k < s.size) (hc : s[k] = 44) : CutAt s (ps ++ [s.extract f k]) (k + 1) (k + 1) := by
  have e := byte_at s f k h.fk hk
  refine ⟨Nat.le_refl _, hk, ?_, by simp, by have := h.len; simp; omega⟩
  have h1 := h.eq
  rw [e, hc, cutL_at _ _ h.no] at h1
  rw [← h1, List.map_append, List.map_cons, List.map_nil, ext_list, List.append_assoc]
  rfl
theorem CutAt.done {s : ByteArray} {ps : List ByteArray} {f : Nat} (h : CutAt s ps f s.size) : (ps ++ [s.extract f s.size]).map (·.data.toList) = cutL s.data.toList := by
  have h2 : (s.data.toList.drop f).take (s.size - f) = s.data.toList.drop f := List.take_of_length_le (by simp)
  have h3 := h.no
  rw [h2] at h3
  have h1 := h.eq
  rw [cutL_plain _ h3] at h1
  rw [← h1, List.map_append, List.map_cons, List.map_nil, ext_list, h2]

set_option maxHeartbeats 1000000 in
set_option maxRecDepth 100000 in
theorem sCut_any (s : ByteArray) (w : World) (hs : s.size ≤ 1048576) : Calls Tryd.prog 23 #[.string s, .int .u8 44] w fun e w' => (∃ v ps, e = .returned v ∧ SOwn w.heap.size w' v ps ∧ ps.map (·.data.toList) = cutL s.data.toList) ∧ Below w.heap.size w w' := by
  obtain ⟨i0, hi, hz0, hz1, hz2⟩ := info_parts Strinfo
  go_enter Tryd.func23, Tryd.ntmps23
  go_wp2_with fail
  go_loopw [5, 6, 7] (fun v f i wr => ∃ (ps : List ByteArray) (b k : Nat), f = .int .i64 (b : Int) ∧ i = .int .i64 (k : Int) ∧ k ≤ s.size + 1 ∧ SOwn w.heap.size wr v ps ∧ Hid ((k ≤ s.size ∧ CutAt s ps b k) ∨ (k = s.size + 1 ∧ ps.map (·.data.toList) = cutL s.data.toList)) ∧ Below w.heap.size w wr) (fun _ _ i _ => s.size + 1 - (intOf i).toNat)
  case atStart => exact ⟨[], 0, 0, rfl, rfl, by omega, sown_none _ (Nat.le_refl _), Lib.hid (.inl ⟨Nat.zero_le _, CutAt.start s⟩), (Below.refl _ _).alloc (Nat.le_refl _) _⟩
  case round =>
    obtain ⟨ps, f, k, rfl, rfl, hk1, ⟨g, cap, rfl, hown⟩, HD, hb⟩ := hrel
    have hBs := hb.size
    by_cases hk : k ≤ s.size
    · have hC : CutAt s ps f k := by
        rcases HD.out with ⟨_, h⟩ | ⟨h, _⟩
        · exact h
        · omega
      have hfk := hC.fk
      have hpl := hC.len
      by_cases hlt : k < s.size
      · have hke : ((k : Int) == (s.size : Int)) = false := by simp; omega
        by_cases hc : s[k] = 44
        · have HN := Lib.hid (hC.cut hlt hc)
          have hc1 : ((s[k].toNat : Int) == 44) = true := by rw [hc]; rfl
          clear hC hc HD
          go_wp2_with (at_builtin; refine wpList_append_own _ rfl _ _ 43 rfl w.heap.size 9 i0 (.string ⟨#[]⟩) 1 16 Tryd.underlying43 hi hz0 hz1 hz2 rfl (by decide) _ _ _ rfl (hown.alloc _) ⟨wr.heap.size, 0, none⟩ 1 1 [Value.string (s.extract f k)] rfl rfl (by intro j u' hj; match j, hj with | 0, hj => simp at hj; subst hj; simp [Addr.add]) (by intro u' hu'; simp at hu'; subst hu'; rfl) (by unfold maxLen; omega) (by omega) (by simp; omega) ?_)
          intro v' w' hown' hgrow hnil
          have hv : v' ≠ .slice none 0 0 := by simpa using hnil
          have hB' : Below w.heap.size w w' := (hb.alloc hBs _).grown hgrow (by simp; omega) (fun k' hk' => (hown.lt k' hk').1)
          obtain ⟨g', cap', hv', hown2⟩ := sown_of hown' hv (ps := ps ++ [s.extract f k]) (by simp)
          obtain ⟨qs, hqs⟩ : ∃ qs, qs = ps ++ [s.extract f k] := ⟨_, rfl⟩
          rw [← hqs] at hown2 hv' HN
          have HQ := Lib.hid hqs
          clear hqs
          subst hv'
          clear hown hown' hgrow hnil
          go_wp2
          go_roundw
          case rel => exact ⟨qs, k + 1, k + 1, by go_num, by go_num, by omega, ⟨_, _, rfl, hown2⟩, Lib.hid (.inl ⟨by omega, HN.out⟩), hB'⟩
          case measure => simp [intOf]; omega
        · have HN := Lib.hid (hC.pass hlt hc)
          have hc1 : ((s[k].toNat : Int) == 44) = false := by simp; exact fun e => hc (UInt8.toNat_inj.1 (by rw [show (44 : UInt8).toNat = 44 from rfl]; omega))
          clear hC hc HD
          go_wp2_with fail
          go_roundw
          case rel => exact ⟨ps, f, k + 1, rfl, by go_num, by omega, ⟨_, _, rfl, hown⟩, Lib.hid (.inl ⟨by omega, HN.out⟩), hb⟩
          case measure => simp [intOf]; omega
      · obtain rfl : k = s.size := by omega
        have hke : ((s.size : Int) == (s.size : Int)) = true := by simp
        have HN := Lib.hid hC.done
        clear hC HD hlt
        go_wp2_with (at_builtin; refine wpList_append_own _ rfl _ _ 43 rfl w.heap.size 9 i0 (.string ⟨#[]⟩) 1 16 Tryd.underlying43 hi hz0 hz1 hz2 rfl (by decide) _ _ _ rfl (hown.alloc _) ⟨wr.heap.size, 0, none⟩ 1 1 [Value.string (s.extract f s.size)] rfl rfl (by intro j u' hj; match j, hj with | 0, hj => simp at hj; subst hj; simp [Addr.add]) (by intro u' hu'; simp at hu'; subst hu'; rfl) (by unfold maxLen; omega) (by omega) (by simp; omega) ?_)
        intro v' w' hown' hgrow hnil
        have hv : v' ≠ .slice none 0 0 := by simpa using hnil
        have hB' : Below w.heap.size w w' := (hb.alloc hBs _).grown hgrow (by simp; omega) (fun k' hk' => (hown.lt k' hk').1)
        obtain ⟨g', cap', hv', hown2⟩ := sown_of hown' hv (ps := ps ++ [s.extract f s.size]) (by simp)
        obtain ⟨qs, hqs⟩ : ∃ qs, qs = ps ++ [s.extract f s.size] := ⟨_, rfl⟩
        rw [← hqs] at hown2 hv' HN
        have HQ := Lib.hid hqs
        clear hqs
        subst hv'
        clear hown hown' hgrow hnil
        go_wp2
        go_roundw
        case rel => exact ⟨qs, s.size + 1, s.size + 1, by go_num, by go_num, by omega, ⟨_, _, rfl, hown2⟩, Lib.hid (.inr ⟨rfl, HN.out⟩), hB'⟩
        case measure => simp [intOf]
    · obtain rfl : k = s.size + 1 := by omega
      have HN := Lib.hid (show ps.map (·.data.toList) = cutL s.data.toList by
        rcases HD.out with ⟨h, _⟩ | ⟨_, h⟩
        · omega
        · exact h)
      clear HD
      go_wp2_with fail
      go_ret
      exact ⟨⟨_, ps, rfl, ⟨_, _, rfl, hown⟩, HN.out⟩, hb⟩
end Go.Proofs.YtnimmmcpdicajaaDoor
