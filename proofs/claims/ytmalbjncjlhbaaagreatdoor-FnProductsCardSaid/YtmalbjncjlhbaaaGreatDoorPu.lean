/-
  The library's strconv.ParseUint at base 16 and 32 bits, over any program that holds it.
-/
import Derived.Shelf.Pu.Lays
import Derived.Shelf.Pu.Lower
import Derived.Shelf.Pu.ToError
import Derived.Shelf.Pu.ToErrorRange
import Derived.Shelf.Pu.ParseUintEmpty
import Derived.Lib.Walk
import Derived.Lib.AtoiErrMem
import Derived.Lib.ParseIntBMem
import Derived.Lib.Hide
import Derived.WalkKit
import Derived.BigCall
import Derived.BigGuard
namespace Go.Pu16
open Go.Shelf Go.RowKit Go.Proofs
variable {P : Program} {ρ : Ren}

/-- The value of a digit, of whatever case. -/
def dg (c : Nat) : Nat := if 48 ≤ c ∧ c ≤ 57 then c - 48 else if 97 ≤ c ||| 32 ∧ c ||| 32 ≤ 122 then (c ||| 32) - 97 + 10 else 99
/-- The number of a text. -/
def puH : Nat → List UInt8 → Option Nat
  | acc, [] => some acc
  | acc, c :: r => if 16 ≤ dg c.toNat then none else if 4294967295 < acc * 16 + dg c.toNat then none else puH (acc * 16 + dg c.toNat) r

theorem or_low : ∀ c : Fin 256, bits .or .u8 (c.val : Int) 32 = ((c.val ||| 32 : Nat) : Int) ∧ c.val ||| 32 < 256 := by decide +kernel

/-- What the call comes to. -/
def Out (t : TypeId) (r : Option Nat) (e : Ending) : Prop :=
  match r with
  | some u => e = .returned (.tuple #[.int .u64 (u : Int), .nilIface])
  | none => ∃ (u : Int) (k : Int), (k = 1 ∨ k = 2) ∧ e = .returned (.tuple #[.int .u64 u, .iface t (.int .i64 k)])

set_option maxHeartbeats 32000000 in
set_option maxRecDepth 100000 in
theorem inner (L : LaysPu.n16 P ρ) (t : ByteArray) (hne : t.size ≠ 0) (hmax : t.size ≤ 9223372036854775806) (w : World) :
    Calls P (ρ.f 16) #[.string t, .int .i64 16, .int .i64 32] w fun e w' => Out (ρ.t 34) (puH 0 t.data.toList) e ∧ w' = Lib.bytesWorld w (ρ.t 5) t := by
  have mixed := L.mixed
  have t9 := L.t9; have a9 := L.a9; have z9 := L.z9; have v9 := L.v9
  have t3 := L.t3; have a3 := L.a3; have z3 := L.z3; have v3 := L.v3
  have t22 := L.t22; have a22 := L.a22; have z22 := L.z22; have v22 := L.v22
  have t24 := L.t24; have a24 := L.a24; have z24 := L.z24; have v24 := L.v24
  have t4 := L.t4; have a4 := L.a4; have z4 := L.z4; have v4 := L.v4
  have t34 := L.t34; have a34 := L.a34; have z34 := L.z34; have v34 := L.v34
  have t5 := L.t5; have a5 := L.a5; have z5 := L.z5; have v5 := L.v5
  have t36 := L.t36; have a36 := L.a36; have z36 := L.z36; have v36 := L.v36
  have t37 := L.t37; have a37 := L.a37; have z37 := L.z37; have v37 := L.v37
  have t0 := L.t0; have a0 := L.a0; have z0 := L.z0; have v0 := L.v0
  have e19 : ∀ args w, (callFunc (ρ.f 19) args).run P w = .ok (.enter (ρ.f 19) args) w := enters_of L.f19 (by kernel_rfl) rfl
  have hemp : t.toList.isEmpty = false := by
    rw [← decide_eq_emptyBytes]
    exact decide_eq_false (fun h => hne (by rw [h]; rfl))
  have hcv := Lib.run_convert_string_bytes (P := P) w (ρ.t 9) (ρ.t 37) (ρ.t 5) t (u := .string) L.t9 L.t37 L.t5
  have hB : ∀ j, j < t.size → (Lib.bytesWorld w (ρ.t 5) t).cell? ⟨w.heap.size, j, none⟩ = some (.int .u8 (t.data.toList.getD j 0).toNat) := fun j hj => Lib.bytesWorld_cell w (ρ.t 5) t j hj
  obtain ⟨W1, hW1⟩ : ∃ W1, W1 = Lib.bytesWorld w (ρ.t 5) t := ⟨_, rfl⟩
  rw [← hW1] at hcv hB ⊢
  clear hW1
  obtain ⟨bs, hL⟩ : ∃ bs, bs = t.data.toList := ⟨_, rfl⟩
  have hLn : bs.length = t.size := by rw [hL, Lib.size_eq]
  rw [← hL] at hB ⊢
  clear hL
  have hmv : IntKind.u64.wrap (IntKind.u64.wrap 4294967296 - 1) = 4294967295 := by
    rw [IntKind.wrap_u64, IntKind.wrap_u64]
    decide
  go_enter L.f16, BodyPu.n16_ntmps ρ
  go_wp2
  go_loop [12, 13, 101] (fun vu vn vi => ∃ (k acc : Nat) (a : Int), vu = .bool false ∧ vn = .int .u64 a ∧ vi = .int .i64 k ∧ k ≤ t.size ∧ Hid (a = (acc : Int) ∧ acc ≤ 4294967295 ∧ puH 0 bs = puH acc (bs.drop k)))
    (fun _ _ vi => t.size - (intOf vi).toNat)
  case atStart => exact ⟨0, 0, 0, rfl, rfl, rfl, by omega, rfl, by omega, rfl⟩
  case round =>
    obtain ⟨k, acc, a, rfl, rfl, rfl, hk, hh⟩ := hrel
    obtain ⟨ha, hacc, hdec⟩ := hh.out
    clear hh
    have a0 : 0 ≤ a := by omega
    have a1 : a ≤ 4294967295 := by omega
    by_cases hkn : k < t.size
    · have hc := hB k hkn
      have hdrop : bs.drop k = bs[k]'(by omega) :: bs.drop (k + 1) := List.drop_eq_getElem_cons (by omega)
      have hget : bs.getD k 0 = bs[k]'(by omega) := by simp [List.getD, List.getElem?_eq_getElem (show k < bs.length by omega)]
      rw [hdrop] at hdec
      rw [hget] at hc
      generalize bs[k]'(by omega) = c at hc hdec
      have hc256 : c.toNat < 256 := c.toNat_lt
      have hstep : puH acc (c :: bs.drop (k + 1)) = if 16 ≤ dg c.toNat then none else if 4294967295 < acc * 16 + dg c.toNat then none else puH (acc * 16 + dg c.toNat) (bs.drop (k + 1)) := rfl
      rw [hstep] at hdec
      clear hB hdrop hget hstep
      generalize c.toNat = cv at hc hdec hc256
      by_cases hdig : 48 ≤ cv ∧ cv ≤ 57
      · obtain ⟨hd0, hd1⟩ := hdig
        have hdg : dg cv = cv - 48 := by unfold dg; rw [if_pos ⟨hd0, hd1⟩]
        rw [hdg, if_neg (by omega)] at hdec
        by_cases hov : 4294967295 < acc * 16 + (cv - 48)
        · rw [if_pos hov] at hdec
          have iov : 4294967295 < a * 16 + ((cv : Int) - 48) := by omega
          have HD := Lib.hid hdec
          clear hacc hov ha hdec hdg
          go_wp2
          go_ret2
          exact ⟨by rw [HD.out]; exact ⟨_, _, .inl rfl, rfl⟩, rfl⟩
        · rw [if_neg hov] at hdec
          have HN : Hid (a * 16 + ((cv : Int) - 48) = ((acc * 16 + (cv - 48) : Nat) : Int) ∧ acc * 16 + (cv - 48) ≤ 4294967295 ∧ puH 0 bs = puH (acc * 16 + (cv - 48)) (bs.drop (k + 1))) := Lib.hid ⟨by omega, by omega, hdec⟩
          have iov : a * 16 + ((cv : Int) - 48) ≤ 4294967295 := by omega
          clear hacc hov hdec ha hdg
          go_wp2
          refine ⟨⟨k + 1, acc * 16 + (cv - 48), a * 16 + ((cv : Int) - 48), rfl, (by first | rfl | (congr 1; omega)), (by first | rfl | (congr 1; omega)), by omega, HN⟩, by simp [intOf]; omega⟩
      · obtain ⟨hl, hl256⟩ := or_low ⟨cv, hc256⟩
        simp only at hl hl256
        have hdg : dg cv = if 97 ≤ cv ||| 32 ∧ cv ||| 32 ≤ 122 then (cv ||| 32) - 97 + 10 else 99 := by unfold dg; rw [if_neg hdig]
        have hu : bits .or .u8 95 32 = 127 := by decide
        have hll : ∀ x : Int, x = (cv : Int) → bits .or .u8 x 32 = ((cv ||| 32 : Nat) : Int) := fun x hx => by rw [hx]; exact hl
        generalize cv ||| 32 = lv at hl hl256 hdg hll
        by_cases hlet : 97 ≤ lv ∧ lv ≤ 122
        · obtain ⟨hq0, hq1⟩ := hlet
          have h95 : ¬ (cv : Int) = 95 := by intro h; have := hll 95 h.symm; rw [hu] at this; omega
          rw [if_pos ⟨hq0, hq1⟩] at hdg
          by_cases h16 : lv ≤ 102
          · rw [hdg, if_neg (by omega)] at hdec
            by_cases hov : 4294967295 < acc * 16 + (lv - 97 + 10)
            · rw [if_pos hov] at hdec
              have iov : 4294967295 < a * 16 + ((lv : Int) - 97 + 10) := by omega
              have HD := Lib.hid hdec
              clear hacc hov ha hdec hdg hll
              go_wp2_with (go_at_fn (ρ.f 19); refine (AnyPu.internal_strconv_lower { L with } _ _).mono ?_; rintro e w' ⟨rfl, rfl⟩)
              all_goals (go_ret2; exact ⟨by rw [HD.out]; exact ⟨_, _, by first | exact .inl rfl | exact .inr rfl, rfl⟩, rfl⟩)
            · rw [if_neg hov] at hdec
              have HN : Hid (a * 16 + ((lv : Int) - 97 + 10) = ((acc * 16 + (lv - 97 + 10) : Nat) : Int) ∧ acc * 16 + (lv - 97 + 10) ≤ 4294967295 ∧ puH 0 bs = puH (acc * 16 + (lv - 97 + 10)) (bs.drop (k + 1))) := Lib.hid ⟨by omega, by omega, hdec⟩
              have iov : a * 16 + ((lv : Int) - 97 + 10) ≤ 4294967295 := by omega
              clear hacc hov hdec ha hdg hll
              go_wp2_with (go_at_fn (ρ.f 19); refine (AnyPu.internal_strconv_lower { L with } _ _).mono ?_; rintro e w' ⟨rfl, rfl⟩)
              all_goals refine ⟨⟨k + 1, acc * 16 + (lv - 97 + 10), a * 16 + ((lv : Int) - 97 + 10), rfl, (by first | rfl | (congr 1; omega)), (by first | rfl | (congr 1; omega)), by omega, HN⟩, by simp [intOf]; omega⟩
          · rw [hdg, if_pos (by omega)] at hdec
            have i16 : 16 ≤ (lv : Int) - 97 + 10 := by omega
            have HD := Lib.hid hdec
            clear hacc ha hdec hdg hll
            go_wp2_with (go_at_fn (ρ.f 19); refine (AnyPu.internal_strconv_lower { L with } _ _).mono ?_; rintro e w' ⟨rfl, rfl⟩)
            all_goals (go_ret2; exact ⟨by rw [HD.out]; exact ⟨_, _, by first | exact .inl rfl | exact .inr rfl, rfl⟩, rfl⟩)
        · rw [if_neg hlet] at hdg
          rw [hdg, if_pos (by omega)] at hdec
          have HD := Lib.hid hdec
          clear hacc ha hdec hdg hll
          go_wp2_with (go_at_fn (ρ.f 19); refine (AnyPu.internal_strconv_lower { L with } _ _).mono ?_; rintro e w' ⟨rfl, rfl⟩)
          all_goals (go_ret2; exact ⟨by rw [HD.out]; exact ⟨_, _, by first | exact .inl rfl | exact .inr rfl, rfl⟩, rfl⟩)
    · have hkk : k = t.size := by omega
      subst hkk
      have hF : puH acc (bs.drop t.size) = some acc := by rw [List.drop_eq_nil_of_le (by omega)]; rfl
      rw [hF] at hdec
      have HD := Lib.hid hdec
      subst ha
      clear hacc hF a0 a1 hdec
      go_wp2
      go_ret2
      exact ⟨by rw [HD.out]; rfl, rfl⟩

set_option maxHeartbeats 4000000 in
set_option maxRecDepth 100000 in
/-- strconv.ParseUint(s, 16, 32): the number, or some number and an error that is not nil. -/
theorem outer (L : LaysPu.n14 P ρ) (s : ByteArray) (hne : s.size ≠ 0) (hmax : s.size ≤ 1048576) (w : World) (e0 e1 : Value) (hv0 : w.cell? ⟨(ρ.g 0), 0, none⟩ = some e0) (hv1 : w.cell? ⟨(ρ.g 1), 0, none⟩ = some e1)
    (he0 : e0 = .nilIface ∨ ∃ te pe, e0 = .iface te pe) (he1 : e1 = .nilIface ∨ ∃ te pe, e1 = .iface te pe) :
    Calls P (ρ.f 14) #[.string s, .int .i64 16, .int .i64 32] w fun e w' => (match puH 0 s.data.toList with
      | some u => e = .returned (.tuple #[.int .u64 (u : Int), .nilIface])
      | none => ∃ (u : Int) (N : Nat), e = .returned (.tuple #[.int .u64 u, .iface (ρ.t 39) (.pointer (some ⟨N, 0, none⟩))])) ∧ Below w.heap.size w w' := by
  have mixed := L.mixed
  have t9 := L.t9; have a9 := L.a9; have z9 := L.z9; have v9 := L.v9
  have t3 := L.t3; have a3 := L.a3; have z3 := L.z3; have v3 := L.v3
  have t22 := L.t22; have a22 := L.a22; have z22 := L.z22; have v22 := L.v22
  have t24 := L.t24; have a24 := L.a24; have z24 := L.z24; have v24 := L.v24
  have t25 := L.t25; have a25 := L.a25; have z25 := L.z25; have v25 := L.v25
  have t4 := L.t4; have a4 := L.a4; have z4 := L.z4; have v4 := L.v4
  have e16 : ∀ args w, (callFunc (ρ.f 16) args).run P w = .ok (.enter (ρ.f 16) args) w := enters_of L.f16 (by kernel_rfl) rfl
  have e17 : ∀ args w, (callFunc (ρ.f 17) args).run P w = .ok (.enter (ρ.f 17) args) w := enters_of L.f17 (by kernel_rfl) rfl
  have hI := inner { L with } s hne (by omega) w
  have hG0 : (ρ.g 0) < w.heap.size := Lib.lt_of_cell hv0
  have hG1 : (ρ.g 1) < w.heap.size := Lib.lt_of_cell hv1
  have hb1 : Below w.heap.size w (Lib.bytesWorld w (ρ.t 5) s) := Lib.bytesWorld_below _ _ _
  have hw0 := (hb1.cell (show (⟨(ρ.g 0), 0, none⟩ : Addr).block < w.heap.size from hG0)).trans hv0
  have hw1 := (hb1.cell (show (⟨(ρ.g 1), 0, none⟩ : Addr).block < w.heap.size from hG1)).trans hv1
  generalize Lib.bytesWorld w (ρ.t 5) s = W1 at hI hb1 hw0 hw1
  cases hp : puH 0 s.data.toList with
  | some u =>
    rw [hp] at hI
    go_enter L.f14, BodyPu.n14_ntmps ρ
    go_wp2_with (go_at_fn (ρ.f 16); refine hI.mono ?_; rintro e w' ⟨he, rfl⟩; obtain rfl := (show e = .returned (.tuple #[.int .u64 (u : Int), .nilIface]) from he))
    go_ret2
    exact ⟨rfl, hb1⟩
  | none =>
    rw [hp] at hI
    go_enter L.f14, BodyPu.n14_ntmps ρ
    go_wp2_with fail
    go_at_fn (ρ.f 16)
    refine hI.mono ?_
    rintro e w' ⟨⟨u, k, hk, rfl⟩, rfl⟩
    rcases hk with rfl | rfl
    · go_wp2_with (go_at_fn (ρ.f 17); refine (AnyPu.strconv_toError_range { L with } ⟨#[80, 97, 114, 115, 101, 85, 105, 110, 116]⟩ s 16 32 e1 _ (by omega) hw1 he1).mono ?_; rintro e W2 ⟨N, rfl, h1, h2, h3⟩)
      go_ret2
      exact ⟨⟨u, N, rfl⟩, hb1.trans (h3.mono hb1.size)⟩
    · go_wp2_with (go_at_fn (ρ.f 17); refine (AnyPu.strconv_toError_syntax { L with } ⟨#[80, 97, 114, 115, 101, 85, 105, 110, 116]⟩ s 16 32 e0 _ (by omega) hw0 he0).mono ?_; rintro e W2 ⟨N, rfl, h1, h2, h3⟩)
      go_ret2
      exact ⟨⟨u, N, rfl⟩, hb1.trans (h3.mono hb1.size)⟩

set_option maxHeartbeats 4000000 in
set_option maxRecDepth 100000 in
/-- .. of the empty text. -/
theorem outer_empty (L : LaysPu.n14 P ρ) (w : World) (e0 : Value) (hv0 : w.cell? ⟨(ρ.g 0), 0, none⟩ = some e0) (he0 : e0 = .nilIface ∨ ∃ te pe, e0 = .iface te pe) :
    Calls P (ρ.f 14) #[.string ⟨#[]⟩, .int .i64 16, .int .i64 32] w fun e w' => (∃ (u : Int) (N : Nat), e = .returned (.tuple #[.int .u64 u, .iface (ρ.t 39) (.pointer (some ⟨N, 0, none⟩))])) ∧ Below w.heap.size w w' := by
  have mixed := L.mixed
  have t9 := L.t9; have a9 := L.a9; have z9 := L.z9; have v9 := L.v9
  have t3 := L.t3; have a3 := L.a3; have z3 := L.z3; have v3 := L.v3
  have t22 := L.t22; have a22 := L.a22; have z22 := L.z22; have v22 := L.v22
  have t24 := L.t24; have a24 := L.a24; have z24 := L.z24; have v24 := L.v24
  have t25 := L.t25; have a25 := L.a25; have z25 := L.z25; have v25 := L.v25
  have t4 := L.t4; have a4 := L.a4; have z4 := L.z4; have v4 := L.v4
  have e16 : ∀ args w, (callFunc (ρ.f 16) args).run P w = .ok (.enter (ρ.f 16) args) w := enters_of L.f16 (by kernel_rfl) rfl
  have e17 : ∀ args w, (callFunc (ρ.f 17) args).run P w = .ok (.enter (ρ.f 17) args) w := enters_of L.f17 (by kernel_rfl) rfl
  have hI := AnyPu.internal_strconv_ParseUint_empty { L with } 16 32 w
  go_enter L.f14, BodyPu.n14_ntmps ρ
  go_wp2_with fail
  go_at_fn (ρ.f 16)
  refine hI.mono ?_
  rintro e w' ⟨rfl, rfl⟩
  go_wp2_with (go_at_fn (ρ.f 17); refine (AnyPu.strconv_toError_syntax { L with } ⟨#[80, 97, 114, 115, 101, 85, 105, 110, 116]⟩ ⟨#[]⟩ 16 32 e0 _ (by decide) hv0 he0).mono ?_; rintro e W2 ⟨N, rfl, h1, h2, h3⟩)
  go_ret2
  exact ⟨⟨_, N, rfl⟩, h3⟩
end Go.Pu16
