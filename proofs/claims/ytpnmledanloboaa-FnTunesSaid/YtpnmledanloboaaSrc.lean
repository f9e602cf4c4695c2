/-
  The model's source of choices: (*l00Src).next, pick, one, and l00From.
-/
import Derived.Test.YtpnmledanloboaaOwn
import Derived.Test.YtpnmledanloboaaMarkG
import Derived.Test.YtpnmledanloboaaNl
import Derived.Deep.QuietTactic
import Derived.BigQuiet
import Derived.IntWalk
import Derived.Lib.Hide
import Derived.KernelRfl
import Derived.Lib.EndianBits
namespace Go.Proofs.Ytpnmledanloboaa
open Go.Fl Go.RowKit Go.Nl

/-- Block g is a source over the bytes c, made since w0; k of them are read. -/
def Src (w0 : World) (g : Nat) (w : World) (c : Value) (k : Nat) : Prop :=
  Below w0.heap.size w0 w ∧ w0.heap.size ≤ g ∧ ∃ z : Int, 0 ≤ z ∧ z < 18446744073709551616 ∧ w.ownsRow w0.heap.size 142 1 (.slice (some ⟨g, 0, none⟩) 3 3) 3 [c, .int .i64 k, .int .u64 z]

theorem below_row {B g : Nat} {w0 w w' : World} (h : Below B w0 w) (hB : B ≤ w.heap.size) (hg : B ≤ g) (k : w.grownBy w' (some g)) : Below B w0 w' :=
  h.trans ⟨k.os, k.tape, k.output, k.size, fun i hi => k.block i (Nat.lt_of_lt_of_le hi hB) (by simp; omega)⟩

theorem byte_range {x : Int} (h : (Lit.int .u8 x).wf = true) : 0 ≤ x ∧ x ≤ 255 := by
  simp [Lit.wf, IntKind.min, IntKind.max, IntKind.signed, IntKind.bits] at h
  omega

theorem ns_bytes {w : World} {c : Value} {bs : List Int} (h : NS .u8 w c bs) (i : Nat) : 0 ≤ bs.getD i 0 ∧ bs.getD i 0 ≤ 255 := by
  obtain ⟨_, _, _, _, _, hw, _⟩ := h
  by_cases hi : i < bs.length
  · have : bs.getD i 0 ∈ bs := by rw [List.getD_eq_getElem?_getD, List.getElem?_eq_getElem hi]; exact List.getElem_mem hi
    exact byte_range (hw _ this)
  · rw [List.getD_eq_getElem?_getD, List.getElem?_eq_none (by omega)]; simp

theorem grown_row {w w' : World} {g : Nat} (h : w.grownBy w' none) : w.grownBy w' (some g) := ⟨h.os, h.tape, h.output, h.size, fun i hi _ => h.block i hi (by simp)⟩

theorem last_byte (y : Int) : 0 ≤ wrap64 (bits .and .u64 (IntKind.u64.wrap y / 1099511627776) 255) ∧ wrap64 (bits .and .u64 (IntKind.u64.wrap y / 1099511627776) 255) ≤ 255 := by
  have h := IntKind.wrap_u64 y
  have hm := bits_mask .u64 64 (by decide) wraps_u64 8 (by decide) (IntKind.u64.wrap y / 1099511627776) (by omega) (by omega)
  have h2 : bits .and .u64 (IntKind.u64.wrap y / 1099511627776) 255 = (IntKind.u64.wrap y / 1099511627776) % 256 := hm
  rw [h2, show wrap64 (IntKind.u64.wrap y / 1099511627776 % 256) = IntKind.u64.wrap y / 1099511627776 % 256 by unfold wrap64; omega]
  omega

theorem src_step {w0 w : World} {g k : Nat} {c : Value} {z : Int} (hb : Below w0.heap.size w0 w) (hg : w0.heap.size ≤ g) (hown : w.ownsRow w0.heap.size 142 1 (.slice (some ⟨g, 0, none⟩) 3 3) 3 [c, .int .i64 k, .int .u64 z]) (n m : Nat) (y : Int) :
    Src w0 g ((((w.drewN n).setCell ⟨g, 1, none⟩ (.int .i64 ((k : Int) + 1))).setCell ⟨g, 2, none⟩ (.int .u64 (IntKind.u64.wrap y))).drewN m) c (k + 1) ∧
      w.grownBy ((((w.drewN n).setCell ⟨g, 1, none⟩ (.int .i64 ((k : Int) + 1))).setCell ⟨g, 2, none⟩ (.int .u64 (IntKind.u64.wrap y))).drewN m) (some g) := by
  have h0 : (w.drewN n).ownsRow w0.heap.size 142 1 (.slice (some ⟨g, 0, none⟩) 3 3) 3 [c, .int .i64 k, .int .u64 z] := hown
  have g0 : w.grownBy (w.drewN n) (some g) := grown_below (below_drewN (Below.refl _ _) n)
  obtain ⟨h1, g1⟩ := h0.stored 1 (.int .i64 ((k : Int) + 1))
  obtain ⟨h2, g2⟩ := h1.stored 2 (.int .u64 (IntKind.u64.wrap y))
  have g3 := grown_trans (grown_trans (grown_trans g0 g1) g2) (grown_below (below_drewN (Below.refl _ _) m))
  have hy := IntKind.wrap_u64 y
  exact ⟨⟨below_row hb hb.size hg g3, hg, IntKind.u64.wrap y, by omega, by omega, by rw [show ((k + 1 : Nat) : Int) = (k : Int) + 1 from rfl]; exact h2⟩, g3⟩

set_option maxHeartbeats 1000000 in
set_option maxRecDepth 100000 in
theorem sNext_any (w0 : World) (g k : Nat) (c : Value) (bs : List Int) (w : World) (hc : NS .u8 w0 c bs) (hk : k < 4611686018427387904) (h : Src w0 g w c k) :
    Calls Try.prog 120 #[.pointer (some ⟨g, 0, none⟩)] w fun e w' => ∃ x : Int, 0 ≤ x ∧ x ≤ 255 ∧ e = .returned (.int .i64 x) ∧ Src w0 g w' c (k + 1) ∧ w.grownBy w' (some g) := by
  obtain ⟨hb, hg, z, hz0, hz1, hown⟩ := h
  have hcs := hc.below hb
  have HY := Lib.hid (ns_bytes hc k)
  obtain ⟨a, cap, rfl, hlc, hcm, hwf, hcell⟩ := hcs
  have HB := Lib.hid hb
  have HO := Lib.hid hown
  have h00 : w.cell? ⟨g, 0, none⟩ = some (.slice a bs.length cap) := by simpa using hown.cellAt 0 (by decide)
  have h01 : w.cell? ⟨g, 1, none⟩ = some (.int .i64 k) := by simpa using hown.cellAt 1 (by decide)
  have f1 : w.frozen? ⟨g, 1, none⟩ = false := hown.frozenAt 1
  have f2 : w.frozen? ⟨g, 2, none⟩ = false := hown.frozenAt 2
  have h02 : w.cell? ⟨g, 2, none⟩ = some (.int .u64 z) := by simpa using hown.cellAt 2 (by decide)
  clear hown hb
  by_cases hlt : k < bs.length
  · obtain rfl | ⟨b, off, rfl, hbl, hcell⟩ := hcell
    · simp at hlt
    have hcb : w.cell? ⟨b, off + k, none⟩ = some (.int .u8 (bs.getD k 0)) := hcell k hlt
    clear hcell
    generalize bs.getD k 0 = x at HY hcb
    have hx0 := HY.out.1
    have hx1 := HY.out.2
    have k0 : (0 : Int) ≤ (k : Int) := by omega
    have k1 : (k : Int) < (bs.length : Int) := by omega
    go_enter Try.func120, Try.ntmps120
    go_wp2
    go_quiet (fail)
    go_wp2
    go_quiet (fail)
    go_wp2
    have hd2 : decide ((k : Int) + 1 ≤ (bs.length : Int)) = true := decide_eq_true (by omega)
    go_quiet (fail)
    go_wp2
    go_ret
    exact ⟨x, hx0, hx1, rfl, src_step HB.out hg HO.out _ _ _⟩
  · go_enter Try.func120, Try.ntmps120
    have k0 : (0 : Int) ≤ (k : Int) := by omega
    have hd : decide ((k : Int) < (bs.length : Int)) = false := decide_eq_false (by omega)
    go_wp2
    go_quiet (fail)
    go_wp2
    have hd2 : decide ((k : Int) + 1 ≤ (bs.length : Int)) = false := decide_eq_false (by omega)
    go_quiet (fail)
    go_wp2
    go_ret
    exact ⟨_, (last_byte _).1, (last_byte _).2, rfl, src_step HB.out hg HO.out _ _ _⟩

theorem rem_in (x : Int) {n : Int} (h1 : 1 ≤ n) : 0 ≤ x % n ∧ x % n < n :=
  ⟨Int.emod_nonneg _ (by omega), Int.emod_lt_of_pos _ (by omega)⟩

set_option maxHeartbeats 1000000 in
set_option maxRecDepth 100000 in
theorem sPick_any (w0 : World) (g k : Nat) (c : Value) (bs : List Int) (n : Int) (w : World) (hc : NS .u8 w0 c bs) (hk : k < 2305843009213693952) (hn : 1 ≤ n) (hn' : n ≤ 9223372036854775807) (h : Src w0 g w c k) :
    Calls Try.prog 88 #[.pointer (some ⟨g, 0, none⟩), .int .i64 n] w fun e w' => ∃ (x : Int) (k' : Nat), 0 ≤ x ∧ x < n ∧ k' ≤ k + 2 ∧ e = .returned (.int .i64 x) ∧ Src w0 g w' c k' ∧ w.grownBy w' (some g) := by
  have HS := Lib.hid h
  have HC := Lib.hid hc
  clear h hc
  by_cases h1 : n ≤ 1
  · go_enter Try.func88, Try.ntmps88
    go_wp2
    go_ret
    exact ⟨0, k, by omega, by omega, by omega, rfl, HS.out, grown_refl _ _⟩
  · by_cases h2 : 200 < n
    · go_enter Try.func88, Try.ntmps88
      go_wp2_with (first | (go_at_call 120; refine (sNext_any w0 g k c bs _ HC.out (by omega) HS.out).mono ?_; rintro e w' ⟨x, hx0, hx1, rfl, S1, G1⟩; have HS1 := Lib.hid S1; have HG1 := Lib.hid G1; clear S1 G1) | fail)
      refine (sNext_any w0 g (k + 1) c bs _ HC.out (by omega) HS1.out).mono ?_
      rintro e w'' ⟨y, hy0, hy1, rfl, S2, G2⟩
      have HS2 := Lib.hid S2
      have HG2 := Lib.hid G2
      clear S2 G2
      go_wp2
      go_ret
      exact ⟨_, k + 2, (rem_in _ hn).1, (rem_in _ hn).2, by omega, rfl, HS2.out, grown_trans HG1.out HG2.out⟩
    · go_enter Try.func88, Try.ntmps88
      go_wp2_with (first | (go_at_call 120; refine (sNext_any w0 g k c bs _ HC.out (by omega) HS.out).mono ?_; rintro e w' ⟨x, hx0, hx1, rfl, S1, G1⟩; have HS1 := Lib.hid S1; have HG1 := Lib.hid G1; clear S1 G1) | fail)
      go_ret
      exact ⟨_, k + 1, (rem_in _ hn).1, (rem_in _ hn).2, by omega, rfl, HS1.out, HG1.out⟩

set_option maxHeartbeats 1000000 in
theorem sOne_any (w0 : World) (g k : Nat) (c : Value) (bs : List Int) (n : Int) (w : World) (hc : NS .u8 w0 c bs) (hk : k < 2305843009213693952) (hn : 1 ≤ n) (hn' : n ≤ 9223372036854775807) (h : Src w0 g w c k) :
    Calls Try.prog 90 #[.pointer (some ⟨g, 0, none⟩), .int .i64 n] w fun e w' => ∃ (b : Bool) (k' : Nat), k' ≤ k + 2 ∧ e = .returned (.bool b) ∧ Src w0 g w' c k' ∧ w.grownBy w' (some g) := by
  go_enter Try.func90, Try.ntmps90
  go_wp2_with (first | (go_at_call 88; refine (sPick_any w0 g k c bs n _ hc hk hn hn' h).mono ?_; rintro e w' ⟨x, k', hx0, hx1, hk1, rfl, S1, G1⟩) | fail)
  go_ret
  exact ⟨_, k', hk1, rfl, S1, G1⟩

/-- A new source: a block of its own. -/
theorem sFrom_src (c : Value) (bs : List Int) (w : World) (hc : NS .u8 w c bs) :
    Calls Try.prog 87 #[c] w fun e w' => ∃ g, e = .returned (.pointer (some ⟨g, 0, none⟩)) ∧ Src w g w' c 0 := by
  obtain ⟨a, cap, rfl, hlc, hcm, hwf, hcell⟩ := hc
  go_enter Try.func87, Try.ntmps87
  go_wp2
  go_ret
  refine ⟨w.heap.size, rfl, (Below.refl _ _).alloc (Nat.le_refl _) _, Nat.le_refl _, 0, by omega, by omega, ?_⟩
  exact ⟨by simp, .inr ⟨w.heap.size, 3, _, rfl, Nat.le_refl _, heap_alloc_new w _, Nat.le_refl _, by unfold maxLen; decide, by simp, by simp⟩⟩

theorem Src.lt {w0 w : World} {g k : Nat} {c : Value} (h : Src w0 g w c k) : g < w.heap.size := by
  obtain ⟨_, _, z, _, _, hown⟩ := h
  exact block_lt_of_cell (show w.cell? ⟨g, 0, none⟩ = some c by simpa using hown.cellAt 0 (by decide))
theorem Src.kept {w0 w w' : World} {g k : Nat} {c : Value} {row : Option Nat} (h : Src w0 g w c k) (hg : w.grownBy w' row) (hr : row ≠ some g) (hb : Below w0.heap.size w0 w') : Src w0 g w' c k := by
  obtain ⟨_, h1, z, z0, z1, hown⟩ := h
  exact ⟨hb, h1, z, z0, z1, hown.kept hg (.inr (by simpa [Value.ownBlock] using fun h => hr h.symm))⟩
theorem Src.below {w0 w w' : World} {g k : Nat} {c : Value} (h : Src w0 g w c k) (hb : Below w.heap.size w w') : Src w0 g w' c k :=
  h.kept (grown_below (row := none) hb) (by simp) (h.1.trans ⟨hb.os, hb.tape, hb.output, hb.size, fun i hi => hb.block i (Nat.lt_of_lt_of_le hi h.1.size)⟩)

theorem grown_set {w w' : World} {row : Option Nat} {p : Addr} (h : w.grownBy w' row) (hp : w.heap.size ≤ p.block) (v : Value) : w.grownBy (w'.setCell p v) row :=
  have b := (Below.refl w.heap.size w').setCell hp v
  ⟨b.os.trans h.os, b.tape.trans h.tape, b.output.trans h.output, Nat.le_trans h.size b.size, fun k hk hr => (b.block k hk).trans (h.block k hk hr)⟩
theorem Src.set {w0 w : World} {g k : Nat} {c : Value} {p : Addr} (h : Src w0 g w c k) (hp : g < p.block) (v : Value) : Src w0 g (w.setCell p v) c k := by
  obtain ⟨hb, h1, z, z0, z1, hown⟩ := h
  exact ⟨hb.setCell (by omega) v, h1, z, z0, z1, ownsRow_setCell_other hown (by simp [Value.ownBlock]; omega) v⟩
end Go.Proofs.Ytpnmledanloboaa
