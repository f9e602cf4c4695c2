/-
  Regions that draw their order, where an operation may answer one of several values (a not-a-number whose bits are drawn): one walk in the order of the text serves every order, if what is said of each value does not hang on the values of others.
  By an AI agent; no person has read it. Lean checks it.
-/
import Derived.Deep.Quiet
import Derived.Test.YtpnmledanloboaaFl
namespace Go.Loose

section
variable {P : Program} {ops : Array Oper} {md : Region.Mode} {C : World → Prop} {S : Nat → Value → Prop}

/-- What an operation comes to: a value of which R holds, and a world of the class. -/
def lands (P : Program) (C : World → Prop) (R : Value → Prop) : Result Next → Prop
  | .ok (.value u) w' => C w' ∧ R u
  | .ok .skip w' => C w' ∧ R undef
  | .ok (.enter f args) w' => Calls P f args w' (fun e w'' => ∃ v, e = .returned v ∧ R v ∧ C w'')
  | _ => False

def gives (P : Program) (C : World → Prop) (R : Value → Prop) (o : Oper) (a : Act) : Prop := ∀ w, C w → lands P C R ((execOp a.eval o).run P w)

theorem lands_some {R : Value → Prop} {r : Result Next} (h : lands P C R r) : ∃ v, R v := by
  cases r with
  | ok n w' =>
    cases n <;> simp only [lands] at h
    case value u => exact ⟨_, h.2⟩
    case skip => exact ⟨_, h.2⟩
    case enter f args =>
      obtain ⟨e, w'', fr, ⟨v, _, hv, _⟩, _⟩ := h []
      exact ⟨v, hv⟩
  | halt x w' => exact h.elim

/-- The walk in the order of the text: S tells what is said of the value of each operation, by its number. -/
def walk (P : Program) (ops : Array Oper) (C : World → Prop) (S : Nat → Value → Prop) (Q : Act → Prop) : Nat → List Oper → Act → Prop
  | _, [], a => Q a
  | i, o :: rest, a =>
    if Region.wanted o (yielded ops a.tmps) then gives P C (S i) o a ∧ ∀ v, S i v → walk P ops C S Q (i + 1) rest (a.put o.dst v)
    else walk P ops C S Q (i + 1) rest (a.put o.dst undef)

/-- Operation number i comes up. -/
def comes (P : Program) (ops : Array Oper) (C : World → Prop) (S : Nat → Value → Prop) (i : Nat) (K : Act → Prop) (a : Act) : Prop :=
  match ops[i]? with
  | none => K a
  | some o => if Region.wanted o (yielded ops a.tmps) then gives P C (S i) o a ∧ ∀ v, S i v → K (a.put o.dst v) else K (a.put o.dst undef)

theorem comes_mono {i : Nat} {a : Act} {K K' : Act → Prop} (h : ∀ a, K a → K' a) (hh : comes P ops C S i K a) : comes P ops C S i K' a := by
  unfold comes at *
  split
  · exact h _ (by simpa [*] using hh)
  · rename_i o ho
    simp only [ho] at hh
    split
    · rename_i hw; simp only [hw, if_true] at hh; exact ⟨hh.1, fun v hv => h _ (hh.2 v hv)⟩
    · rename_i hw; simp only [hw] at hh; exact h _ hh

/-- Whatever order is picked. -/
def anyWay (P : Program) (md : Region.Mode) (ops : Array Oper) (C : World → Prop) (S : Nat → Value → Prop) (Q : Act → Prop) : Nat → Array Bool → Act → Prop
  | 0, listed, a => Region.ready md ops listed = [] ∧ Q a
  | fuel + 1, listed, a =>
    (Region.ready md ops listed = [] → Q a) ∧
    ∀ i ∈ Region.ready md ops listed, comes P ops C S i (anyWay P md ops C S Q fuel (listed.setIfInBounds i true)) a

theorem wp_of_gives {o : Oper} {a : Act} {R : Value → Prop} {K' : Act → World → Prop} {Q' : Exit → Act → World → Prop} {w : World} (hw : C w) (hg : gives P C R o a)
    (h : ∀ v w', R v → C w' → K' (a.put o.dst v) w') : o.wp P a w K' Q' := by
  have h3 := hg w hw
  unfold Oper.wp
  generalize (execOp a.eval o).run P w = r at *
  cases r with
  | ok n w' =>
    cases n <;> simp only [lands] at h3 <;> simp only [Oper.upon]
    case value u => exact h _ _ h3.2 h3.1
    case skip => exact h _ _ h3.2 h3.1
    case enter f args => exact h3.mono fun e w'' ⟨v, he, hv, hw''⟩ => by subst he; exact h _ _ hv hw''
  | halt x w' => exact h3.elim

theorem wpOp_of_comes {i : Nat} {a : Act} {K : Act → Prop} {K' : Act → World → Prop} {Q' : Exit → Act → World → Prop} {w : World} (hC : C w) (h : ∀ a w', C w' → K a → K' a w') (hh : comes P ops C S i K a) : wpOp P ops Q' i K' a w := by
  unfold comes at hh
  unfold wpOp
  split
  · rename_i ho; simp only [ho] at hh; exact h _ _ hC hh
  · rename_i o ho
    simp only [ho] at hh
    split
    · rename_i hw; simp only [hw, if_true] at hh; exact .inl (wp_of_gives hC hh.1 fun v w' hv hw' => h _ _ hw' (hh.2 v hv))
    · rename_i hw; simp only [hw] at hh; exact h _ _ hC hh

theorem wpAny_of_anyWay {Q : Act → Prop} {Q' : Exit → Act → World → Prop} (hQ : ∀ a w, C w → Q a → Q' .normal a w) : ∀ (fuel : Nat) (listed : Array Bool) (a : Act) (w : World), C w →
    anyWay P md ops C S Q fuel listed a → wpAny P md ops Q' fuel listed a w
  | 0, _, _, _, hw, h => ⟨h.1, hQ _ _ hw h.2⟩
  | fuel + 1, _, _, _, hw, h => ⟨fun h0 => hQ _ _ hw (h.1 h0), fun i hi => wpOp_of_comes hw (fun a' w' hw' => wpAny_of_anyWay hQ fuel _ a' w' hw') (h.2 i hi)⟩

/-- What is said of an operation's value in this state: by S if it is wanted, that it is undef if not. -/
def says (P : Program) (ops : Array Oper) (C : World → Prop) (S : Nat → Value → Prop) (i : Nat) (o : Oper) (T : Value → Prop) (a : Act) : Prop :=
  (Region.wanted o (yielded ops a.tmps) = true ∧ gives P C (S i) o a ∧ T = S i) ∨ (Region.wanted o (yielded ops a.tmps) = false ∧ T = fun v => v = undef)

theorem says_comes {i : Nat} {o : Oper} {T : Value → Prop} {a : Act} (hi : ops[i]? = some o) (hy : says P ops C S i o T a) {K : Act → Prop} (h : ∀ v, T v → K (a.put o.dst v)) : comes P ops C S i K a := by
  unfold comes
  simp only [hi]
  rcases hy with ⟨hw, hg, rfl⟩ | ⟨hw, rfl⟩
  · simp only [hw, if_true]; exact ⟨hg, h⟩
  · simp only [hw, Bool.false_eq_true, if_false]; exact h _ rfl

theorem says_some {i : Nat} {o : Oper} {T : Value → Prop} {a : Act} (hC : ∃ w, C w) (hy : says P ops C S i o T a) : ∃ v, T v := by
  rcases hy with ⟨_, hg, rfl⟩ | ⟨_, rfl⟩
  · obtain ⟨w, hw⟩ := hC; exact lands_some (hg w hw)
  · exact ⟨_, rfl⟩

theorem says_same {i : Nat} {o : Oper} {T : Value → Prop} {a a' : Act} (hy : says P ops C S i o T a) (he : execOp a'.eval o = execOp a.eval o)
    (hw : Region.wanted o (yielded ops a'.tmps) = Region.wanted o (yielded ops a.tmps)) : says P ops C S i o T a' := by
  unfold says gives at *
  rw [he, hw]
  exact hy

/-- An operation j, apart from i, may come up ahead of it. -/
theorem comes_put {i j : Nat} {oi oj : Oper} {T : Value → Prop} (hC : ∃ w, C w) (hj : ops[j]? = some oj) (hap : oi.apart ops oj = true)
    (hsi : ∀ cs b, oi.op ≠ .select cs b) (hsj : ∀ cs b, oj.op ≠ .select cs b) {K : Act → Prop} {a : Act}
    (hy : says P ops C S i oi T a) (h : ∀ v, T v → comes P ops C S j K (a.put oi.dst v)) :
    comes P ops C S j (fun a' => says P ops C S i oi T a' ∧ ∀ v, T v → K (a'.put oi.dst v)) a := by
  obtain ⟨h1, h2, h3⟩ := Oper.apart_spec hap
  have keep : ∀ u, says P ops C S i oi T (a.put oj.dst u) := fun u => says_same hy (execOp_put oi hsi a oj.dst u h3) (wanted_put oi a oj.dst u h3)
  obtain ⟨v0, hv0⟩ := says_some hC hy
  unfold comes at *
  simp only [hj] at *
  have hwv : ∀ v, Region.wanted oj (yielded ops (a.put oi.dst v).tmps) = Region.wanted oj (yielded ops a.tmps) := fun v => wanted_put oj a oi.dst v h1
  simp only [hwv] at h
  split
  · rename_i hw
    simp only [hw, if_true] at h
    refine ⟨?_, fun u hu => ⟨keep u, fun v hv => ?_⟩⟩
    · have := (h v0 hv0).1
      unfold gives at *
      rwa [execOp_put oj hsj a oi.dst v0 h1] at this
    · rw [← Act.put_comm a v u h2]; exact (h v hv).2 u hu
  · rename_i hw
    simp only [hw] at h
    refine ⟨keep _, fun v hv => ?_⟩
    rw [← Act.put_comm a v undef h2]; exact h v hv

theorem anyWay_first {Q : Act → Prop} {i : Nat} {oi : Oper} {T : Value → Prop} (hC : ∃ w, C w) (hi : ops[i]? = some oi) (hsel : ∀ (j : Nat) (o : Oper) cs b, ops[j]? = some o → o.op ≠ .select cs b) :
    ∀ (fuel : Nat) (listed : Array Bool) (a : Act),
      (∀ j oj, ops[j]? = some oj → j ≠ i → listed.getD j true = false → (∀ e ∈ oj.after, Region.binds md e = true → e.on ≠ i) → oi.apart ops oj = true) →
      i ∈ Region.ready md ops listed → says P ops C S i oi T a →
      (∀ v, T v → anyWay P md ops C S Q fuel (listed.setIfInBounds i true) (a.put oi.dst v)) → anyWay P md ops C S Q (fuel + 1) listed a := by
  intro fuel
  induction fuel with
  | zero =>
    intro listed a _ hr hy H
    refine ⟨fun h => (by rw [h] at hr; cases hr), fun j hj => ?_⟩
    by_cases hji : j = i
    · subst hji; exact says_comes hi hy H
    · obtain ⟨v0, hv0⟩ := says_some hC hy
      have := ready_mono hj hji
      rw [(H v0 hv0).1] at this
      cases this
  | succ fuel ih =>
    intro listed a hfree hr hy H
    refine ⟨fun h => (by rw [h] at hr; cases hr), fun j hj => ?_⟩
    by_cases hji : j = i
    · subst hji; exact says_comes hi hy H
    · obtain ⟨hjun, oj, hoj, hall⟩ := mem_ready.1 hj
      have hnot : ∀ e ∈ oj.after, Region.binds md e = true → e.on ≠ i := fun e he hb heq => by
        have h1 := hall e he hb
        have h0 := (mem_ready.1 hr).1
        rw [heq] at h1
        rcases Nat.lt_or_ge i listed.size with h' | h'
        · simp [h'] at h0 h1; rw [h0] at h1; cases h1
        · simp [Array.getElem?_eq_none h'] at h1
      have h2 := comes_put hC hoj (hfree j oj hoj hji hjun hnot) (fun cs b => hsel i oi cs b hi) (fun cs b => hsel j oj cs b hoj) hy (fun v hv => (H v hv).2 j (ready_mono hj hji))
      have hfree' : ∀ k ok, ops[k]? = some ok → k ≠ i → (listed.setIfInBounds j true).getD k true = false →
          (∀ e ∈ ok.after, Region.binds md e = true → e.on ≠ i) → oi.apart ops ok = true := fun k ok hk hki hun hno => by
        refine hfree k ok hk hki ?_ hno
        by_cases hjk : j = k
        · subst hjk; exact hjun
        · rw [getD_set_ne true hjk] at hun; exact hun
      refine comes_mono (fun a' h3 => ih (listed.setIfInBounds j true) a' hfree' (ready_mono hr (Ne.symm hji)) h3.1 fun v hv => ?_) h2
      rw [Array.setIfInBounds_comm _ _ hji]
      exact h3.2 v hv

theorem anyWay_lex {Q : Act → Prop} (hC : ∃ w, C w) (hs : Region.noSelect ops = true) : ∀ (l : List Oper) (k : Nat) (listed : Array Bool) (a : Act), (∀ j, l[j]? = ops[k + j]?) →
    Region.lexFrom md ops l.length k listed = true → walk P ops C S Q k l a → anyWay P md ops C S Q l.length listed a
  | [], _, _, _, _, hB, h => ⟨by simpa [Region.lexFrom] using hB, h⟩
  | o :: l, k, listed, a, hl, hB, h => by
    have h0 : ops[k]? = some o := by simpa using (hl 0).symm
    simp only [List.length_cons, Region.lexFrom, Bool.and_eq_true] at hB
    obtain ⟨⟨hr, hf⟩, hB'⟩ := hB
    have hl' : ∀ j, l[j]? = ops[k + 1 + j]? := fun j => by have := hl (j + 1); simpa [Nat.add_assoc, Nat.add_comm 1 j] using this
    unfold walk at h
    by_cases hw : Region.wanted o (yielded ops a.tmps) = true
    · rw [if_pos hw] at h
      exact anyWay_first hC h0 (Region.noSelect_spec hs) l.length listed a (Region.free_spec h0 hf) (by simpa using hr) (.inl ⟨hw, h.1, rfl⟩)
        (fun v hv => anyWay_lex hC hs l (k + 1) _ _ hl' hB' (h.2 v hv))
    · rw [if_neg hw] at h
      exact anyWay_first hC h0 (Region.noSelect_spec hs) l.length listed a (Region.free_spec h0 hf) (by simpa using hr) (.inr ⟨by simpa using hw, rfl⟩)
        (fun v hv => by subst hv; exact anyWay_lex hC hs l (k + 1) _ _ hl' hB' h)

/-- **One walk in the order of the text serves every order.** -/
theorem wp_region {id : Nat} {Q : Exit → Act → World → Prop} {a : Act} {w : World} {l : List Oper} (S : Nat → Value → Prop) (hm : P.follows .mixedOrders = true) (hB : Region.lexB .any l.toArray = true)
    (h : walk P l.toArray (fun w' => ∃ n, w' = w.drewN n) S (fun a' => ∀ n, Q .normal a' (w.drewN n)) 0 l a) : (Code.region id l.toArray true).wp P Q a w := by
  simp only [Region.lexB, Bool.and_eq_true] at hB
  have hC0 : (fun w' => ∃ n, w' = w.drewN n) { w with drawn := w.drawn + 1 } := ⟨1, rfl⟩
  refine wp_region_any hm (wpAny_of_anyWay (C := fun w' => ∃ n, w' = w.drewN n) (S := S) (Q := fun a' => ∀ n, Q .normal a' (w.drewN n)) (fun _ w' ⟨n, hn⟩ h => by subst hn; exact h n) _ _ _ _ hC0 ?_)
  have := anyWay_lex (C := fun w' => ∃ n, w' = w.drewN n) (S := S) (md := .any) (Q := fun a' => ∀ n, Q .normal a' (w.drewN n)) ⟨_, hC0⟩ hB.1 l 0 (Array.replicate l.length false) a (by simp) (by simpa using hB.2) h
  simpa using this

/-! ### steps -/
def nth (Rs : List (Value → Prop)) (i : Nat) : Value → Prop := Rs.getD i (fun _ => False)

/-- One predicate for each operation, chosen before the walk begins. -/
def start : List Oper → (List (Value → Prop) → Prop) → Prop
  | [], k => k []
  | _ :: l, k => ∃ R, start l (fun rs => k (R :: rs))
theorem start_cons {o : Oper} {l : List Oper} {k : List (Value → Prop) → Prop} {R : Value → Prop} (h : start l (fun rs => k (R :: rs))) : start (o :: l) k := ⟨R, h⟩
theorem start_nil {k : List (Value → Prop) → Prop} (h : k []) : start [] k := h
theorem start_some : ∀ {l : List Oper} {k : List (Value → Prop) → Prop}, start l k → ∃ rs, k rs
  | [], _, h => ⟨[], h⟩
  | _ :: _, _, ⟨R, h⟩ => let ⟨rs, h'⟩ := start_some h; ⟨R :: rs, h'⟩

theorem wp_start {id : Nat} {Q : Exit → Act → World → Prop} {a : Act} {w : World} {l : List Oper} (hm : P.follows .mixedOrders = true) (hB : Region.lexB .any l.toArray = true)
    (h : start l (fun Rs => walk P l.toArray (fun w' => ∃ n, w' = w.drewN n) (nth Rs) (fun a' => ∀ n, Q .normal a' (w.drewN n)) 0 l a)) : (Code.region id l.toArray true).wp P Q a w :=
  let ⟨Rs, h'⟩ := start_some h
  wp_region (nth Rs) hm hB h'

variable {w : World} {Q : Act → Prop} {i : Nat} {o : Oper} {rest : List Oper} {a : Act}

theorem walk_nil (h : Q a) : walk P ops C S Q i [] a := h
theorem walk_skip (hw : Region.wanted o (yielded ops a.tmps) = false) {b : Act} (hput : a.put o.dst undef = b) (h : walk P ops C S Q (i + 1) rest b) : walk P ops C S Q i (o :: rest) a := by
  unfold walk; rw [hw, if_neg (by simp), hput]; exact h
theorem walk_step {R : Value → Prop} (hw : Region.wanted o (yielded ops a.tmps) = true) (hg : gives P C R o a) (hS : S i = R) (h : ∀ v, R v → walk P ops C S Q (i + 1) rest (a.put o.dst v)) :
    walk P ops C S Q i (o :: rest) a := by
  unfold walk; rw [if_pos hw, hS]; exact ⟨hg, h⟩

attribute [irreducible] walk

/-- An operation with one value. -/
theorem step_eq {u : Value} (hw : Region.wanted o (yielded ops a.tmps) = true) (hrun : ∀ n, (execOp a.eval o).run P (w.drewN n) = .ok (.value u) (w.drewN n)) (hS : S i = fun v => v = u) {b : Act} (hput : a.put o.dst u = b)
    (h : walk P ops (fun w' => ∃ n, w' = w.drewN n) S Q (i + 1) rest b) : walk P ops (fun w' => ∃ n, w' = w.drewN n) S Q i (o :: rest) a :=
  walk_step hw (fun w' ⟨n, hn⟩ => by subst hn; rw [hrun]; exact ⟨⟨n, rfl⟩, rfl⟩) hS (fun v hv => by subst hv; rw [hput]; exact h)

/-- A call with one value. -/
theorem step_call {f : FuncId} {args : Array Value} {u : Value} (hw : Region.wanted o (yielded ops a.tmps) = true) (hrun : ∀ n, (execOp a.eval o).run P (w.drewN n) = .ok (.enter f args) (w.drewN n))
    (hc : ∀ n, Calls P f args (w.drewN n) (fun e w' => e = .returned u ∧ ∃ m, w' = (w.drewN n).drewN m)) (hS : S i = fun v => v = u) {b : Act} (hput : a.put o.dst u = b)
    (h : walk P ops (fun w' => ∃ n, w' = w.drewN n) S Q (i + 1) rest b) : walk P ops (fun w' => ∃ n, w' = w.drewN n) S Q i (o :: rest) a :=
  walk_step hw (fun w' ⟨n, hn⟩ => by
    subst hn; rw [hrun]
    exact (hc n).mono fun e w'' ⟨he, m, hm⟩ => ⟨u, he, rfl, n + m, by rw [hm]; exact World.drewN_drewN ..⟩) hS (fun v hv => by subst hv; rw [hput]; exact h)

theorem same_world {f : FuncId} {args : Array Value} {u : Value} (h : Calls P f args w (fun e w' => e = .returned u ∧ w = w')) : Calls P f args w (fun e w' => e = .returned u ∧ ∃ m, w' = w.drewN m) :=
  h.mono fun _ _ ⟨he, hw⟩ => ⟨he, 0, hw ▸ rfl⟩

open Go.Fl
/-- A call that answers a float. -/
theorem step_callF {f : FuncId} {args : Array Value} {k : FloatKind} {X : Nat} (hw : Region.wanted o (yielded ops a.tmps) = true) (hrun : ∀ n, (execOp a.eval o).run P (w.drewN n) = .ok (.enter f args) (w.drewN n))
    (hc : ∀ n, Calls P f args (w.drewN n) (fun e w' => (∃ r, e = .returned (.float k r) ∧ Is k r X) ∧ ∃ m, w' = (w.drewN n).drewN m)) (hS : S i = fun v => ∃ r, v = .float k r ∧ Is k r X)
    {b : Nat → Act} (hput : ∀ r, a.put o.dst (.float k r) = b r)
    (h : ∀ r, Is k r X → walk P ops (fun w' => ∃ n, w' = w.drewN n) S Q (i + 1) rest (b r)) : walk P ops (fun w' => ∃ n, w' = w.drewN n) S Q i (o :: rest) a :=
  walk_step hw (fun w' ⟨n, hn⟩ => by
    subst hn; rw [hrun]
    exact (hc n).mono fun e w'' ⟨⟨r, he, hr⟩, m, hm⟩ => ⟨_, he, ⟨r, rfl, hr⟩, n + m, by rw [hm]; exact World.drewN_drewN ..⟩) hS (fun v ⟨r, hv, hr⟩ => by subst hv; rw [hput]; exact h r hr)

section
variable {dst : Option Tmp} {xt yt ty sx dx : TypeId} {X Y : Operand} {pos : String} {after : Array Edge} {gd : Option (Nat × Bool)}

theorem step_fa (op : BinOp) (hw : Region.wanted ⟨dst, .binOp op xt X Y yt, ty, pos, after, gd⟩ (yielded ops a.tmps) = true) (hop : isArith op = true) (k : FloatKind) (x y : Nat) (hX : a.eval X = .float k x) (hY : a.eval Y = .float k y)
    {x' y' : Nat} (ix : Is k x x') (iy : Is k y y') (hS : S i = fun v => ∃ r, v = .float k r ∧ Is k r (fop op k x' y'))
    {c : Nat → Act} (hput : ∀ r, a.put dst (.float k r) = c r) (h : ∀ r, Is k r (fop op k x' y') → walk P ops (fun w' => ∃ n, w' = w.drewN n) S Q (i + 1) rest (c r)) :
    walk P ops (fun w' => ∃ n, w' = w.drewN n) S Q i (⟨dst, .binOp op xt X Y yt, ty, pos, after, gd⟩ :: rest) a := by
  refine walk_step hw (fun w' ⟨n, hn⟩ => ?_) hS (fun v ⟨r, hv, hr⟩ => by subst hv; rw [hput]; exact h r hr)
  subst hn
  obtain ⟨r, m, hrun, hr⟩ := run_farith (P := P) (w.drewN n) op hop xt k x y
  have hg : ∀ u v : Value, eqGuard op xt X Y u v = pure () := by
    intro u v; cases op <;> first | rfl | (simp [isArith] at hop; done)
  rw [ix.fop iy] at hr
  simp [execOp, hX, hY, hg, hrun, Result.andThen]
  exact ⟨⟨n + m, rfl⟩, r, rfl, hr⟩

theorem step_fc (op : BinOp) (hw : Region.wanted ⟨dst, .binOp op xt X Y yt, ty, pos, after, gd⟩ (yielded ops a.tmps) = true) (hop : isCmp op = true) (k : FloatKind) (x y : Nat) (hX : a.eval X = .float k x) (hY : a.eval Y = .float k y)
    {x' y' : Nat} (ix : Is k x x') (iy : Is k y y') {b : Bool} (hb : fcmp op k x' y' = b) (hS : S i = fun v => v = .bool b) {c : Act} (hput : a.put dst (.bool b) = c)
    (h : walk P ops (fun w' => ∃ n, w' = w.drewN n) S Q (i + 1) rest c) :
    walk P ops (fun w' => ∃ n, w' = w.drewN n) S Q i (⟨dst, .binOp op xt X Y yt, ty, pos, after, gd⟩ :: rest) a := by
  refine step_eq hw (fun n => ?_) hS hput h
  subst hb
  have hrun : (binOp op xt (.float k x) (.float k y)).run P (w.drewN n) = .ok (.bool (fcmp op k x' y')) (w.drewN n) := by
    have e := ix.order iy
    cases op <;> first | (simp [isCmp] at hop; done) | simp [binOp, Op.floatCmp, fcmp, e]
  have hg : (eqGuard op xt X Y (.float k x) (.float k y)) = pure () := by
    cases op <;> first | rfl | (simp [isCmp] at hop; done)
  simp [execOp, hX, hY, hg, hrun, Result.andThen]

theorem step_wid (b : Nat) (hw : Region.wanted ⟨dst, .convert sx dx X, ty, pos, after, gd⟩ (yielded ops a.tmps) = true) (hX : a.eval X = .float .f32 b) {b' : Nat} (ib : Is .f32 b b')
    (hs : P.underlying sx = some (.float .f32)) (hd : P.underlying dx = some (.float .f64)) (hS : S i = fun v => ∃ r, v = .float .f64 r ∧ Is .f64 r (wid b'))
    {c : Nat → Act} (hput : ∀ r, a.put dst (.float .f64 r) = c r) (h : ∀ r, Is .f64 r (wid b') → walk P ops (fun w' => ∃ n, w' = w.drewN n) S Q (i + 1) rest (c r)) :
    walk P ops (fun w' => ∃ n, w' = w.drewN n) S Q i (⟨dst, .convert sx dx X, ty, pos, after, gd⟩ :: rest) a := by
  refine walk_step hw (fun w' ⟨n, hn⟩ => ?_) hS (fun v ⟨r, hv, hr⟩ => by subst hv; rw [hput]; exact h r hr)
  subst hn
  obtain ⟨r, m, hrun, hr⟩ := run_wid (P := P) (w.drewN n) sx dx b (by rw [hs]; rfl) hd
  rw [← wid_cn, ib.eq] at hr
  simp [execOp, hX, hrun, Result.andThen]
  exact ⟨⟨n + m, rfl⟩, r, rfl, hr⟩

theorem step_nar (b : Nat) (hw : Region.wanted ⟨dst, .convert sx dx X, ty, pos, after, gd⟩ (yielded ops a.tmps) = true) (hX : a.eval X = .float .f64 b) {b' : Nat} (ib : Is .f64 b b')
    (hs : P.underlying sx = some (.float .f64)) (hd : P.underlying dx = some (.float .f32)) (hf : fits b') (hS : S i = fun v => ∃ r, v = .float .f32 r ∧ Is .f32 r (nar b'))
    {c : Nat → Act} (hput : ∀ r, a.put dst (.float .f32 r) = c r) (h : ∀ r, Is .f32 r (nar b') → walk P ops (fun w' => ∃ n, w' = w.drewN n) S Q (i + 1) rest (c r)) :
    walk P ops (fun w' => ∃ n, w' = w.drewN n) S Q i (⟨dst, .convert sx dx X, ty, pos, after, gd⟩ :: rest) a := by
  refine walk_step hw (fun w' ⟨n, hn⟩ => ?_) hS (fun v ⟨r, hv, hr⟩ => by subst hv; rw [hput]; exact h r hr)
  subst hn
  obtain ⟨r, m, hrun, hr⟩ := run_nar (P := P) (w.drewN n) sx dx b (by rw [hs]; rfl) hd ((fits_cn b).1 (by rw [ib.eq]; exact hf))
  rw [← nar_cn, ib.eq] at hr
  simp [execOp, hX, hrun, Result.andThen]
  exact ⟨⟨n + m, rfl⟩, r, rfl, hr⟩

theorem step_same (k : FloatKind) (b : Nat) (hw : Region.wanted ⟨dst, .convert sx dx X, ty, pos, after, gd⟩ (yielded ops a.tmps) = true) (hX : a.eval X = .float k b)
    (hs : P.underlying sx = some (.float k)) (hd : P.underlying dx = some (.float k)) {b' : Nat} (ib : Is k b b') (hS : S i = fun v => ∃ r, v = .float k r ∧ Is k r b')
    {c : Nat → Act} (hput : ∀ r, a.put dst (.float k r) = c r) (h : ∀ r, Is k r b' → walk P ops (fun w' => ∃ n, w' = w.drewN n) S Q (i + 1) rest (c r)) :
    walk P ops (fun w' => ∃ n, w' = w.drewN n) S Q i (⟨dst, .convert sx dx X, ty, pos, after, gd⟩ :: rest) a := by
  refine walk_step hw (fun w' ⟨n, hn⟩ => ?_) hS (fun v ⟨r, hv, hr⟩ => by subst hv; rw [hput]; exact h r hr)
  subst hn
  have hrun := run_convert_float_float (P := P) (w.drewN n) sx dx k k b b (by rw [hs]; rfl) hd (by simp [floatToFloatBits])
  simp [execOp, hX, hrun, Result.andThen]
  exact ⟨⟨n, rfl⟩, b, rfl, ib⟩

theorem step_assign (k : FloatKind) (b : Nat) (hw : Region.wanted ⟨dst, .assign X, ty, pos, after, gd⟩ (yielded ops a.tmps) = true) (hX : a.eval X = .float k b) {b' : Nat} (ib : Is k b b')
    (hS : S i = fun v => ∃ r, v = .float k r ∧ Is k r b') {c : Nat → Act} (hput : ∀ r, a.put dst (.float k r) = c r) (h : ∀ r, Is k r b' → walk P ops (fun w' => ∃ n, w' = w.drewN n) S Q (i + 1) rest (c r)) :
    walk P ops (fun w' => ∃ n, w' = w.drewN n) S Q i (⟨dst, .assign X, ty, pos, after, gd⟩ :: rest) a := by
  refine walk_step hw (fun w' ⟨n, hn⟩ => ?_) hS (fun v ⟨r, hv, hr⟩ => by subst hv; rw [hput]; exact h r hr)
  subst hn
  simp [execOp, hX]
  exact ⟨⟨n, rfl⟩, b, rfl, ib⟩

theorem step_move (k : FloatKind) (b : Nat) (hw : Region.wanted ⟨dst, .move X, ty, pos, after, gd⟩ (yielded ops a.tmps) = true) (hX : a.eval X = .float k b) {b' : Nat} (ib : Is k b b')
    (hS : S i = fun v => ∃ r, v = .float k r ∧ Is k r b') {c : Nat → Act} (hput : ∀ r, a.put dst (.float k r) = c r) (h : ∀ r, Is k r b' → walk P ops (fun w' => ∃ n, w' = w.drewN n) S Q (i + 1) rest (c r)) :
    walk P ops (fun w' => ∃ n, w' = w.drewN n) S Q i (⟨dst, .move X, ty, pos, after, gd⟩ :: rest) a := by
  refine walk_step hw (fun w' ⟨n, hn⟩ => ?_) hS (fun v ⟨r, hv, hr⟩ => by subst hv; rw [hput]; exact h r hr)
  subst hn
  simp [execOp, hX]
  exact ⟨⟨n, rfl⟩, b, rfl, ib⟩
end
end
end Go.Loose
