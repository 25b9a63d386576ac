/- The calendar and what date's functions answer, each as one function of its arguments; events in memory. -/
import Derived.Test.YtlbfnafniobnaaaDoorDlH
import Derived.Test.YtlbfnafniobnaaaDoorDtK
import Derived.Test.YtlbfnafniobnaaaDoorDtD
namespace Go.Proofs.YtlbfnafniobnaaaDoor
open Go.RowKit Go.Shelf

/-- a calendar -/
structure Cal where
  b0 : Bool
  b1 : Bool
  b2 : Bool
  b3 : Bool
  b4 : Bool
  b5 : Bool
  b6 : Bool
  p : Option Addr
  cap : Nat
  hs : List Int
def CalV (c : Cal) : Value := .agg #[.bool c.b0, .bool c.b1, .bool c.b2, .bool c.b3, .bool c.b4, .bool c.b5, .bool c.b6, .slice c.p c.hs.length c.cap]
def CalOK (c : Cal) : Prop := VP c.b0 c.b1 c.b2 c.b3 c.b4 c.b5 c.b6 c.hs
def CalIn (w : World) (c : Cal) : Prop := Hols w c.p c.hs
theorem CalIn.below {w w' : World} {c : Cal} (h : CalIn w c) (hb : Below w.heap.size w w') : CalIn w' c := Hols.below h hb
open Classical in
theorem calvalid_any (c : Cal) (w : World) (h : CalIn w c) : Calls Tryd.prog 20 #[.agg #[.bool c.b0, .bool c.b1, .bool c.b2, .bool c.b3, .bool c.b4, .bool c.b5, .bool c.b6, .slice c.p c.hs.length c.cap]] w fun e w' => e = .returned (.bool (decide (CalOK c))) ∧ Below w.heap.size w w' := by
  by_cases hv : CalOK c
  · rw [decide_eq_true hv]
    exact valid_true c.b0 c.b1 c.b2 c.b3 c.b4 c.b5 c.b6 c.p _ c.cap c.hs w rfl hv h
  · rw [decide_eq_false hv]
    exact valid_false c.b0 c.b1 c.b2 c.b3 c.b4 c.b5 c.b6 c.p _ c.cap c.hs w rfl hv h
def Cal.wk (c : Cal) : Nat → Bool := Dt.wk c.b0 c.b1 c.b2 c.b3 c.b4 c.b5 c.b6
open Classical in
noncomputable def FA (c : Cal) (a m : Int) : Int × Int := if CalOK c ∧ 0 ≤ a ∧ a ≤ 73048 ∧ 0 ≤ m then Dt.add c.wk c.hs a.toNat m else (0, 1)
open Classical in
noncomputable def FN (c : Cal) (a : Int) : Int × Int := if CalOK c ∧ 0 ≤ a ∧ a ≤ 73048 then Dt.add c.wk c.hs a.toNat 0 else (0, 1)
open Classical in
noncomputable def FB (c : Cal) (a : Int) : Bool := if CalOK c ∧ 0 ≤ a ∧ a ≤ 73048 then Dt.busy c.wk c.hs a.toNat else false
theorem add_calls (c : Cal) (a m : Int) (w : World) (hh : CalIn w c) : Calls Tryd.prog 44 #[.agg #[.bool c.b0, .bool c.b1, .bool c.b2, .bool c.b3, .bool c.b4, .bool c.b5, .bool c.b6, .slice c.p c.hs.length c.cap], .int .i64 a, .int .i64 m] w fun e w' => e = .returned (IV (FA c a m)) ∧ Below w.heap.size w w' := by
  unfold FA
  split
  · rename_i h
    have := add_valid c.b0 c.b1 c.b2 c.b3 c.b4 c.b5 c.b6 c.p _ c.cap c.hs a.toNat m w rfl hh h.1 (by omega) h.2.2.2
    rwa [show ((a.toNat : Nat) : Int) = a by omega] at this
  · rename_i h
    exact add_arg c.b0 c.b1 c.b2 c.b3 c.b4 c.b5 c.b6 c.p _ c.cap c.hs a m w rfl hh h
theorem next_calls (c : Cal) (a : Int) (w : World) (hh : CalIn w c) : Calls Tryd.prog 48 #[.agg #[.bool c.b0, .bool c.b1, .bool c.b2, .bool c.b3, .bool c.b4, .bool c.b5, .bool c.b6, .slice c.p c.hs.length c.cap], .int .i64 a] w fun e w' => e = .returned (IV (FN c a)) ∧ Below w.heap.size w w' := by
  unfold FN
  split
  · rename_i h
    have := next_valid c.b0 c.b1 c.b2 c.b3 c.b4 c.b5 c.b6 c.p _ c.cap c.hs a.toNat w rfl hh h.1 (by omega)
    rwa [show ((a.toNat : Nat) : Int) = a by omega] at this
  · rename_i h
    exact next_arg c.b0 c.b1 c.b2 c.b3 c.b4 c.b5 c.b6 c.p _ c.cap c.hs a w rfl hh h
theorem business_calls (c : Cal) (a : Int) (w : World) (hh : CalIn w c) : Calls Tryd.prog 16 #[.agg #[.bool c.b0, .bool c.b1, .bool c.b2, .bool c.b3, .bool c.b4, .bool c.b5, .bool c.b6, .slice c.p c.hs.length c.cap], .int .i64 a] w fun e w' => e = .returned (.bool (FB c a)) ∧ Below w.heap.size w w' := by
  unfold FB
  split
  · rename_i h
    have := business_in c.b0 c.b1 c.b2 c.b3 c.b4 c.b5 c.b6 c.p _ c.cap c.hs a.toNat w rfl h.1 hh (by omega)
    rwa [show ((a.toNat : Nat) : Int) = a by omega] at this
  · rename_i h
    by_cases hv : CalOK c
    · exact business_out c.b0 c.b1 c.b2 c.b3 c.b4 c.b5 c.b6 c.p _ c.cap c.hs a w rfl hv hh (fun hd => h ⟨hv, hd.1, hd.2⟩)
    · exact business_bad c.b0 c.b1 c.b2 c.b3 c.b4 c.b5 c.b6 c.p _ c.cap c.hs a w rfl hv hh
open Classical in
noncomputable def FM (a k : Int) : Int × Int := if h : 0 ≤ a ∧ a ≤ 73048 then Dt.mon (Dt.civ_exists h.1 h.2).choose (Dt.civ_exists h.1 h.2).choose_spec.choose (Dt.civ_exists h.1 h.2).choose_spec.choose_spec.choose k else (0, 1)
theorem months_eq {a k y m d : Int} (h : Dt.IsCiv a y m d) : FM a k = Dt.mon y m d k := by
  unfold FM
  have hr := Dt.civ_range h
  rw [dif_pos hr]
  have hs := (Dt.civ_exists hr.1 hr.2).choose_spec.choose_spec.choose_spec
  have key : ∀ u v x, Dt.IsCiv a u v x → Dt.mon u v x k = Dt.mon y m d k := fun u v x hx => by
    obtain ⟨rfl, rfl, rfl⟩ := Dt.civ_unique hx h
    rfl
  exact key _ _ _ hs
theorem months_calls (a k : Int) (w : World) (hE : Env w) (h0 : -2400 ≤ k) (h1 : k ≤ 2400) : Calls Tryd.prog 46 #[.int .i64 a, .int .i64 k] w fun e w' => e = .returned (IV (FM a k)) ∧ Below w.heap.size w w' := by
  by_cases h : 0 ≤ a ∧ a ≤ 73048
  · obtain ⟨y, m, d, hc⟩ := Dt.civ_exists h.1 h.2
    rw [months_eq hc]
    exact months_in a y m d k w hc h0 h1 hE
  · unfold FM
    rw [dif_neg h]
    exact months_bad a k w h

/-- an event: whether it is known, its day and minute -/
structure Wh where
  known : Bool
  day : Int
  minute : Int
def WhV (e : Wh) : Value := .agg #[.bool e.known, .int .i64 e.day, .int .i64 e.minute]
def WhC (w : World) (b o : Nat) (e : Wh) : Prop := w.cell? ⟨b, o, none⟩ = some (.bool e.known) ∧ w.cell? ⟨b, o + 1, none⟩ = some (.int .i64 e.day) ∧ w.cell? ⟨b, o + 2, none⟩ = some (.int .i64 e.minute)
/-- events in memory -/
def EvAt (w : World) (q : Option Addr) (l : List Wh) : Prop := l = [] ∨ ∃ b off, q = some ⟨b, off, none⟩ ∧ ∀ (j : Nat) e, l[j]? = some e → WhC w b (off + j * 3) e
theorem EvAt.below {w w' : World} {q : Option Addr} {l : List Wh} (h : EvAt w q l) (hb : Below w.heap.size w w') : EvAt w' q l := by
  refine h.imp id ?_
  rintro ⟨b, off, hq, h⟩
  exact ⟨b, off, hq, fun j e he => ⟨cell_keep hb (h j e he).1, cell_keep hb (h j e he).2.1, cell_keep hb (h j e he).2.2⟩⟩
theorem EvAt.at {w : World} {q : Option Addr} {l : List Wh} (h : EvAt w q l) {j : Nat} {e : Wh} (he : l[j]? = some e) : ∃ b off, q = some ⟨b, off, none⟩ ∧ WhC w b (off + j * 3) e ∧ b < w.heap.size := by
  rcases h with rfl | ⟨b, off, hq, h⟩
  · simp at he
  · exact ⟨b, off, hq, h j e he, World.block_lt_of_cell? w _ (h j e he).1⟩
/-- whole numbers in memory, at an address -/
def IntsAt (w : World) (g off : Nat) (ds : List Int) : Prop := ∀ j, j < ds.length → w.cell? ⟨g, off + j, none⟩ = some (.int .i64 (ds.getD j 0))
theorem IntsAt.below {w w' : World} {g off : Nat} {ds : List Int} (h : IntsAt w g off ds) (hb : Below w.heap.size w w') : IntsAt w' g off ds := fun j hj => cell_keep hb (h j hj)
end Go.Proofs.YtlbfnafniobnaaaDoor
