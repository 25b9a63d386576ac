/- DeadlineCuts: the law; opening a list of events. -/
import Derived.Test.YtlbfnafniobnaaaDoorDmA
import Derived.Test.YtlbfnafniobnaaaDoorDtOc
import Derived.ChangeSame
import Derived.Deep.Strs
namespace Go.Proofs.YtlbfnafniobnaaaDoor
open Go.ChangeShapes Go.WideShapes Go.ChangeAt Go.WideMaps Go.WideElems Go.RowKit Go.Joins Go.Shelf

theorem cuts_law (c : Cal) (q : Option Addr) (capq : Nat) (l : List Wh) (raw minute : Int) (w : World) (hc : CalIn w c) (hl : EvAt w q l) (he : Env w) (r0 : 0 ≤ raw) (r1 : raw ≤ 255) : Calls Tryd.prog 8 #[.agg #[.bool c.b0, .bool c.b1, .bool c.b2, .bool c.b3, .bool c.b4, .bool c.b5, .bool c.b6, .slice c.p c.hs.length c.cap], .slice q l.length capq, .int .u8 raw, .int .i64 minute] w fun e w' => e = .returned (.bool true) ∧ Below w.heap.size w w' := by
  by_cases h0 : l.length = 0
  · exact cuts_none c q capq l raw minute w hc hl he h0
  by_cases h4 : 40 < (l.length : Int)
  · exact cuts_many c q capq l raw minute w hc hl he h0 h4
  have hln : l.length ≤ 40 := by omega
  have p1 := Int.tmod_nonneg (l.length : Int) r0
  have p2 := Int.tmod_lt_of_pos raw (show (0 : Int) < (l.length : Int) by omega)
  obtain ⟨j, hm⟩ : ∃ j : Nat, Int.tmod raw (l.length : Int) = (j : Int) := ⟨(Int.tmod raw (l.length : Int)).toNat, by omega⟩
  have hj : j < l.length := by omega
  obtain ⟨e, hje⟩ : ∃ e, l[j]? = some e := ⟨_, List.getElem?_eq_getElem hj⟩
  have k2 := leaf_eval c l 2 0 j e (.inl rfl) hje hln (by omega) (by simp)
  by_cases hcg : CalOK c ∧ goodE l = true
  · rw [if_pos hcg] at k2
    cases hk : e.known with
    | false =>
      rw [hk, if_neg (by simp)] at k2
      exact cuts_a0 c q capq l raw minute w hc hl he r0 r1 j hm hj hln h0 k2
    | true =>
      obtain ⟨d0, d1, m0, m1⟩ := good_at hcg.2 hje hk
      rw [hk, if_pos rfl] at k2
      have k2 : evalS (lf 2 0 j) c l = (e.day, true, 0) := by simpa [show ¬ 73048 < e.day by omega] using k2
      by_cases hlo : minute < 0
      · exact cuts_lo c q capq l raw minute e.day w hc hl he r0 r1 j hm hj hln h0 k2 (leaf_bad _ _ _ (.inl hlo)) hlo
      by_cases hhi : 1440 < minute
      · exact cuts_hi c q capq l raw minute e.day w hc hl he r0 r1 j hm hj hln h0 k2 (leaf_bad _ _ _ (.inr hhi)) hhi hlo
      have cut : ∀ n : Int, 0 ≤ n → n ≤ 1440 → evalS (lf 3 n j) c l = if 73048 < cutD e n then (0, false, 2) else (cutD e n, true, 0) := fun n h0 h1 => by
        have := leaf_eval c l 3 n j e (.inr rfl) hje hln h0 (by simpa using h1)
        rw [if_pos hcg, hk, if_pos rfl] at this
        simpa using this
      have ka := cut 1440 (by omega) (by omega)
      have kb := cut 0 (by omega) (by omega)
      have kc := cut minute (by omega) (by omega)
      unfold cutD at ka kb kc
      rw [if_neg (show ¬ (1440 : Int) ≤ e.minute by omega), if_neg (by omega)] at ka
      rw [if_pos (show (0 : Int) ≤ e.minute by omega)] at kb
      obtain ⟨b, off, rfl, hw, _⟩ := hl.at hje
      by_cases hd : e.day = 73048
      · rw [if_pos (by omega)] at kb
        by_cases hg : minute ≤ e.minute
        · rw [if_pos hg, if_pos (by omega)] at kc
          exact cuts_in1 c b off capq l raw minute e.day e w hc hl he r0 r1 j hm hj hln h0 hlo hhi hw rfl k2 ka kb kc hd hg
        · rw [if_neg hg, if_neg (by omega)] at kc
          exact cuts_in2 c b off capq l raw minute e.day e w hc hl he r0 r1 j hm hj hln h0 hlo hhi hw rfl k2 ka kb kc hd hg
      · rw [if_neg (by omega)] at kb
        by_cases hg : minute ≤ e.minute
        · rw [if_pos hg, if_neg (by omega)] at kc
          exact cuts_in3 c b off capq l raw minute e.day e w hc hl he r0 r1 j hm hj hln h0 hlo hhi hw rfl d0 d1 k2 ka kb kc hd hg
        · rw [if_neg hg, if_neg (by omega)] at kc
          exact cuts_in4 c b off capq l raw minute e.day e w hc hl he r0 r1 j hm hj hln h0 hlo hhi hw rfl d0 d1 k2 ka kb kc hd hg
  · rw [if_neg hcg] at k2
    exact cuts_a1 c q capq l raw minute w hc hl he r0 r1 j hm hj hln h0 k2
theorem bd_u8 {n : Int} (h : (Lit.int .u8 n).wf = true) : 0 ≤ n ∧ n ≤ 255 := by
  have e1 : IntKind.u8.min = 0 := rfl
  have e2 : IntKind.u8.max = 255 := rfl
  simp [Lit.wf, e1, e2] at h
  omega
theorem cells_when : Tryd.prog.cellsOf 42 = 3 := by kernel_rfl
/-- the number, the truth value in a cell -/
def numAt (w : World) (a : Addr) : Int := match w.cell? a with | some (.int _ x) => x | _ => 0
theorem numAt_of {w : World} {a : Addr} {k : IntKind} {x : Int} (h : w.cell? a = some (.int k x)) : numAt w a = x := by unfold numAt; rw [h]
def bitAt (w : World) (a : Addr) : Bool := match w.cell? a with | some (.bool x) => x | _ => false
theorem bitAt_of {w : World} {a : Addr} {x : Bool} (h : w.cell? a = some (.bool x)) : bitAt w a = x := by unfold bitAt; rw [h]
theorem when_cells {H : Type} {enc : TypeId × Value → H} {W : World} {sp : Nat → Bool} {held : Bool} {b0 : Nat} {n : Nat} {c0 c1 c2 : Value} {y : DataW H × List MemPlace} (h : DataW.trod enc Tryd.prog W b0 sp held n 42 [c0, c1, c2] = some y) :
    ∃ (k : Bool) (x z : Int), c0 = .bool k ∧ c1 = .int .i64 x ∧ c2 = .int .i64 z := by
  obtain ⟨y0, y1, y2, m, _, _, h1, h2, h3⟩ := Go.Deep.trod_struct3 Tryd.underlying42 h
  have k1 : DataW.trod enc Tryd.prog W b0 sp held m 4 [c0] = some y0 := by
    have := h1
    simp only [cells_bool] at this
    exact this
  have k2 : DataW.trod enc Tryd.prog W b0 sp held m 3 [c1] = some y1 := by
    have := h2
    simp only [cells_oneint] at this
    exact this
  have k3 : DataW.trod enc Tryd.prog W b0 sp held m 3 [c2] = some y2 := by
    have := h3
    simp only [cells_oneint] at this
    exact this
  obtain ⟨k, ek, _⟩ := DataW.trod_bool Tryd.underlying4 k1
  obtain ⟨x, ex, _, _⟩ := DataW.trod_int Tryd.underlying3 k2
  obtain ⟨z, ez, _, _⟩ := DataW.trod_int Tryd.underlying3 k3
  simp only [List.cons.injEq, and_true] at ek ex ez
  exact ⟨k, x, z, ek, ex, ez⟩
theorem slice_cells {v x : Value} (h : v.cells.toList = [x]) (hs : ∃ a n c, v = .slice a n c) : v = x := by
  obtain ⟨a, n, c, rfl⟩ := hs
  simpa [Value.cells] using h
set_option maxRecDepth 100000 in
theorem open_whens {H : Type} {enc : TypeId × Value → H} {W : World} {base : Nat} {sp : Nat → Bool} {held : Bool} {b0 : Nat} {v : Value} {d : DataW H} {p : List MemPlace} (h : Value.okWide Tryd.prog W .any base 29 v) (h0 : DataW.Trod enc Tryd.prog W b0 sp held 29 v d p) :
    ∃ (a : Option Addr) (cap : Nat) (l : List Wh), v = .slice a l.length cap ∧ EvAt W a l := by
  have hs := okWide_slice Tryd.underlying29 h
  obtain ⟨fuel, hf⟩ := h0
  rcases DataW.trod_slice Tryd.underlying29 hf with ⟨hcs, _⟩ | ⟨a, len, cap, elems, rest, m, _, hcs, _, _, hlc, _, hlen, hel, _⟩
  · exact ⟨none, 0, [], slice_cells hcs hs, .inl rfl⟩
  · rw [cells_when] at hel
    have each : ∀ i, i < len → ∃ u : Wh, (⟨bitAt W ((a.add (i * 3)).add 0), numAt W ((a.add (i * 3)).add 1), numAt W ((a.add (i * 3)).add 2)⟩ : Wh) = u ∧ W.cell? ((a.add (i * 3)).add 0) = some (.bool u.known) ∧ W.cell? ((a.add (i * 3)).add 1) = some (.int .i64 u.day) ∧ W.cell? ((a.add (i * 3)).add 2) = some (.int .i64 u.minute) := fun i hi => by
      have e := hel i hi
      rw [List.getElem?_eq_getElem (by omega), Option.bind_eq_some_iff] at e
      obtain ⟨cs, hcs, ht⟩ := e
      obtain ⟨_, hl, hat⟩ := World.cells?_some hcs
      match cs, hl with
      | [c0, c1, c2], _ =>
        obtain ⟨k, x, z, rfl, rfl, rfl⟩ := when_cells ht
        have q0 := hat 0 (by omega)
        have q1 := hat 1 (by omega)
        have q2 := hat 2 (by omega)
        exact ⟨⟨k, x, z⟩, by rw [bitAt_of q0, numAt_of q1, numAt_of q2], q0, q1, q2⟩
    refine ⟨some a, cap, (List.range len).map fun i => (⟨bitAt W ((a.add (i * 3)).add 0), numAt W ((a.add (i * 3)).add 1), numAt W ((a.add (i * 3)).add 2)⟩ : Wh), by rw [slice_cells hcs hs]; simp, ?_⟩
    by_cases h0 : len = 0
    · subst h0; exact .inl rfl
    · obtain ⟨b, off, spot⟩ := a
      obtain ⟨u, _, hx⟩ := each 0 (by omega)
      have hspot : spot = none := by simpa [Addr.add] using World.cell?_spot hx.1
      subst hspot
      refine .inr ⟨b, off, rfl, fun j x hj => ?_⟩
      rw [List.getElem?_map, Option.map_eq_some_iff] at hj
      obtain ⟨i, hi, rfl⟩ := hj
      obtain ⟨hjl, hjv⟩ := List.getElem?_eq_some_iff.1 hi
      simp only [List.length_range, List.getElem_range] at hjl hjv
      subst hjv
      obtain ⟨_, rfl, hc⟩ := each j hjl
      simpa only [Go.WideShapes.add_plain, WhC, Nat.add_assoc, Nat.add_zero] using hc
end Go.Proofs.YtlbfnafniobnaaaDoor
