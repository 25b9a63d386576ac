/- Terms in memory at the world at hand; contracts in this form. -/
import Derived.Test.YtlbfnafniobnaaaDoorDlX
import Derived.Deep.RegionHeld
namespace Go.Proofs.YtlbfnafniobnaaaDoor
open Go.RowKit Go.Shelf

/-- a term, all of it in memory -/
def TAt (w : World) (t : Dl.T) : Prop := TIn w.heap.size w t
theorem TAt.below {w w' : World} {t : Dl.T} (h : TAt w t) (hb : Below w.heap.size w w') : TAt w' t := TIn.mono hb.size t (TIn.below hb t h)
theorem TAt.drew {w : World} {t : Dl.T} (h : TAt w t) : TAt w.drew t := h.below (Below.drew (Below.refl _ _))
theorem tat_mk {w : World} {t : Dl.T} (h : KidsAt w.heap.size w t) (hk : ∀ k ∈ t.kids, TAt w k) : TAt w t := tin_iff.2 ⟨h, hk⟩
theorem tat_leaf (w : World) (kd n ev : Int) (bz : Bool) (p : Option Addr) (cap : Nat) : TAt w (.node kd n ev bz p cap []) := tat_mk (fun j k h => by simp [Dl.T.kids] at h) (fun k h => by cases h)
theorem KCell.lt {w : World} {b o : Nat} {t : Dl.T} (h : KCell w b o t) : b < w.heap.size := World.block_lt_of_cell? w _ h.1
/-- the kids lie one behind the other -/
theorem tat_row {w : World} {kd n ev : Int} {bz : Bool} {g cap : Nat} {ks : List Dl.T} (h : ∀ (j : Nat) k, ks[j]? = some k → KCell w g (j * 5) k ∧ TAt w k) : TAt w (.node kd n ev bz (some ⟨g, 0, none⟩) cap ks) :=
  tat_mk (fun j k hj => ⟨g, 0, rfl, (h j k hj).1.lt, by rw [Nat.zero_add]; exact (h j k hj).1⟩) (fun k hk => by
    obtain ⟨j, hj⟩ := List.getElem?_of_mem hk
    exact (h j k hj).2)
theorem tat_one {w : World} {kd n ev : Int} {bz : Bool} {g cap : Nat} {a : Dl.T} (h : KCell w g 0 a) (ha : TAt w a) : TAt w (.node kd n ev bz (some ⟨g, 0, none⟩) cap [a]) := tat_row fun j k hj => by
  match j, hj with
  | 0, hj => obtain rfl : a = k := by simpa using hj
             exact ⟨h, ha⟩
  | j + 1, hj => simp at hj
theorem tat_two {w : World} {kd n ev : Int} {bz : Bool} {g cap : Nat} {a b : Dl.T} (h : KCell w g 0 a) (ha : TAt w a) (h' : KCell w g 5 b) (hb : TAt w b) : TAt w (.node kd n ev bz (some ⟨g, 0, none⟩) cap [a, b]) := tat_row fun j k hj => by
  match j, hj with
  | 0, hj => obtain rfl : a = k := by simpa using hj
             exact ⟨h, ha⟩
  | 1, hj => obtain rfl : b = k := by simpa using hj
             exact ⟨h', hb⟩
  | j + 2, hj => simp at hj
theorem tat_three {w : World} {kd n ev : Int} {bz : Bool} {g cap : Nat} {a b c : Dl.T} (h : KCell w g 0 a) (ha : TAt w a) (h' : KCell w g 5 b) (hb : TAt w b) (h'' : KCell w g 10 c) (hc : TAt w c) : TAt w (.node kd n ev bz (some ⟨g, 0, none⟩) cap [a, b, c]) := tat_row fun j k hj => by
  match j, hj with
  | 0, hj => obtain rfl : a = k := by simpa using hj
             exact ⟨h, ha⟩
  | 1, hj => obtain rfl : b = k := by simpa using hj
             exact ⟨h', hb⟩
  | 2, hj => obtain rfl : c = k := by simpa using hj
             exact ⟨h'', hc⟩
  | j + 3, hj => simp at hj
theorem hols_two {w : World} {p : Option Addr} {x y : Int} (h : Hols w p [x, y]) : ∃ b off, p = some ⟨b, off, none⟩ ∧ w.cell? ⟨b, off, none⟩ = some (.int .i64 x) ∧ w.cell? ⟨b, off + 1, none⟩ = some (.int .i64 y) := by
  rcases h with h | ⟨b, off, hp, h⟩
  · cases h
  · exact ⟨b, off, hp, by simpa using h 0 (by simp), by simpa using h 1 (by simp)⟩
theorem cell_at {w : World} {b j : Nat} {cs : Array Value} {ty : TypeId} {v : Value} (h : w.heap[b]? = some (.cells cs ty (0, 0))) (hv : cs[j]? = some v) : w.cell? ⟨b, j, none⟩ = some v := by
  simp only [World.cell?, h]
  simpa using hv
theorem eval_at (t : Dl.T) (c : Cal) (q : Option Addr) (capq : Nat) (l : List Wh) (w : World) (ht : TAt w t) (hc : CalIn w c) (hl : EvAt w q l) (hl1 : l.length ≤ 1000) (hE : Env w) :
    Calls Tryd.prog 12 #[.agg #[.int .i64 t.kd, .int .i64 t.n, .int .i64 t.ev, .bool t.bz, .slice t.p t.kids.length t.cap], .agg #[.bool c.b0, .bool c.b1, .bool c.b2, .bool c.b3, .bool c.b4, .bool c.b5, .bool c.b6, .slice c.p c.hs.length c.cap], .slice q l.length capq] w fun e w' => e = .returned (R3 (evalS t c l)) ∧ Below w.heap.size w w' := eval_any _ t c q capq l w ht (Nat.le_refl _) hc hl hl1 hE
theorem bounds_at (t : Dl.T) (c : Cal) (q1 q2 : Option Addr) (cap1 cap2 : Nat) (lo hi : List Wh) (w : World) (ht : TAt w t) (hc : CalIn w c) (hlo : EvAt w q1 lo) (hhi : EvAt w q2 hi) (hlo1 : lo.length ≤ 1000) (hhi1 : hi.length ≤ 1000) (hE : Env w) :
    Calls Tryd.prog 13 #[.agg #[.int .i64 t.kd, .int .i64 t.n, .int .i64 t.ev, .bool t.bz, .slice t.p t.kids.length t.cap], .agg #[.bool c.b0, .bool c.b1, .bool c.b2, .bool c.b3, .bool c.b4, .bool c.b5, .bool c.b6, .slice c.p c.hs.length c.cap], .slice q1 lo.length cap1, .slice q2 hi.length cap2] w fun e w' => e = .returned (R4 (boundsS t c lo hi)) ∧ Below w.heap.size w w' := bounds_any _ t c q1 q2 cap1 cap2 lo hi w ht (Nat.le_refl _) hc hlo hhi hlo1 hhi1 hE
theorem valid_at (t : Dl.T) (ev : Int) (w : World) (ht : TAt w t) : Calls Tryd.prog 17 #[.agg #[.int .i64 t.kd, .int .i64 t.n, .int .i64 t.ev, .bool t.bz, .slice t.p t.kids.length t.cap], .int .i64 ev] w fun e w' => e = .returned (.bool (validT t ev)) ∧ Below w.heap.size w w' := valid_any _ t ev w ht (Nat.le_refl _)
theorem events_at (t : Dl.T) (w : World) (ht : TAt w t) (h : validT t 1000 = true) :
    Calls Tryd.prog 14 #[.agg #[.int .i64 t.kd, .int .i64 t.n, .int .i64 t.ev, .bool t.bz, .slice t.p t.kids.length t.cap]] w fun e w' => ∃ p cap, e = .returned (.slice p (evT t).length cap) ∧ Hols w' p (evT t) ∧ Below w.heap.size w w' := events_any _ t w ht (Nat.le_refl _) h
theorem ev_one {w : World} {b : Nat} {k : Bool} {d m : Int} (h0 : w.cell? ⟨b, 0, none⟩ = some (.bool k)) (h1 : w.cell? ⟨b, 1, none⟩ = some (.int .i64 d)) (h2 : w.cell? ⟨b, 2, none⟩ = some (.int .i64 m)) : EvAt w (some ⟨b, 0, none⟩) [⟨k, d, m⟩] :=
  .inr ⟨b, 0, rfl, fun j e he => by
    match j, he with
    | 0, he => obtain rfl : (⟨k, d, m⟩ : Wh) = e := by simpa using he
               exact ⟨h0, h1, h2⟩
    | j + 1, he => simp at he⟩
end Go.Proofs.YtlbfnafniobnaaaDoor
