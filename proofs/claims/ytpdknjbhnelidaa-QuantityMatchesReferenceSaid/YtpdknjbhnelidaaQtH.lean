/- The conversion: its loops. -/
import Derived.Test.YtpdknjbhnelidaaQtG
import Derived.Deep.DeepCutAuto
import Derived.RangeFuncRecord
import Derived.IntWalk
namespace Go.Proofs.Ytpdknjbhnelidaa
open Go.RowKit

theorem size_setCell (W : World) (a : Addr) (v : Value) : (W.setCell a v).heap.size = W.heap.size := by
  show (W.heap.modify _ _).size = _
  rw [Array.size_modify]
theorem setCell_row {W : World} {b i : Nat} {v : Value} {cs : Array Value} {t : TypeId} {fr : Nat × Nat} (h : W.heap[b]? = some (.cells cs t fr)) : (W.setCell ⟨b, i, none⟩ v).heap[b]? = some (.cells (cs.setIfInBounds i v) t fr) := by
  obtain ⟨hlt, hk⟩ := Array.getElem?_eq_some_iff.1 h
  show (W.heap.modify b _)[b]? = _
  rw [Array.getElem?_eq_getElem (by rw [Array.size_modify]; exact hlt), Array.getElem_modify_self, hk]
  rfl
theorem setCell_apart {W : World} {b c i : Nat} {v : Value} (h : b ≠ c) : (W.setCell ⟨b, i, none⟩ v).heap[c]? = W.heap[c]? := by
  show (W.heap.modify b _)[c]? = _
  rw [Array.getElem?_modify, if_neg h]
theorem drewN_row (W : World) (n c : Nat) : (W.drewN n).heap[c]? = W.heap[c]? := rfl
/-- six numbers that are small enough -/
def Sml (u d : Nat → Int) : Prop := ∀ m, m < 3 → (u m).natAbs ≤ 1000000000000 ∧ (d m).natAbs ≤ 1000000000000
theorem put_le {u : Nat → Int} {g : Int} {i : Nat} (h : ∀ m, m < 3 → (u m).natAbs ≤ 1000000000000) (hi : i < 3) : ∀ m, m < 3 → (Qn.put u i (u i / g) m).natAbs ≤ 1000000000000 := by
  intro m hm
  by_cases e : m = i
  · subst e
    rw [Qn.put_at]
    exact Nat.le_trans (Int.natAbs_ediv_le_natAbs _ _) (h m hm)
  · rw [Qn.put_ne _ _ e]
    exact h m hm
theorem cd_tdiv_left (x y : Int) : x.tdiv (Nat.gcd x.natAbs y.natAbs : Nat) = x / Qn.cd x y := by
  unfold Qn.cd
  exact Int.tdiv_eq_ediv_of_dvd (Int.ofNat_dvd_left.2 (Nat.gcd_dvd_left _ _))
theorem cd_tdiv_right (x y : Int) : y.tdiv (Nat.gcd x.natAbs y.natAbs : Nat) = y / Qn.cd x y := by
  unfold Qn.cd
  exact Int.tdiv_eq_ediv_of_dvd (Int.ofNat_dvd_left.2 (Nat.gcd_dvd_right _ _))
/-- the two arrays in memory, behind m of the pairs -/
def Rel (W1 : World) (A B m : Nat) (N D : Int) (wr : World) : Prop :=
  ∃ u d : Nat → Int, Qn.Inv N D m u d ∧ Sml u d ∧ wr.heap[A]? = some (.cells #[.int .i64 (u 0), .int .i64 (u 1), .int .i64 (u 2)] 67 (0, 0)) ∧ wr.heap[B]? = some (.cells #[.int .i64 (d 0), .int .i64 (d 1), .int .i64 (d 2)] 67 (0, 0)) ∧ Below A W1 wr
theorem row_put {u : Nat → Int} {i : Nat} {v : Int} (hi : i < 3) : (#[.int .i64 (u 0), .int .i64 (u 1), .int .i64 (u 2)] : Array Value).setIfInBounds i (.int .i64 v) = #[.int .i64 (Qn.put u i v 0), .int .i64 (Qn.put u i v 1), .int .i64 (Qn.put u i v 2)] := by
  rcases (by omega : i = 0 ∨ i = 1 ∨ i = 2) with rfl | rfl | rfl <;> simp [Qn.put]
theorem rel_step {W1 wr : World} {A B i k nq : Nat} {N D : Int} {u d : Nat → Int} (hi : i < 3) (hk : k < 3) (hAB : A < B) (inv : Qn.Inv N D (3 * i + k) u d) (sml : Sml u d)
    (ra : wr.heap[A]? = some (.cells #[.int .i64 (u 0), .int .i64 (u 1), .int .i64 (u 2)] 67 (0, 0))) (rb : wr.heap[B]? = some (.cells #[.int .i64 (d 0), .int .i64 (d 1), .int .i64 (d 2)] 67 (0, 0))) (hb : Below A W1 wr) :
    Rel W1 A B (3 * i + k + 1) N D (((wr.drewN nq).setCell ⟨A, i, none⟩ (.int .i64 ((u i).tdiv (Nat.gcd (u i).natAbs (d k).natAbs : Nat)))).setCell ⟨B, k, none⟩ (.int .i64 ((d k).tdiv (Nat.gcd (u i).natAbs (d k).natAbs : Nat)))) := by
  rw [cd_tdiv_left, cd_tdiv_right]
  refine ⟨_, _, inv.step hi hk, fun m hm => ⟨put_le (fun m hm => (sml m hm).1) hi m hm, put_le (fun m hm => (sml m hm).2) hk m hm⟩, ?_, ?_, ?_⟩
  · rw [setCell_apart (by omega), setCell_row ((drewN_row wr nq A).trans ra), row_put hi]
  · rw [setCell_row ((setCell_apart (by omega)).trans ((drewN_row wr nq B).trans rb)), row_put hk]
  · exact ((below_drewN hb nq).setCell (Nat.le_refl _) _).setCell (by simp; omega) _
theorem cells_of_row {w : World} {A : Nat} {u : Nat → Int} (h : w.heap[A]? = some (.cells #[.int .i64 (u 0), .int .i64 (u 1), .int .i64 (u 2)] 67 (0, 0))) :
    w.cell? ⟨A, 0, none⟩ = some (.int .i64 (u 0)) ∧ w.cell? ⟨A, 1, none⟩ = some (.int .i64 (u 1)) ∧ w.cell? ⟨A, 2, none⟩ = some (.int .i64 (u 2)) ∧
    w.frozen? ⟨A, 0, none⟩ = false ∧ w.frozen? ⟨A, 1, none⟩ = false ∧ w.frozen? ⟨A, 2, none⟩ = false ∧ A < w.heap.size := by
  refine ⟨by simp [World.cell?, h], by simp [World.cell?, h], by simp [World.cell?, h], by simp [World.frozen?, h], by simp [World.frozen?, h], by simp [World.frozen?, h], (Array.getElem?_eq_some_iff.1 h).1⟩
theorem holdS {W w' : World} (h : Below W.heap.size W w') : Below W.heap.size W w' ∧ ∀ b o, b < W.heap.size → w'.cell? ⟨b, o, none⟩ = W.cell? ⟨b, o, none⟩ := ⟨h, fun b o hb => h.cell (p := ⟨b, o, none⟩) hb⟩
theorem holdT {W w' w'' : World} (h : Below W.heap.size W w' ∧ ∀ b o, b < W.heap.size → w'.cell? ⟨b, o, none⟩ = W.cell? ⟨b, o, none⟩) (hb : Below w'.heap.size w' w'') :
    Below W.heap.size W w'' ∧ ∀ b o, b < W.heap.size → w''.cell? ⟨b, o, none⟩ = W.cell? ⟨b, o, none⟩ := holdS (h.1.trans (hb.mono h.1.size))
theorem tdiv_le {x : Int} (g : Nat) : (x.tdiv (g : Int)).natAbs ≤ x.natAbs := by rw [Int.natAbs_tdiv]; exact Nat.div_le_self _ _
theorem wrap_in {x : Int} (h : x.natAbs ≤ 1000000000000) : IntKind.i64.wrap x = x := IntWalk.i64_in _ (by omega)
theorem prod_cases (x y z m : Int) : ((prodS x y z m).2 = true → (prodS x y z m).1 = x * y * z ∧ ((x * y * z).natAbs : Int) ≤ m) ∧ ((prodS x y z m).2 = false → ¬ ((x * y * z).natAbs : Int) ≤ m) := by
  unfold prodS
  split <;> simp_all
theorem conv_far {N D p q : Int} (hq : 0 < q) (h : Rt.mk N D = if p.natAbs ≤ 1000000000000 ∧ q ≤ 1000000 then (p, q, 0) else (0, 0, 2)) (k : ¬ ((p.natAbs : Int) ≤ 1000000000000) ∨ ¬ ((q.natAbs : Int) ≤ 1000000)) : Rt.mk N D = (0, 0, 2) := by
  rw [h, if_neg (by omega)]
theorem conv_near {N D p q a b : Int} (h : Rt.mk N D = if p.natAbs ≤ 1000000000000 ∧ q ≤ 1000000 then (p, q, 0) else (0, 0, 2)) (hD : D ≠ 0) (k1 : (p.natAbs : Int) ≤ 1000000000000) (k2 : (q.natAbs : Int) ≤ 1000000) (ha : a = p) (hb : b = q) :
    Rt.mk N D = (a, b, 0) ∧ Rt.mk a b = (a, b, 0) := by
  subst ha hb
  rw [if_pos (by omega)] at h
  have := Rt.mk_spec hD h
  exact ⟨h, Rt.mk_of_ok (Rt.ok_ne this.1) this.1 rfl⟩
theorem conv_pos {x y z a : Int} (hx : 0 < x) (hy : 0 < y) (hz : 0 < z) (h : a = x * y * z) : 1 ≤ a := by
  have := Int.mul_pos (Int.mul_pos hx hy) hz
  omega
theorem start_sml {v f g : Qn.R} (hv : Qn.RO v) (hf : Qn.Fac f) (hg : Qn.Fac g) : Sml (fun m => if m = 0 then v.1 else if m = 1 then f.1 else g.2) (fun m => if m = 0 then v.2 else if m = 1 then f.2 else g.1) := by
  obtain ⟨a1, a2, a3, a4, _⟩ := hv
  obtain ⟨⟨b1, b2, b3, b4, _⟩, _⟩ := hf
  obtain ⟨⟨c1, c2, c3, c4, _⟩, _⟩ := hg
  intro m hm
  rcases (by omega : m = 0 ∨ m = 1 ∨ m = 2) with rfl | rfl | rfl <;> simp <;> omega
set_option maxRecDepth 100000 in
set_option maxHeartbeats 1600000 in
theorem convert_walk (p : Option Addr) (cap : Nat) (us : List Qn.Un) (i j : Nat) (u g : Qn.Un) (v : Qn.R) (w : World) (hu : us[i]? = some u) (hg : us[j]? = some g) (ht : Tab w p us) (hv : Qn.RO v) (hfu : Qn.Fac u.fac) (hfg : Qn.Fac g.fac) :
    Calls Try.prog 32 #[.slice p us.length cap, .agg #[.int .i64 (i : Int), .int .i64 v.1, .int .i64 v.2], .int .i64 (j : Int)] w fun e w' => e = .returned (RV (Qn.conv v u.fac g.fac)) ∧ Below w.heap.size w w' := by
  have hil : i < us.length := (List.getElem?_eq_some_iff.1 hu).1
  have hjl : j < us.length := (List.getElem?_eq_some_iff.1 hg).1
  obtain ⟨b, off, rfl, hcu, _, hbl⟩ := ht.at hu
  obtain ⟨_, _, hpe, hcg, _, _⟩ := ht.at hg
  cases hpe
  obtain ⟨_, _, _, d3, d4⟩ := hcu
  obtain ⟨_, _, _, f3, f4⟩ := hcg
  have HINV := Lib.hid (show Qn.Inv (v.1 * u.fac.1 * g.fac.2) (v.2 * u.fac.2 * g.fac.1) 0 (fun m => if m = 0 then v.1 else if m = 1 then u.fac.1 else g.fac.2) (fun m => if m = 0 then v.2 else if m = 1 then u.fac.2 else g.fac.1) from Qn.Inv.start hv hfu hfg _ _ rfl rfl rfl rfl rfl rfl)
  have HSML := Lib.hid (start_sml hv hfu hfg)
  have HD := Lib.hid (Qn.conv_ne hv hfu hfg)
  clear hu hg ht hv hfu hfg
  go_enter Try.func32, Try.ntmps32
  go_upto_region 1 with fail
  obtain ⟨W0, hW0⟩ : ∃ W0, W0 = ((w.alloc (.cells #[.int .i64 (i : Int), .int .i64 v.1, .int .i64 v.2] 33)).alloc (.cells #[.int .i64 0, .int .i64 0] 31)) := ⟨_, rfl⟩
  have hB0 : Below w.heap.size w W0 := by rw [hW0]; exact (by repeat (first | exact Below.refl _ _ | assumption | refine below_drewN ?_ _ | refine Below.setCell ?_ (by first | (simp; done) | (simp; omega)) _ | refine Below.alloc ?_ (by first | (simp; done) | (simp; omega) | omega) _ | refine Below.drew ?_ | refine Below.trans ?_ (Below.mono (by assumption) (by first | (simp; done) | (simp; omega) | omega))))
  have a0 : W0.cell? ⟨w.heap.size, 0, none⟩ = some (.int .i64 (i : Int)) := by rw [hW0]; go_simp
  have a1 : W0.cell? ⟨w.heap.size, 1, none⟩ = some (.int .i64 v.1) := by rw [hW0]; go_simp
  have a2 : W0.cell? ⟨w.heap.size, 2, none⟩ = some (.int .i64 v.2) := by rw [hW0]; go_simp
  have r0 : W0.cell? ⟨w.heap.size + 1, 0, none⟩ = some (.int .i64 0) := by rw [hW0]; go_simp
  have r1 : W0.cell? ⟨w.heap.size + 1, 1, none⟩ = some (.int .i64 0) := by rw [hW0]; go_simp
  have q0 : W0.frozen? ⟨w.heap.size + 1, 0, none⟩ = false := by rw [hW0]; go_simp
  have q1 : W0.frozen? ⟨w.heap.size + 1, 1, none⟩ = false := by rw [hW0]; go_simp
  have hz0 : W0.heap.size = w.heap.size + 2 := by rw [hW0]; simp
  have e3 := cell_keep hB0 d3
  have e4 := cell_keep hB0 d4
  have g3 := cell_keep hB0 f3
  have g4 := cell_keep hB0 f4
  rw [← hW0]
  clear hW0 d3 d4 f3 f4
  have HB0 := Lib.hid hB0
  have HZ := Lib.hid hz0
  clear hB0
  have hbl0 : b < W0.heap.size := by omega
  have hal0 : w.heap.size < W0.heap.size := by omega
  have hrl0 : w.heap.size + 1 < W0.heap.size := by omega
  clear hz0
  go_cut [8, 9] (fun s8 s9 wx => ∃ b8 b9 : Nat, s8 = .pointer (some ⟨b8, 0, none⟩) ∧ s9 = .pointer (some ⟨b9, 0, none⟩) ∧ wx.cell? ⟨b8, 0, none⟩ = some (.int .i64 u.fac.1) ∧ wx.cell? ⟨b8, 1, none⟩ = some (.int .i64 u.fac.2) ∧ wx.cell? ⟨b9, 0, none⟩ = some (.int .i64 g.fac.1) ∧ wx.cell? ⟨b9, 1, none⟩ = some (.int .i64 g.fac.2) ∧ Below W0.heap.size W0 wx)
  case first =>
    go_region_held3 (fun w' => Below W0.heap.size W0 w' ∧ ∀ b o, b < W0.heap.size → w'.cell? ⟨b, o, none⟩ = W0.cell? ⟨b, o, none⟩) (first | assumption | exact holdT (by assumption) (by assumption) | exact holdS (by repeat (first | exact Below.refl _ _ | assumption | refine below_drewN ?_ _ | refine Below.setCell ?_ (by first | (simp; done) | (simp; omega)) _ | refine Below.alloc ?_ (by first | (simp; done) | (simp; omega) | omega) _ | refine Below.drew ?_ | refine Below.trans ?_ (Below.mono (by assumption) (by first | (simp; done) | (simp; omega) | omega))))) (fail)
    all_goals
      go_wp2_with fail
      go_meet
      exact ⟨_, _, rfl, rfl, by go_simp, by go_simp, by go_simp, by go_simp, (by repeat (first | exact Below.refl _ _ | assumption | refine below_drewN ?_ _ | refine Below.setCell ?_ (by first | (simp; done) | (simp; omega)) _ | refine Below.alloc ?_ (by first | (simp; done) | (simp; omega) | omega) _ | refine Below.drew ?_ | refine Below.trans ?_ (Below.mono (by assumption) (by first | (simp; done) | (simp; omega) | omega))))⟩
  case rest =>
    obtain ⟨b8, b9, rfl, rfl, k0, k1, l0, l1, hb1⟩ := hcut
    have s0 := cell_keep hb1 a0
    have s1 := cell_keep hb1 a1
    have s2 := cell_keep hb1 a2
    have hzc := hb1.size
    have t8 : b8 < wc.heap.size := World.block_lt_of_cell? wc _ k0
    have t9 : b9 < wc.heap.size := World.block_lt_of_cell? wc _ l0
    have t4 : w.heap.size < wc.heap.size := by omega
    have t6 : w.heap.size + 1 < wc.heap.size := by omega
    have HB1 := Lib.hid hb1
    go_wp2_with fail
    obtain ⟨W1, hW1⟩ : ∃ W1, W1 = (wc.alloc (.cells #[.int .i64 v.1, .int .i64 u.fac.1, .int .i64 g.fac.2] 67)).alloc (.cells #[.int .i64 v.2, .int .i64 u.fac.2, .int .i64 g.fac.1] 67) := ⟨_, rfl⟩
    rw [← hW1]
    have hbW : Below wc.heap.size wc W1 := by rw [hW1]; exact (by repeat (first | exact Below.refl _ _ | assumption | refine below_drewN ?_ _ | refine Below.setCell ?_ (by first | (simp; done) | (simp; omega)) _ | refine Below.alloc ?_ (by first | (simp; done) | (simp; omega) | omega) _ | refine Below.drew ?_ | refine Below.trans ?_ (Below.mono (by assumption) (by first | (simp; done) | (simp; omega) | omega))))
    have row1 : W1.heap[wc.heap.size]? = some (.cells #[.int .i64 v.1, .int .i64 u.fac.1, .int .i64 g.fac.2] 67 (0, 0)) := by
      rw [hW1]
      exact (Below.heap_alloc _ _ _ (by simp)).trans (World.alloc_heap_new _ _)
    have row2 : W1.heap[wc.heap.size + 1]? = some (.cells #[.int .i64 v.2, .int .i64 u.fac.2, .int .i64 g.fac.1] 67 (0, 0)) := by
      rw [hW1]
      have q := World.alloc_heap_new (wc.alloc (.cells #[.int .i64 v.1, .int .i64 u.fac.1, .int .i64 g.fac.2] 67)) (.cells #[.int .i64 v.2, .int .i64 u.fac.2, .int .i64 g.fac.1] 67)
      rwa [World.size_alloc] at q
    have rel0 : Rel W1 wc.heap.size (wc.heap.size + 1) 0 (v.1 * u.fac.1 * g.fac.2) (v.2 * u.fac.2 * g.fac.1) W1 := ⟨_, _, HINV.out, HSML.out, row1, row2, Below.refl _ _⟩
    have HR0 := Lib.hid rel0
    have hAW : wc.heap.size < W1.heap.size := (Array.getElem?_eq_some_iff.1 row1).1
    have hrA : w.heap.size + 1 < wc.heap.size := by omega
    have HBW := Lib.hid (hb1.trans (hbW.mono hb1.size))
    clear hW1 hbW row1 row2 rel0 HINV HSML k0 k1 l0 l1 s0 s1 s2 hb1
    go_loopw [46] (fun a wr => ∃ n : Nat, a = .int .i64 n ∧ n ≤ 3 ∧ Rel W1 wc.heap.size (wc.heap.size + 1) (3 * n) (v.1 * u.fac.1 * g.fac.2) (v.2 * u.fac.2 * g.fac.1) wr) (fun a _ => 3 - (intOf a).toNat)
    case atStart => exact ⟨0, rfl, by omega, HR0.out⟩
    case round =>
      obtain ⟨n, rfl, hn, hrl⟩ := hrel
      have HRL := Lib.hid hrl
      clear hrl
      obtain ⟨wo, rfl⟩ : ∃ W, W = wr := ⟨_, rfl⟩
      by_cases hlt : n < 3
      · go_wp2_with fail
        go_loopw [49] (fun a wr => ∃ m : Nat, a = .int .i64 m ∧ m ≤ 3 ∧ Rel W1 wc.heap.size (wc.heap.size + 1) (3 * n + m) (v.1 * u.fac.1 * g.fac.2) (v.2 * u.fac.2 * g.fac.1) wr) (fun a _ => 3 - (intOf a).toNat)
        case atStart => exact ⟨0, rfl, by omega, HRL.out⟩
        case round =>
          obtain ⟨m, rfl, hm, hrl⟩ := hrel
          by_cases hmt : m < 3
          · obtain ⟨x, d, inv, sml, ra, rb, hbe⟩ := hrl
            have HI := Lib.hid inv
            have HS := Lib.hid sml
            have HRA := Lib.hid ra
            have HRB := Lib.hid rb
            have HBE := Lib.hid hbe
            have sx := (sml n hlt).1
            have sd := (sml m hmt).2
            have pd := inv.dpos m hmt
            obtain ⟨ca0, ca1, ca2, fa0, fa1, fa2, hal⟩ := cells_of_row ra
            obtain ⟨cb0, cb1, cb2, fb0, fb1, fb2, hbl⟩ := cells_of_row rb
            obtain ⟨gg, hgg⟩ : ∃ gg, Nat.gcd (x n).natAbs (d m).natAbs = gg := ⟨_, rfl⟩
            have hg1 : 1 ≤ gg := by rw [← hgg]; exact Nat.gcd_pos_of_pos_right _ (by omega)
            have hgb : ((gg : Int) == 0) = false := beq_eq_false_iff_ne.2 (by omega)
            have tx := tdiv_le (x := x n) gg
            have td := tdiv_le (x := d m) gg
            have HGG := Lib.hid hgg
            clear inv sml ra rb hbe hgg
            rcases (by omega : n = 0 ∨ n = 1 ∨ n = 2) with rfl | rfl | rfl <;> rcases (by omega : m = 0 ∨ m = 1 ∨ m = 2) with rfl | rfl | rfl
            · go_wp2_with fail
              go_quiet (first | exact divisor_q _ _ _ _ _ (by omega) (by omega) HGG.out)
              go_wp2_with fail
              go_roundw
              case rel => exact ⟨1, rfl, by omega, by have q := rel_step (i := 0) (k := 0) (nq := nq) (by omega) (by omega) (by omega) HI.out HS.out HRA.out HRB.out HBE.out; rw [HGG.out] at q; exact q⟩
              case measure => simp [intOf]
            · go_wp2_with fail
              go_quiet (first | exact divisor_q _ _ _ _ _ (by omega) (by omega) HGG.out)
              go_wp2_with fail
              go_roundw
              case rel => exact ⟨2, rfl, by omega, by have q := rel_step (i := 0) (k := 1) (nq := nq) (by omega) (by omega) (by omega) HI.out HS.out HRA.out HRB.out HBE.out; rw [HGG.out] at q; exact q⟩
              case measure => simp [intOf]
            · go_wp2_with fail
              go_quiet (first | exact divisor_q _ _ _ _ _ (by omega) (by omega) HGG.out)
              go_wp2_with fail
              go_roundw
              case rel => exact ⟨3, rfl, by omega, by have q := rel_step (i := 0) (k := 2) (nq := nq) (by omega) (by omega) (by omega) HI.out HS.out HRA.out HRB.out HBE.out; rw [HGG.out] at q; exact q⟩
              case measure => simp [intOf]
            · go_wp2_with fail
              go_quiet (first | exact divisor_q _ _ _ _ _ (by omega) (by omega) HGG.out)
              go_wp2_with fail
              go_roundw
              case rel => exact ⟨1, rfl, by omega, by have q := rel_step (i := 1) (k := 0) (nq := nq) (by omega) (by omega) (by omega) HI.out HS.out HRA.out HRB.out HBE.out; rw [HGG.out] at q; exact q⟩
              case measure => simp [intOf]
            · go_wp2_with fail
              go_quiet (first | exact divisor_q _ _ _ _ _ (by omega) (by omega) HGG.out)
              go_wp2_with fail
              go_roundw
              case rel => exact ⟨2, rfl, by omega, by have q := rel_step (i := 1) (k := 1) (nq := nq) (by omega) (by omega) (by omega) HI.out HS.out HRA.out HRB.out HBE.out; rw [HGG.out] at q; exact q⟩
              case measure => simp [intOf]
            · go_wp2_with fail
              go_quiet (first | exact divisor_q _ _ _ _ _ (by omega) (by omega) HGG.out)
              go_wp2_with fail
              go_roundw
              case rel => exact ⟨3, rfl, by omega, by have q := rel_step (i := 1) (k := 2) (nq := nq) (by omega) (by omega) (by omega) HI.out HS.out HRA.out HRB.out HBE.out; rw [HGG.out] at q; exact q⟩
              case measure => simp [intOf]
            · go_wp2_with fail
              go_quiet (first | exact divisor_q _ _ _ _ _ (by omega) (by omega) HGG.out)
              go_wp2_with fail
              go_roundw
              case rel => exact ⟨1, rfl, by omega, by have q := rel_step (i := 2) (k := 0) (nq := nq) (by omega) (by omega) (by omega) HI.out HS.out HRA.out HRB.out HBE.out; rw [HGG.out] at q; exact q⟩
              case measure => simp [intOf]
            · go_wp2_with fail
              go_quiet (first | exact divisor_q _ _ _ _ _ (by omega) (by omega) HGG.out)
              go_wp2_with fail
              go_roundw
              case rel => exact ⟨2, rfl, by omega, by have q := rel_step (i := 2) (k := 1) (nq := nq) (by omega) (by omega) (by omega) HI.out HS.out HRA.out HRB.out HBE.out; rw [HGG.out] at q; exact q⟩
              case measure => simp [intOf]
            · go_wp2_with fail
              go_quiet (first | exact divisor_q _ _ _ _ _ (by omega) (by omega) HGG.out)
              go_wp2_with fail
              go_roundw
              case rel => exact ⟨3, rfl, by omega, by have q := rel_step (i := 2) (k := 2) (nq := nq) (by omega) (by omega) (by omega) HI.out HS.out HRA.out HRB.out HBE.out; rw [HGG.out] at q; exact q⟩
              case measure => simp [intOf]
          · obtain rfl : m = 3 := by omega
            have HRL2 := Lib.hid hrl
            clear hrl
            go_wp2_with fail
            go_roundw
            case rel => exact ⟨n + 1, by simp, by omega, by have q := HRL2.out; rwa [show 3 * n + 3 = 3 * (n + 1) by omega] at q⟩
            case measure => simp only [intOf]; exact meas_lt hlt
      · obtain rfl : n = 3 := by omega
        obtain ⟨x, d, inv, sml, ra, rb, hbe⟩ := HRL.out
        have hbo : Below W0.heap.size W0 wo := HBW.out.trans (hbe.mono hzc)
        have z0 := cell_keep hbo r0
        have z1 := cell_keep hbo r1
        have y0 : wo.frozen? ⟨w.heap.size + 1, 0, none⟩ = false := (hbo.frozen (p := ⟨w.heap.size + 1, 0, none⟩) hrl0).trans q0
        have y1 : wo.frozen? ⟨w.heap.size + 1, 1, none⟩ = false := (hbo.frozen (p := ⟨w.heap.size + 1, 1, none⟩) hrl0).trans q1
        obtain ⟨ca0, ca1, ca2, _, _, _, hal⟩ := cells_of_row ra
        obtain ⟨cb0, cb1, cb2, _, _, _, hbl2⟩ := cells_of_row rb
        have L := inv.last HD.out
        have u1 := inv.upos.1
        have u2 := inv.upos.2
        have p0 := inv.dpos 0 (by omega)
        have p1 := inv.dpos 1 (by omega)
        have p2 := inv.dpos 2 (by omega)
        have m0 := sml 0 (by omega)
        have m1 := sml 1 (by omega)
        have m2 := sml 2 (by omega)
        have hbw0 : Below w.heap.size w wo := HB0.out.trans (hbo.mono (by omega))
        have HBO := Lib.hid hbw0
        have HLL := Lib.hid L
        clear ra rb hbe inv sml HRL hbo L hbw0 r0 r1 q0 q1
        generalize x 0 = x0 at *
        generalize x 1 = x1 at *
        generalize x 2 = x2 at *
        generalize d 0 = d0 at *
        generalize d 1 = d1 at *
        generalize d 2 = d2 at *
        have hp1 := prod_cases x0 x1 x2 1000000000000
        have hp2 := prod_cases d0 d1 d2 1000000
        obtain ⟨a1, s1, e1⟩ : ∃ a s, prodS x0 x1 x2 1000000000000 = (a, s) := ⟨_, _, rfl⟩
        obtain ⟨a2, s2, e2⟩ : ∃ a s, prodS d0 d1 d2 1000000 = (a, s) := ⟨_, _, rfl⟩
        rw [e1] at hp1
        rw [e2] at hp2
        have HE1 := Lib.hid e1
        have HE2 := Lib.hid e2
        have HP1 := Lib.hid hp1
        have HP2 := Lib.hid hp2
        clear e1 e2 hp1 hp2
        go_wp2_with fail
        refine (prod_any x0 x1 x2 1000000000000 _ (by omega) (by omega) (by omega) (by omega) (by omega) (by omega) (by omega)).mono ?_
        rintro e w5 ⟨rfl, hb5⟩
        rw [HE1.out]
        simp only [RIB]
        have z0' := cell_keep hb5 z0
        have z1' := cell_keep hb5 z1
        have y0' := (hb5.frozen (p := ⟨w.heap.size + 1, 0, none⟩) (show w.heap.size + 1 < wo.heap.size by omega)).trans y0
        have y1' := (hb5.frozen (p := ⟨w.heap.size + 1, 1, none⟩) (show w.heap.size + 1 < wo.heap.size by omega)).trans y1
        have cb0' := cell_keep hb5 cb0
        have cb1' := cell_keep hb5 cb1
        have cb2' := cell_keep hb5 cb2
        have hz5 := hb5.size
        have HB5 := Lib.hid hb5
        clear z0 z1 y0 y1 cb0 cb1 cb2 ca0 ca1 ca2 hb5
        go_wp2_with fail
        refine (prod_any d0 d1 d2 1000000 _ (by omega) (by omega) (by omega) (by omega) (by omega) (by omega) (by omega)).mono ?_
        rintro e w6 ⟨rfl, hb6⟩
        rw [HE2.out]
        simp only [RIB]
        have z0 := cell_keep hb6 z0'
        have z1 := cell_keep hb6 z1'
        have y0 := (hb6.frozen (p := ⟨w.heap.size + 1, 0, none⟩) (show w.heap.size + 1 < w5.heap.size by omega)).trans y0'
        have y1 := (hb6.frozen (p := ⟨w.heap.size + 1, 1, none⟩) (show w.heap.size + 1 < w5.heap.size by omega)).trans y1'
        have hz6 := hb6.size
        have HBF := Lib.hid ((HBO.out.trans (HB5.out.mono HBO.out.size)).trans (hb6.mono (Nat.le_trans HBO.out.size HB5.out.size)))
        clear z0' z1' y0' y1' cb0' cb1' cb2' hb6 HBO HB5
        have hw6 : w.heap.size + 1 < w6.heap.size := by omega
        cases s1
        · have ht := conv_far (Int.mul_pos (Int.mul_pos p0 p1) p2) HLL.out (.inl (by have := HP1.out.2 rfl; omega))
          have HT := Lib.hid ht
          clear ht
          go_wp2_with fail
          refine bodyPost_ret (v := RV (0, 0, 2)) (by simp [results, Try.results32, go_sem, RV, z0, z1]) rfl ⟨by rw [Qn.conv, HT.out], (by repeat (first | exact HBF.out | refine below_drewN ?_ _ | refine Below.setCell ?_ (by first | (simp; done) | omega | (simp; omega)) _ | refine Below.alloc ?_ (by first | (simp; done) | omega | (simp; omega)) _))⟩
        cases s2
        · have ht := conv_far (Int.mul_pos (Int.mul_pos p0 p1) p2) HLL.out (.inr (by have := HP2.out.2 rfl; omega))
          have HT := Lib.hid ht
          clear ht
          go_wp2_with fail
          refine bodyPost_ret (v := RV (0, 0, 2)) (by simp [results, Try.results32, go_sem, RV, z0, z1]) rfl ⟨by rw [Qn.conv, HT.out], (by repeat (first | exact HBF.out | refine below_drewN ?_ _ | refine Below.setCell ?_ (by first | (simp; done) | omega | (simp; omega)) _ | refine Below.alloc ?_ (by first | (simp; done) | omega | (simp; omega)) _))⟩
        obtain ⟨ea1, eb1⟩ := HP1.out.1 rfl
        obtain ⟨ea2, eb2⟩ := HP2.out.1 rfl
        have ht := conv_near HLL.out HD.out eb1 eb2 ea1 ea2
        have HT1 := Lib.hid ht.1
        have HT2 := Lib.hid ht.2
        have hq2 : 1 ≤ a2 := conv_pos p0 p1 p2 ea2
        have hq1 : a1.natAbs ≤ 1000000000000 := by rw [ea1]; omega
        have hq3 : a2 ≤ 1000000 := by rw [ea2] at *; omega
        clear ht ea1 ea2 eb1 eb2
        go_wp2_with fail
        refine (make_any a1 a2 _ (by omega) (by omega) (by omega) (by omega)).mono ?_
        rintro e w7 ⟨rfl, hb7⟩
        rw [HT2.out]
        have x0' := cell_keep hb7 z0
        have x1' := cell_keep hb7 z1
        have v0' := (hb7.frozen (p := ⟨w.heap.size + 1, 0, none⟩) (show w.heap.size + 1 < w6.heap.size by omega)).trans y0
        have v1' := (hb7.frozen (p := ⟨w.heap.size + 1, 1, none⟩) (show w.heap.size + 1 < w6.heap.size by omega)).trans y1
        have hz7 := hb7.size
        have hw7 : w.heap.size + 1 < w7.heap.size := by omega
        have HBF := Lib.hid (HBF.out.trans (hb7.mono HBF.out.size))
        clear z0 z1 y0 y1 hb7
        simp only [RV]
        go_wp2_with fail
        refine bodyPost_ret (v := RV (a1, a2, 0)) (by simp [results, Try.results32, go_sem, RV, x0', x1']) rfl ⟨by rw [Qn.conv, HT1.out], (by repeat (first | exact HBF.out | refine below_drewN ?_ _ | refine Below.setCell ?_ (by first | (simp; done) | omega | (simp; omega)) _ | refine Below.alloc ?_ (by first | (simp; done) | omega | (simp; omega)) _))⟩
end Go.Proofs.Ytpdknjbhnelidaa
