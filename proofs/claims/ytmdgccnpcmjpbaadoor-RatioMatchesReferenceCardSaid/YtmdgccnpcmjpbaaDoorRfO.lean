/- The reference implementation: Parse, at every text. -/
import Derived.Test.YtmdgccnpcmjpbaaDoorRfN
import Derived.Test.YtmdgccnpcmjpbaaDoorRfMath4
import Derived.Test.YtmdgccnpcmjpbaaDoorRtMath5
namespace Go.Proofs.YtmdgccnpcmjpbaaDoor
open Go.RowKit

set_option maxRecDepth 100000 in
set_option maxHeartbeats 1600000 in
theorem rparse_nil (n : Int) (w : World) (hn : Rt.numS [] = n) :
    Calls Tryd.prog 8 #[.string ⟨#[]⟩] w fun e w' => e = .returned (RV (0, 0, 5)) ∧ Below w.heap.size w w' := by
  have x0 : (⟨#[]⟩ : ByteArray).extract 0 0 = ⟨#[]⟩ := by
    apply ByteArray.ext
    simp
  have hs : ((⟨#[]⟩ : ByteArray)).size = 0 := by simp [ByteArray.size]
  have nb := Rt.num_ge []
  rw [hn] at nb
  have HM := Lib.hid hn
  clear hn
  go_enter Tryd.func8, Tryd.ntmps8
  go_wp2
  refine wp_loop_rounds 1 ?_
  rw [rounds_succ]
  go_wp2_with fail
  refine (number_nil _).mono ?_
  rintro e w1 ⟨rfl, hb1⟩
  rw [HM.out]
  obtain ⟨q1, q2⟩ := bcell hb1
  have hz1 := hb1.size
  simp at hz1
  have m0 : w1.cell? ⟨w.heap.size, 0, none⟩ = some (.int .i64 0) := (q1 _ _ (by first | (simp; done) | (simp; omega))).trans (by go_simp)
  have m1 : w1.cell? ⟨w.heap.size, 1, none⟩ = some (.int .i64 0) := (q1 _ _ (by first | (simp; done) | (simp; omega))).trans (by go_simp)
  have m2 : w1.cell? ⟨w.heap.size + 1, 0, none⟩ = some (.int .i64 0) := (q1 _ _ (by first | (simp; done) | (simp; omega))).trans (by go_simp)
  have m3 : w1.cell? ⟨w.heap.size + 1, 1, none⟩ = some (.int .i64 1) := (q1 _ _ (by first | (simp; done) | (simp; omega))).trans (by go_simp)
  have o0 : w1.frozen? ⟨w.heap.size, 0, none⟩ = false := (q2 _ _ (by first | (simp; done) | (simp; omega))).trans (by go_simp)
  have o1 : w1.frozen? ⟨w.heap.size, 1, none⟩ = false := (q2 _ _ (by first | (simp; done) | (simp; omega))).trans (by go_simp)
  have o2 : w1.frozen? ⟨w.heap.size + 1, 0, none⟩ = false := (q2 _ _ (by first | (simp; done) | (simp; omega))).trans (by go_simp)
  have hy1 : w.heap.size + 1 < w1.heap.size := by omega
  have bf1 : Below w.heap.size w w1 := (by repeat (first | exact Below.refl _ _ | assumption | refine below_drewN ?_ _ | refine Below.setCell ?_ (by first | (simp; done) | (simp; omega)) _ | refine Below.alloc ?_ (by first | (simp; done) | (simp; omega) | omega) _ | refine Below.drew ?_ | refine Below.trans ?_ (Below.mono (by assumption) (by first | (simp; done) | (simp; omega) | omega))))
  clear q1 q2 hb1
  go_wp2
  refine bodyPost_ret (v := RV (0, 0, 5)) (by simp [results, Tryd.results8, go_sem, RV, m0, m1]) rfl ⟨rfl, ?_⟩
  exact (by repeat (first | exact Below.refl _ _ | assumption | refine below_drewN ?_ _ | refine Below.setCell ?_ (by first | (simp; done) | (simp; omega)) _ | refine Below.alloc ?_ (by first | (simp; done) | (simp; omega) | omega) _ | refine Below.drew ?_ | refine Below.trans ?_ (Below.mono (by assumption) (by first | (simp; done) | (simp; omega) | omega))))
theorem stroke_first : ∀ t : List UInt8, (∀ c ∈ t, c ≠ 47) ∨ ∃ A B, A ++ 47 :: B = t ∧ ∀ c ∈ A, c ≠ 47
  | [] => .inl (fun c hc => by cases hc)
  | a :: t => by
    by_cases h : a = 47
    · exact .inr ⟨[], t, by rw [h]; rfl, fun c hc => by cases hc⟩
    · rcases stroke_first t with ht | ⟨A, B, e, hA⟩
      · refine .inl (fun c hc => ?_)
        rcases List.mem_cons.1 hc with rfl | hc
        · exact h
        · exact ht c hc
      · refine .inr ⟨a :: A, B, by rw [← e]; rfl, fun c hc => ?_⟩
        rcases List.mem_cons.1 hc with rfl | hc
        · exact h
        · exact hA c hc
theorem rparse_any (t : List UInt8) (w : World) (hl : t.length ≤ 4294967280) :
    Calls Tryd.prog 8 #[.string ⟨t.toArray⟩] w fun e w' => e = .returned (RV (Rt.parseS t)) ∧ Below w.heap.size w w' := by
  rcases stroke_first t with h | ⟨A, B, hL, hA⟩
  · rw [← Rt.ref_parse t t [] false (Rt.cut_no t h)]
    cases t with
    | nil =>
      unfold Rt.refP
      rw [if_pos (.inl rfl)]
      exact rparse_nil _ w rfl
    | cons c r =>
      have hno : ∀ j (hj : j < (c :: r).length), (c :: r)[j] ≠ 47 := fun j hj => h _ (List.getElem_mem hj)
      show Calls _ _ _ _ (fun e w' => e = .returned (RV (Rt.refP (c :: r) (Rt.topS (c :: r)) 1)) ∧ Below w.heap.size w w')
      unfold Rt.refP Rt.topS
      by_cases hc : c = 45
      · simp only [if_pos hc]
        by_cases hne : Rt.textS (0 - Rt.numS r) 1 = c :: r
        · rw [if_neg (fun hx => hx.elim (fun e => by cases e) (fun e => e hne))]
          exact rparse_c c r _ w hl hno hc rfl hne
        · rw [if_pos (.inr hne)]
          exact rparse_d c r _ w hl hno hc rfl _ rfl hne
      · simp only [if_neg hc]
        by_cases hne : Rt.textS (Rt.numS (c :: r)) 1 = c :: r
        · rw [if_neg (fun hx => hx.elim (fun e => by cases e) (fun e => e hne))]
          exact rparse_a c r _ w hl hno hc rfl hne
        · rw [if_pos (.inr hne)]
          exact rparse_b c r _ w hl hno hc rfl _ rfl hne
  · have hcut : Lib.cut t [47] = (A, B, true) := by rw [← hL]; exact Rt.cut_at A B hA
    rw [← Rt.ref_parse t A B true hcut]
    have hn0 : t ≠ [] := by rw [← hL]; exact List.append_ne_nil_of_right_ne_nil _ (List.cons_ne_nil _ _)
    show Calls _ _ _ _ (fun e w' => e = .returned (RV (Rt.refP t (Rt.topS A) (Rt.numS B))) ∧ Below w.heap.size w w')
    unfold Rt.refP
    cases A with
    | nil =>
      show Calls _ _ _ _ (fun e w' => e = .returned (RV (if t = [] ∨ Rt.textS (Rt.numS []) (Rt.numS B) ≠ t then (0, 0, 5) else (Rt.numS [], Rt.numS B, 0))) ∧ Below w.heap.size w w')
      by_cases hne : Rt.textS (Rt.numS []) (Rt.numS B) = t
      · rw [if_neg (fun hx => hx.elim hn0 (fun e => e hne))]
        exact rparse_i B t _ _ w hL hl rfl rfl hne
      · rw [if_pos (.inr hne)]
        exact rparse_j B t _ _ w hL hl rfl rfl _ rfl hne
    | cons c r =>
      have hno : ∀ j (hj : j < t.length), j < (c :: r).length → t[j] ≠ 47 := fun j hj hj2 => by
        subst hL
        rw [List.getElem_append_left hj2]
        exact hA _ (List.getElem_mem hj2)
      unfold Rt.topS
      by_cases hc : c = 45
      · simp only [if_pos hc]
        by_cases hne : Rt.textS (0 - Rt.numS r) (Rt.numS B) = t
        · rw [if_neg (fun hx => hx.elim hn0 (fun e => e hne))]
          exact rparse_g c r _ B t _ _ w rfl hL hl hno hc rfl rfl hne
        · rw [if_pos (.inr hne)]
          exact rparse_h c r _ B t _ _ w rfl hL hl hno hc rfl rfl _ rfl hne
      · simp only [if_neg hc]
        by_cases hne : Rt.textS (Rt.numS (c :: r)) (Rt.numS B) = t
        · rw [if_neg (fun hx => hx.elim hn0 (fun e => e hne))]
          exact rparse_e c r _ B t _ _ w rfl hL hl hno hc rfl rfl hne
        · rw [if_pos (.inr hne)]
          exact rparse_f c r _ B t _ _ w rfl hL hl hno hc rfl rfl _ rfl hne
end Go.Proofs.YtmdgccnpcmjpbaaDoor
