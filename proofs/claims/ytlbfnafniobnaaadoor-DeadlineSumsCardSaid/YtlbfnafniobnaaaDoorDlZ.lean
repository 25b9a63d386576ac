/- The walk of the laws' fixed examples. -/
import Derived.Test.YtlbfnafniobnaaaDoorDlY
namespace Go.Proofs.YtlbfnafniobnaaaDoor
open Go.RowKit Go.Shelf

set_option maxRecDepth 100000 in
set_option maxHeartbeats 1600000 in
theorem head_any  (w : World) (hE : Env w) :
    Calls Tryd.prog 9 #[] w fun e w' => e = .returned (.bool true) ∧ Below w.heap.size w w' := by
  have HE0 := Lib.hid hE
  clear hE
  go_enter Tryd.func9, Tryd.ntmps9
  go_wp2_with fail
  refine (on_calls 3 1000 _).mono ?_
  rintro e w1 ⟨rfl, hb1⟩
  have hz1 := hb1.size
  (try simp at hz1)
  have bb1 : Below w.heap.size w w1 := (by repeat (first | exact Below.refl _ _ | assumption | refine below_drewN ?_ _ | refine Below.setCell ?_ (by first | (simp; done) | (simp; omega)) _ | refine Below.alloc ?_ (by first | (simp; done) | (simp; omega) | omega) _ | refine Below.drew ?_ | refine Below.trans ?_ (Below.mono (by assumption) (by first | (simp; done) | (simp; omega) | omega))))
  have be1 : Below w.heap.size w w1 := bb1
  have c1_c_0 : w1.cell? ⟨w.heap.size, 0, none⟩ = some (.bool false) := cell_keep hb1 (by go_simp)
  have c1_c_1 : w1.cell? ⟨w.heap.size, 1, none⟩ = some (.bool false) := cell_keep hb1 (by go_simp)
  have c1_c_2 : w1.cell? ⟨w.heap.size, 2, none⟩ = some (.bool false) := cell_keep hb1 (by go_simp)
  have c1_c_3 : w1.cell? ⟨w.heap.size, 3, none⟩ = some (.bool false) := cell_keep hb1 (by go_simp)
  have c1_c_4 : w1.cell? ⟨w.heap.size, 4, none⟩ = some (.bool false) := cell_keep hb1 (by go_simp)
  have c1_c_5 : w1.cell? ⟨w.heap.size, 5, none⟩ = some (.bool true) := cell_keep hb1 (by go_simp)
  have c1_c_6 : w1.cell? ⟨w.heap.size, 6, none⟩ = some (.bool true) := cell_keep hb1 (by go_simp)
  have c1_c_7 : w1.cell? ⟨w.heap.size, 7, none⟩ = some (.slice none 0 0) := cell_keep hb1 (by go_simp)
  have l1_c : w.heap.size < w1.heap.size := by omega
  have m1_c : w.heap.size < w1.heap.size + 1 := by omega
  have HE1 := Lib.hid (HE0.out.below bb1)
  have BE1 := Lib.hid be1
  clear be1 bb1 hb1 HE0
  go_wp2_with fail
  refine (eval_at (.node 3 960 0 false none 0 []) c0 (some ⟨w1.heap.size, 0, none⟩) 1 l0 _ (tat_leaf _ _ _ _ _ _ _) (.inl rfl) (ev_one (by go_simp) (by go_simp) (by go_simp)) (by decide) (HE1.out.below (by repeat (first | exact Below.refl _ _ | assumption | refine below_drewN ?_ _ | refine Below.setCell ?_ (by first | (simp; done) | (simp; omega)) _ | refine Below.alloc ?_ (by first | (simp; done) | (simp; omega) | omega) _ | refine Below.drew ?_ | refine Below.trans ?_ (Below.mono (by assumption) (by first | (simp; done) | (simp; omega) | omega)))))).mono ?_
  rintro e w2 ⟨rfl, hb2⟩
  rw [x1]
  simp only [R3]
  have hz2 := hb2.size
  (try simp at hz2)
  have bb2 : Below w1.heap.size w1 w2 := (by repeat (first | exact Below.refl _ _ | assumption | refine below_drewN ?_ _ | refine Below.setCell ?_ (by first | (simp; done) | (simp; omega)) _ | refine Below.alloc ?_ (by first | (simp; done) | (simp; omega) | omega) _ | refine Below.drew ?_ | refine Below.trans ?_ (Below.mono (by assumption) (by first | (simp; done) | (simp; omega) | omega))))
  have be2 : Below w.heap.size w w2 := BE1.out.trans (bb2.mono BE1.out.size)
  have c2_c_0 : w2.cell? ⟨w.heap.size, 0, none⟩ = some (.bool false) := cell_keep bb2 c1_c_0
  have c2_c_1 : w2.cell? ⟨w.heap.size, 1, none⟩ = some (.bool false) := cell_keep bb2 c1_c_1
  have c2_c_2 : w2.cell? ⟨w.heap.size, 2, none⟩ = some (.bool false) := cell_keep bb2 c1_c_2
  have c2_c_3 : w2.cell? ⟨w.heap.size, 3, none⟩ = some (.bool false) := cell_keep bb2 c1_c_3
  have c2_c_4 : w2.cell? ⟨w.heap.size, 4, none⟩ = some (.bool false) := cell_keep bb2 c1_c_4
  have c2_c_5 : w2.cell? ⟨w.heap.size, 5, none⟩ = some (.bool true) := cell_keep bb2 c1_c_5
  have c2_c_6 : w2.cell? ⟨w.heap.size, 6, none⟩ = some (.bool true) := cell_keep bb2 c1_c_6
  have c2_c_7 : w2.cell? ⟨w.heap.size, 7, none⟩ = some (.slice none 0 0) := cell_keep bb2 c1_c_7
  have l2_c : w.heap.size < w2.heap.size := by omega
  have m2_c : w.heap.size < w2.heap.size + 1 := by omega
  have c2_l_0 : w2.cell? ⟨w1.heap.size, 0, none⟩ = some (.bool true) := cell_keep hb2 (by go_simp)
  have c2_l_1 : w2.cell? ⟨w1.heap.size, 1, none⟩ = some (.int .i64 3) := cell_keep hb2 (by go_simp)
  have c2_l_2 : w2.cell? ⟨w1.heap.size, 2, none⟩ = some (.int .i64 1000) := cell_keep hb2 (by go_simp)
  have l2_l : w1.heap.size < w2.heap.size := by omega
  have m2_l : w1.heap.size < w2.heap.size + 1 := by omega
  have c2_t_0 : w2.cell? ⟨w1.heap.size + 1, 0, none⟩ = some (.int .i64 2) := cell_keep hb2 (by go_simp)
  have c2_t_1 : w2.cell? ⟨w1.heap.size + 1, 1, none⟩ = some (.int .i64 0) := cell_keep hb2 (by go_simp)
  have c2_t_2 : w2.cell? ⟨w1.heap.size + 1, 2, none⟩ = some (.int .i64 0) := cell_keep hb2 (by go_simp)
  have c2_t_3 : w2.cell? ⟨w1.heap.size + 1, 3, none⟩ = some (.bool false) := cell_keep hb2 (by go_simp)
  have c2_t_4 : w2.cell? ⟨w1.heap.size + 1, 4, none⟩ = some (.slice none 0 0) := cell_keep hb2 (by go_simp)
  have l2_t : w1.heap.size + 1 < w2.heap.size := by omega
  have m2_t : w1.heap.size + 1 < w2.heap.size + 1 := by omega
  have HE2 := Lib.hid (HE1.out.below bb2)
  have BE2 := Lib.hid be2
  clear be2 bb2 hb2 BE1 c1_c_0 c1_c_1 c1_c_2 c1_c_3 c1_c_4 c1_c_5 c1_c_6 c1_c_7 l1_c m1_c HE1
  go_wp2_with fail
  have HLR := Lib.hid (ev_one c2_l_0 c2_l_1 c2_l_2)
  have HTR := Lib.hid (show KCell w2 (w1.heap.size + 1) 0 ev0 from ⟨c2_t_0, c2_t_1, c2_t_2, c2_t_3, c2_t_4⟩)
  refine wp_region_held_drew (S := (fun w' => Below w2.heap.size w2 w' ∧ ∀ b o, b < w2.heap.size → w'.cell? ⟨b, o, none⟩ = w2.cell? ⟨b, o, none⟩)) (by kernel_rfl) (holdS (Below.drew (Below.refl _ _))) (fun hHeld => ?_)
  refine wpAnyH_take (i := 0) (v := ?_) rfl (by kernel_rfl) (by kernel_rfl) (by kernel_rfl) (fun _ _ _ h => h) (Or.inl ⟨by rfl, ?hy⟩) (by assumption) ?_
  case hy =>
    intro W hSw
    (try dsimp only at hSw)
    first | (go_simp; done) | (go_simp; with_reducible rfl)
  (try simp only [List.getElem_toArray,  List.getElem_cons_zero, Act.put, List.setIfInBounds_toArray, List.set_cons_zero, List.set_cons_succ])
  refine wpAnyH_take (i := 3) (v := ?_) rfl (by kernel_rfl) (by kernel_rfl) (by kernel_rfl) (fun _ _ _ h => h) (Or.inl ⟨by rfl, ?hy⟩) (by assumption) ?_
  case hy =>
    intro W hSw
    (try dsimp only at hSw)
    first | (go_simp; done) | (go_simp; with_reducible rfl)
  (try simp only [List.getElem_toArray, List.getElem_cons_succ,  List.getElem_cons_zero, Act.put, List.setIfInBounds_toArray, List.set_cons_zero, List.set_cons_succ])
  refine wpAnyH_take (i := 4) (v := ?_) rfl (by kernel_rfl) (by kernel_rfl) (by kernel_rfl) (fun _ _ _ h => h) (Or.inl ⟨by rfl, ?hy⟩) (by assumption) ?_
  case hy =>
    intro W hSw
    (try dsimp only at hSw)
    first | (go_simp; done) | (go_simp; with_reducible rfl)
  (try simp only [List.getElem_toArray, List.getElem_cons_succ,  List.getElem_cons_zero, Act.put, List.setIfInBounds_toArray, List.set_cons_zero, List.set_cons_succ])
  refine wpAnyH_ready (rs := [1]) (by kernel_rfl) (by simp) ?_
  refine AllReadyH.cons rfl (fun K hK => ?_) AllReadyH.nil
  go_simp
  refine hK.out _ _ (holdS (by repeat (first | exact Below.refl _ _ | assumption | refine below_drewN ?_ _ | refine Below.setCell ?_ (by first | (simp; done) | (simp; omega)) _ | refine Below.alloc ?_ (by first | (simp; done) | (simp; omega) | omega) _ | refine Below.drew ?_ | refine Below.trans ?_ (Below.mono (by assumption) (by first | (simp; done) | (simp; omega) | omega))))) (fun hHeld => ?_)
  clear hK K
  obtain ⟨x1, hx1⟩ : ∃ x, x = (w2.alloc (.cells #[.int .i64 2, .int .i64 0, .int .i64 0, .bool false, .slice none 0 0] 24)).drew := ⟨_, rfl⟩
  have g1 : x1.heap[w2.heap.size]? = some (.cells #[.int .i64 2, .int .i64 0, .int .i64 0, .bool false, .slice none 0 0] 24 (0, 0)) := by rw [hx1]; exact World.alloc_heap_new _ _
  have bx1 : Below w2.heap.size w2 x1 := by rw [hx1]; exact (by repeat (first | exact Below.refl _ _ | assumption | refine below_drewN ?_ _ | refine Below.setCell ?_ (by first | (simp; done) | (simp; omega)) _ | refine Below.alloc ?_ (by first | (simp; done) | (simp; omega) | omega) _ | refine Below.drew ?_ | refine Below.trans ?_ (Below.mono (by assumption) (by first | (simp; done) | (simp; omega) | omega))))
  rw [← hx1] at hHeld ⊢
  clear hx1
  (try simp only [List.getElem_toArray, List.getElem_cons_succ,  List.getElem_cons_zero, Act.put, List.setIfInBounds_toArray, List.set_cons_zero, List.set_cons_succ])
  refine wpAnyH_ready (rs := [2]) (by kernel_rfl) (by simp) ?_
  refine AllReadyH.cons rfl (fun K hK => ?_) AllReadyH.nil
  go_simp
  refine (of_calls 4 3 true _ 1 1 _).mono ?_
  rintro e v1 ⟨rfl, hv1⟩
  go_wp2_with fail
  refine hK.out _ _ (holdT (by assumption) hv1) (fun hHeld => ?_)
  clear hK K
  (try simp only [List.getElem_toArray, List.getElem_cons_succ,  List.getElem_cons_zero, Act.put, List.setIfInBounds_toArray, List.set_cons_zero, List.set_cons_succ])
  have g1 := (hv1.block _ (Array.getElem?_eq_some_iff.1 g1).1).trans g1
  refine wpAnyH_ready (rs := [5]) (by kernel_rfl) (by simp) ?_
  refine AllReadyH.cons rfl (fun K hK => ?_) AllReadyH.nil
  go_simp
  refine (eval_at (.node 4 3 0 true (some ⟨w2.heap.size, 0, none⟩) 1 [ev0]) c0 (some ⟨w1.heap.size, 0, none⟩) 1 l0 _ (tat_one ⟨cell_at g1 rfl, cell_at g1 rfl, cell_at g1 rfl, cell_at g1 rfl, cell_at g1 rfl⟩ (tat_leaf _ _ _ _ _ _ _)) (.inl rfl) (HLR.out.below hHeld.1) (by decide) (HE2.out.below hHeld.1)).mono ?_
  rintro e w3 ⟨rfl, hv2⟩
  rw [x2]
  simp only [R3]
  go_wp2_with fail
  refine hK.out _ _ (holdT (by assumption) hv2) (fun hHeld => ?_)
  clear hK K
  (try simp only [List.getElem_toArray, List.getElem_cons_succ,  List.getElem_cons_zero, Act.put, List.setIfInBounds_toArray, List.set_cons_zero, List.set_cons_succ])
  clear g1 bx1 hv1
  refine wpAnyH_take (i := 6) (v := ?_) rfl (by kernel_rfl) (by kernel_rfl) (by kernel_rfl) (fun _ _ _ h => h) (Or.inl ⟨by rfl, ?hy⟩) (by assumption) ?_
  case hy =>
    intro W hSw
    (try dsimp only at hSw)
    first | (go_simp; done) | (go_simp; with_reducible rfl)
  (try simp only [List.getElem_toArray, List.getElem_cons_succ,  List.getElem_cons_zero, Act.put, List.setIfInBounds_toArray, List.set_cons_zero, List.set_cons_succ])
  refine wpAnyH_take (i := 7) (v := ?_) rfl (by kernel_rfl) (by kernel_rfl) (by kernel_rfl) (fun _ _ _ h => h) (Or.inl ⟨by rfl, ?hy⟩) (by assumption) ?_
  case hy =>
    intro W hSw
    (try dsimp only at hSw)
    first | (go_simp; done) | (go_simp; with_reducible rfl)
  (try simp only [List.getElem_toArray, List.getElem_cons_succ,  List.getElem_cons_zero, Act.put, List.setIfInBounds_toArray, List.set_cons_zero, List.set_cons_succ])
  refine wpAnyH_take (i := 8) (v := ?_) rfl (by kernel_rfl) (by kernel_rfl) (by kernel_rfl) (fun _ _ _ h => h) (Or.inl ⟨by rfl, ?hy⟩) (by assumption) ?_
  case hy =>
    intro W hSw
    (try dsimp only at hSw)
    first | (go_simp; done) | (go_simp; with_reducible rfl)
  (try simp only [List.getElem_toArray, List.getElem_cons_succ,  List.getElem_cons_zero, Act.put, List.setIfInBounds_toArray, List.set_cons_zero, List.set_cons_succ])
  refine wpAnyH_take (i := 9) (v := ?_) rfl (by kernel_rfl) (by kernel_rfl) (by kernel_rfl) (fun _ _ _ h => h) (Or.inl ⟨by rfl, ?hy⟩) (by assumption) ?_
  case hy =>
    intro W hSw
    (try dsimp only at hSw)
    first | (go_simp; done) | (go_simp; with_reducible rfl)
  (try simp only [List.getElem_toArray, List.getElem_cons_succ,  List.getElem_cons_zero, Act.put, List.setIfInBounds_toArray, List.set_cons_zero, List.set_cons_succ])
  refine wpAnyH_take (i := 10) (v := ?_) rfl (by kernel_rfl) (by kernel_rfl) (by kernel_rfl) (fun _ _ _ h => h) (Or.inl ⟨by rfl, ?hy⟩) (by assumption) ?_
  case hy =>
    intro W hSw
    (try dsimp only at hSw)
    first | (go_simp; done) | (go_simp; with_reducible rfl)
  (try simp only [List.getElem_toArray, List.getElem_cons_succ,  List.getElem_cons_zero, Act.put, List.setIfInBounds_toArray, List.set_cons_zero, List.set_cons_succ])
  refine wpAnyH_take (i := 11) (v := ?_) rfl (by kernel_rfl) (by kernel_rfl) (by kernel_rfl) (fun _ _ _ h => h) (Or.inl ⟨by rfl, ?hy⟩) (by assumption) ?_
  case hy =>
    intro W hSw
    (try dsimp only at hSw)
    first | (go_simp; done) | (go_simp; with_reducible rfl)
  (try simp only [List.getElem_toArray, List.getElem_cons_succ,  List.getElem_cons_zero, Act.put, List.setIfInBounds_toArray, List.set_cons_zero, List.set_cons_succ])
  refine wpAnyH_take (i := 12) (v := ?_) rfl (by kernel_rfl) (by kernel_rfl) (by kernel_rfl) (fun _ _ _ h => h) (Or.inl ⟨by rfl, ?hy⟩) (by assumption) ?_
  case hy =>
    intro W hSw
    (try dsimp only at hSw)
    first | (go_simp; done) | (go_simp; with_reducible rfl)
  (try simp only [List.getElem_toArray, List.getElem_cons_succ,  List.getElem_cons_zero, Act.put, List.setIfInBounds_toArray, List.set_cons_zero, List.set_cons_succ])
  refine wpAnyH_done (by kernel_rfl) ?_ _
  have bb3 : Below w2.heap.size w2 w3 := hHeld.1
  have hz3 := bb3.size
  clear hHeld hv2
  have be3 : Below w.heap.size w w3 := BE2.out.trans (bb3.mono BE2.out.size)
  have c3_c_0 : w3.cell? ⟨w.heap.size, 0, none⟩ = some (.bool false) := cell_keep bb3 c2_c_0
  have c3_c_1 : w3.cell? ⟨w.heap.size, 1, none⟩ = some (.bool false) := cell_keep bb3 c2_c_1
  have c3_c_2 : w3.cell? ⟨w.heap.size, 2, none⟩ = some (.bool false) := cell_keep bb3 c2_c_2
  have c3_c_3 : w3.cell? ⟨w.heap.size, 3, none⟩ = some (.bool false) := cell_keep bb3 c2_c_3
  have c3_c_4 : w3.cell? ⟨w.heap.size, 4, none⟩ = some (.bool false) := cell_keep bb3 c2_c_4
  have c3_c_5 : w3.cell? ⟨w.heap.size, 5, none⟩ = some (.bool true) := cell_keep bb3 c2_c_5
  have c3_c_6 : w3.cell? ⟨w.heap.size, 6, none⟩ = some (.bool true) := cell_keep bb3 c2_c_6
  have c3_c_7 : w3.cell? ⟨w.heap.size, 7, none⟩ = some (.slice none 0 0) := cell_keep bb3 c2_c_7
  have l3_c : w.heap.size < w3.heap.size := by omega
  have m3_c : w.heap.size < w3.heap.size + 1 := by omega
  have c3_l_0 : w3.cell? ⟨w1.heap.size, 0, none⟩ = some (.bool true) := cell_keep bb3 c2_l_0
  have c3_l_1 : w3.cell? ⟨w1.heap.size, 1, none⟩ = some (.int .i64 3) := cell_keep bb3 c2_l_1
  have c3_l_2 : w3.cell? ⟨w1.heap.size, 2, none⟩ = some (.int .i64 1000) := cell_keep bb3 c2_l_2
  have l3_l : w1.heap.size < w3.heap.size := by omega
  have m3_l : w1.heap.size < w3.heap.size + 1 := by omega
  have c3_t_0 : w3.cell? ⟨w1.heap.size + 1, 0, none⟩ = some (.int .i64 2) := cell_keep bb3 c2_t_0
  have c3_t_1 : w3.cell? ⟨w1.heap.size + 1, 1, none⟩ = some (.int .i64 0) := cell_keep bb3 c2_t_1
  have c3_t_2 : w3.cell? ⟨w1.heap.size + 1, 2, none⟩ = some (.int .i64 0) := cell_keep bb3 c2_t_2
  have c3_t_3 : w3.cell? ⟨w1.heap.size + 1, 3, none⟩ = some (.bool false) := cell_keep bb3 c2_t_3
  have c3_t_4 : w3.cell? ⟨w1.heap.size + 1, 4, none⟩ = some (.slice none 0 0) := cell_keep bb3 c2_t_4
  have l3_t : w1.heap.size + 1 < w3.heap.size := by omega
  have m3_t : w1.heap.size + 1 < w3.heap.size + 1 := by omega
  have HE3 := Lib.hid (HE2.out.below bb3)
  have BE3 := Lib.hid be3
  clear be3 bb3 BE2 c2_c_0 c2_c_1 c2_c_2 c2_c_3 c2_c_4 c2_c_5 c2_c_6 c2_c_7 l2_c m2_c c2_l_0 c2_l_1 c2_l_2 l2_l m2_l c2_t_0 c2_t_1 c2_t_2 c2_t_3 c2_t_4 l2_t m2_t HE2
  clear HLR HTR
  go_wp2_with fail
  have HLR := Lib.hid (ev_one c3_l_0 c3_l_1 c3_l_2)
  have HTR := Lib.hid (show KCell w3 (w1.heap.size + 1) 0 ev0 from ⟨c3_t_0, c3_t_1, c3_t_2, c3_t_3, c3_t_4⟩)
  refine wp_region_held_drew (S := (fun w' => Below w3.heap.size w3 w' ∧ ∀ b o, b < w3.heap.size → w'.cell? ⟨b, o, none⟩ = w3.cell? ⟨b, o, none⟩)) (by kernel_rfl) (holdS (Below.drew (Below.refl _ _))) (fun hHeld => ?_)
  refine wpAnyH_take (i := 0) (v := ?_) rfl (by kernel_rfl) (by kernel_rfl) (by kernel_rfl) (fun _ _ _ h => h) (Or.inl ⟨by rfl, ?hy⟩) (by assumption) ?_
  case hy =>
    intro W hSw
    (try dsimp only at hSw)
    first | (go_simp; done) | (go_simp; with_reducible rfl)
  (try simp only [List.getElem_toArray,  List.getElem_cons_zero, Act.put, List.setIfInBounds_toArray, List.set_cons_zero, List.set_cons_succ])
  refine wpAnyH_take (i := 1) (v := ?_) rfl (by kernel_rfl) (by kernel_rfl) (by kernel_rfl) (fun _ _ _ h => h) (Or.inl ⟨by rfl, ?hy⟩) (by assumption) ?_
  case hy =>
    intro W hSw
    (try dsimp only at hSw)
    first | (go_simp; done) | (go_simp; with_reducible rfl)
  (try simp only [List.getElem_toArray, List.getElem_cons_succ,  List.getElem_cons_zero, Act.put, List.setIfInBounds_toArray, List.set_cons_zero, List.set_cons_succ])
  refine wpAnyH_take (i := 6) (v := ?_) rfl (by kernel_rfl) (by kernel_rfl) (by kernel_rfl) (fun _ _ _ h => h) (Or.inl ⟨by rfl, ?hy⟩) (by assumption) ?_
  case hy =>
    intro W hSw
    (try dsimp only at hSw)
    first | (go_simp; done) | (go_simp; with_reducible rfl)
  (try simp only [List.getElem_toArray, List.getElem_cons_succ,  List.getElem_cons_zero, Act.put, List.setIfInBounds_toArray, List.set_cons_zero, List.set_cons_succ])
  refine wpAnyH_take (i := 7) (v := ?_) rfl (by kernel_rfl) (by kernel_rfl) (by kernel_rfl) (fun _ _ _ h => h) (Or.inl ⟨by rfl, ?hy⟩) (by assumption) ?_
  case hy =>
    intro W hSw
    (try dsimp only at hSw)
    first | (go_simp; done) | (go_simp; with_reducible rfl)
  (try simp only [List.getElem_toArray, List.getElem_cons_succ,  List.getElem_cons_zero, Act.put, List.setIfInBounds_toArray, List.set_cons_zero, List.set_cons_succ])
  refine wpAnyH_ready (rs := [2]) (by kernel_rfl) (by simp) ?_
  refine AllReadyH.cons rfl (fun K hK => ?_) AllReadyH.nil
  go_simp
  refine hK.out _ _ (holdS (by repeat (first | exact Below.refl _ _ | assumption | refine below_drewN ?_ _ | refine Below.setCell ?_ (by first | (simp; done) | (simp; omega)) _ | refine Below.alloc ?_ (by first | (simp; done) | (simp; omega) | omega) _ | refine Below.drew ?_ | refine Below.trans ?_ (Below.mono (by assumption) (by first | (simp; done) | (simp; omega) | omega))))) (fun hHeld => ?_)
  clear hK K
  obtain ⟨x1, hx1⟩ : ∃ x, x = (w3.alloc (.cells #[.int .i64 2, .int .i64 0, .int .i64 0, .bool false, .slice none 0 0] 24)).drew := ⟨_, rfl⟩
  have g1 : x1.heap[w3.heap.size]? = some (.cells #[.int .i64 2, .int .i64 0, .int .i64 0, .bool false, .slice none 0 0] 24 (0, 0)) := by rw [hx1]; exact World.alloc_heap_new _ _
  have bx1 : Below w3.heap.size w3 x1 := by rw [hx1]; exact (by repeat (first | exact Below.refl _ _ | assumption | refine below_drewN ?_ _ | refine Below.setCell ?_ (by first | (simp; done) | (simp; omega)) _ | refine Below.alloc ?_ (by first | (simp; done) | (simp; omega) | omega) _ | refine Below.drew ?_ | refine Below.trans ?_ (Below.mono (by assumption) (by first | (simp; done) | (simp; omega) | omega))))
  rw [← hx1] at hHeld ⊢
  clear hx1
  (try simp only [List.getElem_toArray, List.getElem_cons_succ,  List.getElem_cons_zero, Act.put, List.setIfInBounds_toArray, List.set_cons_zero, List.set_cons_succ])
  refine wpAnyH_ready (rs := [3]) (by kernel_rfl) (by simp) ?_
  refine AllReadyH.cons rfl (fun K hK => ?_) AllReadyH.nil
  go_simp
  refine (of_calls 5 1 false _ 1 1 _).mono ?_
  rintro e v1 ⟨rfl, hv1⟩
  go_wp2_with fail
  refine hK.out _ _ (holdT (by assumption) hv1) (fun hHeld => ?_)
  clear hK K
  (try simp only [List.getElem_toArray, List.getElem_cons_succ,  List.getElem_cons_zero, Act.put, List.setIfInBounds_toArray, List.set_cons_zero, List.set_cons_succ])
  have g1 := (hv1.block _ (Array.getElem?_eq_some_iff.1 g1).1).trans g1
  refine wpAnyH_ready (rs := [4]) (by kernel_rfl) (by simp) ?_
  refine AllReadyH.cons rfl (fun K hK => ?_) AllReadyH.nil
  go_simp
  refine hK.out _ _ (holdT (by assumption) (by repeat (first | exact Below.refl _ _ | assumption | refine below_drewN ?_ _ | refine Below.setCell ?_ (by first | (simp; done) | (simp; omega)) _ | refine Below.alloc ?_ (by first | (simp; done) | (simp; omega) | omega) _ | refine Below.drew ?_ | refine Below.trans ?_ (Below.mono (by assumption) (by first | (simp; done) | (simp; omega) | omega))))) (fun hHeld => ?_)
  clear hK K
  obtain ⟨x2, hx2⟩ : ∃ x, x = v1.alloc (.cells #[.int .i64 1, .int .i64 10, .int .i64 0, .bool false, .slice none 0 0, .int .i64 5, .int .i64 1, .int .i64 0, .bool false, .slice (some ⟨w3.heap.size, 0, none⟩) 1 1] 24) := ⟨_, rfl⟩
  have g2 : x2.heap[v1.heap.size]? = some (.cells #[.int .i64 1, .int .i64 10, .int .i64 0, .bool false, .slice none 0 0, .int .i64 5, .int .i64 1, .int .i64 0, .bool false, .slice (some ⟨w3.heap.size, 0, none⟩) 1 1] 24 (0, 0)) := by rw [hx2]; exact World.alloc_heap_new _ _
  have bx2 : Below v1.heap.size v1 x2 := by rw [hx2]; exact (by repeat (first | exact Below.refl _ _ | assumption | refine below_drewN ?_ _ | refine Below.setCell ?_ (by first | (simp; done) | (simp; omega)) _ | refine Below.alloc ?_ (by first | (simp; done) | (simp; omega) | omega) _ | refine Below.drew ?_ | refine Below.trans ?_ (Below.mono (by assumption) (by first | (simp; done) | (simp; omega) | omega))))
  rw [← hx2] at hHeld ⊢
  clear hx2
  (try simp only [List.getElem_toArray, List.getElem_cons_succ,  List.getElem_cons_zero, Act.put, List.setIfInBounds_toArray, List.set_cons_zero, List.set_cons_succ])
  have g1 := (bx2.block _ (Array.getElem?_eq_some_iff.1 g1).1).trans g1
  refine wpAnyH_ready (rs := [5]) (by kernel_rfl) (by simp) ?_
  refine AllReadyH.cons rfl (fun K hK => ?_) AllReadyH.nil
  go_simp
  refine (of_calls 8 0 false _ 2 2 _).mono ?_
  rintro e v2 ⟨rfl, hv2⟩
  go_wp2_with fail
  refine hK.out _ _ (holdT (by assumption) hv2) (fun hHeld => ?_)
  clear hK K
  (try simp only [List.getElem_toArray, List.getElem_cons_succ,  List.getElem_cons_zero, Act.put, List.setIfInBounds_toArray, List.set_cons_zero, List.set_cons_succ])
  have g1 := (hv2.block _ (Array.getElem?_eq_some_iff.1 g1).1).trans g1
  have g2 := (hv2.block _ (Array.getElem?_eq_some_iff.1 g2).1).trans g2
  refine wpAnyH_ready (rs := [8]) (by kernel_rfl) (by simp) ?_
  refine AllReadyH.cons rfl (fun K hK => ?_) AllReadyH.nil
  go_simp
  refine (eval_at (.node 8 0 0 false (some ⟨v1.heap.size, 0, none⟩) 2 [dy 10, .node 5 1 0 false (some ⟨w3.heap.size, 0, none⟩) 1 [ev0]]) c0 (some ⟨w1.heap.size, 0, none⟩) 1 l0 _ (tat_two ⟨cell_at g2 rfl, cell_at g2 rfl, cell_at g2 rfl, cell_at g2 rfl, cell_at g2 rfl⟩ (tat_leaf _ _ _ _ _ _ _) ⟨cell_at g2 rfl, cell_at g2 rfl, cell_at g2 rfl, cell_at g2 rfl, cell_at g2 rfl⟩ (tat_one ⟨cell_at g1 rfl, cell_at g1 rfl, cell_at g1 rfl, cell_at g1 rfl, cell_at g1 rfl⟩ (tat_leaf _ _ _ _ _ _ _))) (.inl rfl) (HLR.out.below hHeld.1) (by decide) (HE3.out.below hHeld.1)).mono ?_
  rintro e w4 ⟨rfl, hv3⟩
  rw [x3]
  simp only [R3]
  go_wp2_with fail
  refine hK.out _ _ (holdT (by assumption) hv3) (fun hHeld => ?_)
  clear hK K
  (try simp only [List.getElem_toArray, List.getElem_cons_succ,  List.getElem_cons_zero, Act.put, List.setIfInBounds_toArray, List.set_cons_zero, List.set_cons_succ])
  clear g1 g2 bx1 bx2 hv1 hv2
  refine wpAnyH_take (i := 9) (v := ?_) rfl (by kernel_rfl) (by kernel_rfl) (by kernel_rfl) (fun _ _ _ h => h) (Or.inl ⟨by rfl, ?hy⟩) (by assumption) ?_
  case hy =>
    intro W hSw
    (try dsimp only at hSw)
    first | (go_simp; done) | (go_simp; with_reducible rfl)
  (try simp only [List.getElem_toArray, List.getElem_cons_succ,  List.getElem_cons_zero, Act.put, List.setIfInBounds_toArray, List.set_cons_zero, List.set_cons_succ])
  refine wpAnyH_take (i := 10) (v := ?_) rfl (by kernel_rfl) (by kernel_rfl) (by kernel_rfl) (fun _ _ _ h => h) (Or.inl ⟨by rfl, ?hy⟩) (by assumption) ?_
  case hy =>
    intro W hSw
    (try dsimp only at hSw)
    first | (go_simp; done) | (go_simp; with_reducible rfl)
  (try simp only [List.getElem_toArray, List.getElem_cons_succ,  List.getElem_cons_zero, Act.put, List.setIfInBounds_toArray, List.set_cons_zero, List.set_cons_succ])
  refine wpAnyH_take (i := 11) (v := ?_) rfl (by kernel_rfl) (by kernel_rfl) (by kernel_rfl) (fun _ _ _ h => h) (Or.inl ⟨by rfl, ?hy⟩) (by assumption) ?_
  case hy =>
    intro W hSw
    (try dsimp only at hSw)
    first | (go_simp; done) | (go_simp; with_reducible rfl)
  (try simp only [List.getElem_toArray, List.getElem_cons_succ,  List.getElem_cons_zero, Act.put, List.setIfInBounds_toArray, List.set_cons_zero, List.set_cons_succ])
  refine wpAnyH_take (i := 12) (v := ?_) rfl (by kernel_rfl) (by kernel_rfl) (by kernel_rfl) (fun _ _ _ h => h) (Or.inl ⟨by rfl, ?hy⟩) (by assumption) ?_
  case hy =>
    intro W hSw
    (try dsimp only at hSw)
    first | (go_simp; done) | (go_simp; with_reducible rfl)
  (try simp only [List.getElem_toArray, List.getElem_cons_succ,  List.getElem_cons_zero, Act.put, List.setIfInBounds_toArray, List.set_cons_zero, List.set_cons_succ])
  refine wpAnyH_take (i := 13) (v := ?_) rfl (by kernel_rfl) (by kernel_rfl) (by kernel_rfl) (fun _ _ _ h => h) (Or.inl ⟨by rfl, ?hy⟩) (by assumption) ?_
  case hy =>
    intro W hSw
    (try dsimp only at hSw)
    first | (go_simp; done) | (go_simp; with_reducible rfl)
  (try simp only [List.getElem_toArray, List.getElem_cons_succ,  List.getElem_cons_zero, Act.put, List.setIfInBounds_toArray, List.set_cons_zero, List.set_cons_succ])
  refine wpAnyH_take (i := 14) (v := ?_) rfl (by kernel_rfl) (by kernel_rfl) (by kernel_rfl) (fun _ _ _ h => h) (Or.inl ⟨by rfl, ?hy⟩) (by assumption) ?_
  case hy =>
    intro W hSw
    (try dsimp only at hSw)
    first | (go_simp; done) | (go_simp; with_reducible rfl)
  (try simp only [List.getElem_toArray, List.getElem_cons_succ,  List.getElem_cons_zero, Act.put, List.setIfInBounds_toArray, List.set_cons_zero, List.set_cons_succ])
  refine wpAnyH_take (i := 15) (v := ?_) rfl (by kernel_rfl) (by kernel_rfl) (by kernel_rfl) (fun _ _ _ h => h) (Or.inl ⟨by rfl, ?hy⟩) (by assumption) ?_
  case hy =>
    intro W hSw
    (try dsimp only at hSw)
    first | (go_simp; done) | (go_simp; with_reducible rfl)
  (try simp only [List.getElem_toArray, List.getElem_cons_succ,  List.getElem_cons_zero, Act.put, List.setIfInBounds_toArray, List.set_cons_zero, List.set_cons_succ])
  refine wpAnyH_done (by kernel_rfl) ?_ _
  have bb4 : Below w3.heap.size w3 w4 := hHeld.1
  have hz4 := bb4.size
  clear hHeld hv3
  have be4 : Below w.heap.size w w4 := BE3.out.trans (bb4.mono BE3.out.size)
  have c4_c_0 : w4.cell? ⟨w.heap.size, 0, none⟩ = some (.bool false) := cell_keep bb4 c3_c_0
  have c4_c_1 : w4.cell? ⟨w.heap.size, 1, none⟩ = some (.bool false) := cell_keep bb4 c3_c_1
  have c4_c_2 : w4.cell? ⟨w.heap.size, 2, none⟩ = some (.bool false) := cell_keep bb4 c3_c_2
  have c4_c_3 : w4.cell? ⟨w.heap.size, 3, none⟩ = some (.bool false) := cell_keep bb4 c3_c_3
  have c4_c_4 : w4.cell? ⟨w.heap.size, 4, none⟩ = some (.bool false) := cell_keep bb4 c3_c_4
  have c4_c_5 : w4.cell? ⟨w.heap.size, 5, none⟩ = some (.bool true) := cell_keep bb4 c3_c_5
  have c4_c_6 : w4.cell? ⟨w.heap.size, 6, none⟩ = some (.bool true) := cell_keep bb4 c3_c_6
  have c4_c_7 : w4.cell? ⟨w.heap.size, 7, none⟩ = some (.slice none 0 0) := cell_keep bb4 c3_c_7
  have l4_c : w.heap.size < w4.heap.size := by omega
  have m4_c : w.heap.size < w4.heap.size + 1 := by omega
  have c4_l_0 : w4.cell? ⟨w1.heap.size, 0, none⟩ = some (.bool true) := cell_keep bb4 c3_l_0
  have c4_l_1 : w4.cell? ⟨w1.heap.size, 1, none⟩ = some (.int .i64 3) := cell_keep bb4 c3_l_1
  have c4_l_2 : w4.cell? ⟨w1.heap.size, 2, none⟩ = some (.int .i64 1000) := cell_keep bb4 c3_l_2
  have l4_l : w1.heap.size < w4.heap.size := by omega
  have m4_l : w1.heap.size < w4.heap.size + 1 := by omega
  have c4_t_0 : w4.cell? ⟨w1.heap.size + 1, 0, none⟩ = some (.int .i64 2) := cell_keep bb4 c3_t_0
  have c4_t_1 : w4.cell? ⟨w1.heap.size + 1, 1, none⟩ = some (.int .i64 0) := cell_keep bb4 c3_t_1
  have c4_t_2 : w4.cell? ⟨w1.heap.size + 1, 2, none⟩ = some (.int .i64 0) := cell_keep bb4 c3_t_2
  have c4_t_3 : w4.cell? ⟨w1.heap.size + 1, 3, none⟩ = some (.bool false) := cell_keep bb4 c3_t_3
  have c4_t_4 : w4.cell? ⟨w1.heap.size + 1, 4, none⟩ = some (.slice none 0 0) := cell_keep bb4 c3_t_4
  have l4_t : w1.heap.size + 1 < w4.heap.size := by omega
  have m4_t : w1.heap.size + 1 < w4.heap.size + 1 := by omega
  have HE4 := Lib.hid (HE3.out.below bb4)
  have BE4 := Lib.hid be4
  clear be4 bb4 BE3 c3_c_0 c3_c_1 c3_c_2 c3_c_3 c3_c_4 c3_c_5 c3_c_6 c3_c_7 l3_c m3_c c3_l_0 c3_l_1 c3_l_2 l3_l m3_l c3_t_0 c3_t_1 c3_t_2 c3_t_3 c3_t_4 l3_t m3_t HE3
  clear HLR HTR
  go_wp2_with fail
  refine (eval_at ev0 c0 (some ⟨w4.heap.size, 0, none⟩) 1 [⟨false, 0, 0⟩] _ (tat_leaf _ _ _ _ _ _ _) (.inl rfl) (ev_one (by go_simp) (by go_simp) (by go_simp)) (by decide) (HE4.out.below (by repeat (first | exact Below.refl _ _ | assumption | refine below_drewN ?_ _ | refine Below.setCell ?_ (by first | (simp; done) | (simp; omega)) _ | refine Below.alloc ?_ (by first | (simp; done) | (simp; omega) | omega) _ | refine Below.drew ?_ | refine Below.trans ?_ (Below.mono (by assumption) (by first | (simp; done) | (simp; omega) | omega)))))).mono ?_
  rintro e w5 ⟨rfl, hb5⟩
  rw [x4]
  simp only [R3]
  have hz5 := hb5.size
  (try simp at hz5)
  have bb5 : Below w4.heap.size w4 w5 := (by repeat (first | exact Below.refl _ _ | assumption | refine below_drewN ?_ _ | refine Below.setCell ?_ (by first | (simp; done) | (simp; omega)) _ | refine Below.alloc ?_ (by first | (simp; done) | (simp; omega) | omega) _ | refine Below.drew ?_ | refine Below.trans ?_ (Below.mono (by assumption) (by first | (simp; done) | (simp; omega) | omega))))
  have be5 : Below w.heap.size w w5 := BE4.out.trans (bb5.mono BE4.out.size)
  have c5_c_0 : w5.cell? ⟨w.heap.size, 0, none⟩ = some (.bool false) := cell_keep bb5 c4_c_0
  have c5_c_1 : w5.cell? ⟨w.heap.size, 1, none⟩ = some (.bool false) := cell_keep bb5 c4_c_1
  have c5_c_2 : w5.cell? ⟨w.heap.size, 2, none⟩ = some (.bool false) := cell_keep bb5 c4_c_2
  have c5_c_3 : w5.cell? ⟨w.heap.size, 3, none⟩ = some (.bool false) := cell_keep bb5 c4_c_3
  have c5_c_4 : w5.cell? ⟨w.heap.size, 4, none⟩ = some (.bool false) := cell_keep bb5 c4_c_4
  have c5_c_5 : w5.cell? ⟨w.heap.size, 5, none⟩ = some (.bool true) := cell_keep bb5 c4_c_5
  have c5_c_6 : w5.cell? ⟨w.heap.size, 6, none⟩ = some (.bool true) := cell_keep bb5 c4_c_6
  have c5_c_7 : w5.cell? ⟨w.heap.size, 7, none⟩ = some (.slice none 0 0) := cell_keep bb5 c4_c_7
  have l5_c : w.heap.size < w5.heap.size := by omega
  have m5_c : w.heap.size < w5.heap.size + 1 := by omega
  have c5_l_0 : w5.cell? ⟨w1.heap.size, 0, none⟩ = some (.bool true) := cell_keep bb5 c4_l_0
  have c5_l_1 : w5.cell? ⟨w1.heap.size, 1, none⟩ = some (.int .i64 3) := cell_keep bb5 c4_l_1
  have c5_l_2 : w5.cell? ⟨w1.heap.size, 2, none⟩ = some (.int .i64 1000) := cell_keep bb5 c4_l_2
  have l5_l : w1.heap.size < w5.heap.size := by omega
  have m5_l : w1.heap.size < w5.heap.size + 1 := by omega
  have c5_t_0 : w5.cell? ⟨w1.heap.size + 1, 0, none⟩ = some (.int .i64 2) := cell_keep bb5 c4_t_0
  have c5_t_1 : w5.cell? ⟨w1.heap.size + 1, 1, none⟩ = some (.int .i64 0) := cell_keep bb5 c4_t_1
  have c5_t_2 : w5.cell? ⟨w1.heap.size + 1, 2, none⟩ = some (.int .i64 0) := cell_keep bb5 c4_t_2
  have c5_t_3 : w5.cell? ⟨w1.heap.size + 1, 3, none⟩ = some (.bool false) := cell_keep bb5 c4_t_3
  have c5_t_4 : w5.cell? ⟨w1.heap.size + 1, 4, none⟩ = some (.slice none 0 0) := cell_keep bb5 c4_t_4
  have l5_t : w1.heap.size + 1 < w5.heap.size := by omega
  have m5_t : w1.heap.size + 1 < w5.heap.size + 1 := by omega
  have HE5 := Lib.hid (HE4.out.below bb5)
  have BE5 := Lib.hid be5
  clear be5 bb5 hb5 BE4 c4_c_0 c4_c_1 c4_c_2 c4_c_3 c4_c_4 c4_c_5 c4_c_6 c4_c_7 l4_c m4_c c4_l_0 c4_l_1 c4_l_2 l4_l m4_l c4_t_0 c4_t_1 c4_t_2 c4_t_3 c4_t_4 l4_t m4_t HE4
  go_wp2_with fail
  have HLR := Lib.hid (ev_one c5_l_0 c5_l_1 c5_l_2)
  have HTR := Lib.hid (show KCell w5 (w1.heap.size + 1) 0 ev0 from ⟨c5_t_0, c5_t_1, c5_t_2, c5_t_3, c5_t_4⟩)
  refine wp_region_held_drew (S := (fun w' => Below w5.heap.size w5 w' ∧ ∀ b o, b < w5.heap.size → w'.cell? ⟨b, o, none⟩ = w5.cell? ⟨b, o, none⟩)) (by kernel_rfl) (holdS (Below.drew (Below.refl _ _))) (fun hHeld => ?_)
  refine wpAnyH_take (i := 0) (v := ?_) rfl (by kernel_rfl) (by kernel_rfl) (by kernel_rfl) (fun _ _ _ h => h) (Or.inl ⟨by rfl, ?hy⟩) (by assumption) ?_
  case hy =>
    intro W hSw
    (try dsimp only at hSw)
    first | (go_simp; done) | (go_simp; with_reducible rfl)
  (try simp only [List.getElem_toArray,  List.getElem_cons_zero, Act.put, List.setIfInBounds_toArray, List.set_cons_zero, List.set_cons_succ])
  refine wpAnyH_take (i := 3) (v := ?_) rfl (by kernel_rfl) (by kernel_rfl) (by kernel_rfl) (fun _ _ _ h => h) (Or.inl ⟨by rfl, ?hy⟩) (by assumption) ?_
  case hy =>
    intro W hSw
    (try dsimp only at hSw)
    first | (go_simp; done) | (go_simp; with_reducible rfl)
  (try simp only [List.getElem_toArray, List.getElem_cons_succ,  List.getElem_cons_zero, Act.put, List.setIfInBounds_toArray, List.set_cons_zero, List.set_cons_succ])
  refine wpAnyH_ready (rs := [1]) (by kernel_rfl) (by simp) ?_
  refine AllReadyH.cons rfl (fun K hK => ?_) AllReadyH.nil
  go_simp
  refine hK.out _ _ (holdS (by repeat (first | exact Below.refl _ _ | assumption | refine below_drewN ?_ _ | refine Below.setCell ?_ (by first | (simp; done) | (simp; omega)) _ | refine Below.alloc ?_ (by first | (simp; done) | (simp; omega) | omega) _ | refine Below.drew ?_ | refine Below.trans ?_ (Below.mono (by assumption) (by first | (simp; done) | (simp; omega) | omega))))) (fun hHeld => ?_)
  clear hK K
  obtain ⟨x1, hx1⟩ : ∃ x, x = (w5.alloc (.cells #[.int .i64 1, .int .i64 73048, .int .i64 0, .bool false, .slice none 0 0] 24)).drew := ⟨_, rfl⟩
  have g1 : x1.heap[w5.heap.size]? = some (.cells #[.int .i64 1, .int .i64 73048, .int .i64 0, .bool false, .slice none 0 0] 24 (0, 0)) := by rw [hx1]; exact World.alloc_heap_new _ _
  have bx1 : Below w5.heap.size w5 x1 := by rw [hx1]; exact (by repeat (first | exact Below.refl _ _ | assumption | refine below_drewN ?_ _ | refine Below.setCell ?_ (by first | (simp; done) | (simp; omega)) _ | refine Below.alloc ?_ (by first | (simp; done) | (simp; omega) | omega) _ | refine Below.drew ?_ | refine Below.trans ?_ (Below.mono (by assumption) (by first | (simp; done) | (simp; omega) | omega))))
  rw [← hx1] at hHeld ⊢
  clear hx1
  (try simp only [List.getElem_toArray, List.getElem_cons_succ,  List.getElem_cons_zero, Act.put, List.setIfInBounds_toArray, List.set_cons_zero, List.set_cons_succ])
  refine wpAnyH_ready (rs := [2]) (by kernel_rfl) (by simp) ?_
  refine AllReadyH.cons rfl (fun K hK => ?_) AllReadyH.nil
  go_simp
  refine (of_calls 4 1 false _ 1 1 _).mono ?_
  rintro e v1 ⟨rfl, hv1⟩
  go_wp2_with fail
  refine hK.out _ _ (holdT (by assumption) hv1) (fun hHeld => ?_)
  clear hK K
  (try simp only [List.getElem_toArray, List.getElem_cons_succ,  List.getElem_cons_zero, Act.put, List.setIfInBounds_toArray, List.set_cons_zero, List.set_cons_succ])
  have g1 := (hv1.block _ (Array.getElem?_eq_some_iff.1 g1).1).trans g1
  refine wpAnyH_ready (rs := [4]) (by kernel_rfl) (by simp) ?_
  refine AllReadyH.cons rfl (fun K hK => ?_) AllReadyH.nil
  go_simp
  refine (eval_at (.node 4 1 0 false (some ⟨w5.heap.size, 0, none⟩) 1 [dy 73048]) c0 none 0 [] _ (tat_one ⟨cell_at g1 rfl, cell_at g1 rfl, cell_at g1 rfl, cell_at g1 rfl, cell_at g1 rfl⟩ (tat_leaf _ _ _ _ _ _ _)) (.inl rfl) (.inl rfl) (by decide) (HE5.out.below hHeld.1)).mono ?_
  rintro e w6 ⟨rfl, hv2⟩
  rw [x5]
  simp only [R3]
  go_wp2_with fail
  refine hK.out _ _ (holdT (by assumption) hv2) (fun hHeld => ?_)
  clear hK K
  (try simp only [List.getElem_toArray, List.getElem_cons_succ,  List.getElem_cons_zero, Act.put, List.setIfInBounds_toArray, List.set_cons_zero, List.set_cons_succ])
  clear g1 bx1 hv1
  refine wpAnyH_take (i := 5) (v := ?_) rfl (by kernel_rfl) (by kernel_rfl) (by kernel_rfl) (fun _ _ _ h => h) (Or.inl ⟨by rfl, ?hy⟩) (by assumption) ?_
  case hy =>
    intro W hSw
    (try dsimp only at hSw)
    first | (go_simp; done) | (go_simp; with_reducible rfl)
  (try simp only [List.getElem_toArray, List.getElem_cons_succ,  List.getElem_cons_zero, Act.put, List.setIfInBounds_toArray, List.set_cons_zero, List.set_cons_succ])
  refine wpAnyH_take (i := 6) (v := ?_) rfl (by kernel_rfl) (by kernel_rfl) (by kernel_rfl) (fun _ _ _ h => h) (Or.inl ⟨by rfl, ?hy⟩) (by assumption) ?_
  case hy =>
    intro W hSw
    (try dsimp only at hSw)
    first | (go_simp; done) | (go_simp; with_reducible rfl)
  (try simp only [List.getElem_toArray, List.getElem_cons_succ,  List.getElem_cons_zero, Act.put, List.setIfInBounds_toArray, List.set_cons_zero, List.set_cons_succ])
  refine wpAnyH_take (i := 7) (v := ?_) rfl (by kernel_rfl) (by kernel_rfl) (by kernel_rfl) (fun _ _ _ h => h) (Or.inl ⟨by rfl, ?hy⟩) (by assumption) ?_
  case hy =>
    intro W hSw
    (try dsimp only at hSw)
    first | (go_simp; done) | (go_simp; with_reducible rfl)
  (try simp only [List.getElem_toArray, List.getElem_cons_succ,  List.getElem_cons_zero, Act.put, List.setIfInBounds_toArray, List.set_cons_zero, List.set_cons_succ])
  refine wpAnyH_take (i := 8) (v := ?_) rfl (by kernel_rfl) (by kernel_rfl) (by kernel_rfl) (fun _ _ _ h => h) (Or.inl ⟨by rfl, ?hy⟩) (by assumption) ?_
  case hy =>
    intro W hSw
    (try dsimp only at hSw)
    first | (go_simp; done) | (go_simp; with_reducible rfl)
  (try simp only [List.getElem_toArray, List.getElem_cons_succ,  List.getElem_cons_zero, Act.put, List.setIfInBounds_toArray, List.set_cons_zero, List.set_cons_succ])
  refine wpAnyH_take (i := 9) (v := ?_) rfl (by kernel_rfl) (by kernel_rfl) (by kernel_rfl) (fun _ _ _ h => h) (Or.inl ⟨by rfl, ?hy⟩) (by assumption) ?_
  case hy =>
    intro W hSw
    (try dsimp only at hSw)
    first | (go_simp; done) | (go_simp; with_reducible rfl)
  (try simp only [List.getElem_toArray, List.getElem_cons_succ,  List.getElem_cons_zero, Act.put, List.setIfInBounds_toArray, List.set_cons_zero, List.set_cons_succ])
  refine wpAnyH_take (i := 10) (v := ?_) rfl (by kernel_rfl) (by kernel_rfl) (by kernel_rfl) (fun _ _ _ h => h) (Or.inl ⟨by rfl, ?hy⟩) (by assumption) ?_
  case hy =>
    intro W hSw
    (try dsimp only at hSw)
    first | (go_simp; done) | (go_simp; with_reducible rfl)
  (try simp only [List.getElem_toArray, List.getElem_cons_succ,  List.getElem_cons_zero, Act.put, List.setIfInBounds_toArray, List.set_cons_zero, List.set_cons_succ])
  refine wpAnyH_take (i := 11) (v := ?_) rfl (by kernel_rfl) (by kernel_rfl) (by kernel_rfl) (fun _ _ _ h => h) (Or.inl ⟨by rfl, ?hy⟩) (by assumption) ?_
  case hy =>
    intro W hSw
    (try dsimp only at hSw)
    first | (go_simp; done) | (go_simp; with_reducible rfl)
  (try simp only [List.getElem_toArray, List.getElem_cons_succ,  List.getElem_cons_zero, Act.put, List.setIfInBounds_toArray, List.set_cons_zero, List.set_cons_succ])
  refine wpAnyH_done (by kernel_rfl) ?_ _
  have bb6 : Below w5.heap.size w5 w6 := hHeld.1
  have hz6 := bb6.size
  clear hHeld hv2
  have be6 : Below w.heap.size w w6 := BE5.out.trans (bb6.mono BE5.out.size)
  have c6_c_0 : w6.cell? ⟨w.heap.size, 0, none⟩ = some (.bool false) := cell_keep bb6 c5_c_0
  have c6_c_1 : w6.cell? ⟨w.heap.size, 1, none⟩ = some (.bool false) := cell_keep bb6 c5_c_1
  have c6_c_2 : w6.cell? ⟨w.heap.size, 2, none⟩ = some (.bool false) := cell_keep bb6 c5_c_2
  have c6_c_3 : w6.cell? ⟨w.heap.size, 3, none⟩ = some (.bool false) := cell_keep bb6 c5_c_3
  have c6_c_4 : w6.cell? ⟨w.heap.size, 4, none⟩ = some (.bool false) := cell_keep bb6 c5_c_4
  have c6_c_5 : w6.cell? ⟨w.heap.size, 5, none⟩ = some (.bool true) := cell_keep bb6 c5_c_5
  have c6_c_6 : w6.cell? ⟨w.heap.size, 6, none⟩ = some (.bool true) := cell_keep bb6 c5_c_6
  have c6_c_7 : w6.cell? ⟨w.heap.size, 7, none⟩ = some (.slice none 0 0) := cell_keep bb6 c5_c_7
  have l6_c : w.heap.size < w6.heap.size := by omega
  have m6_c : w.heap.size < w6.heap.size + 1 := by omega
  have c6_l_0 : w6.cell? ⟨w1.heap.size, 0, none⟩ = some (.bool true) := cell_keep bb6 c5_l_0
  have c6_l_1 : w6.cell? ⟨w1.heap.size, 1, none⟩ = some (.int .i64 3) := cell_keep bb6 c5_l_1
  have c6_l_2 : w6.cell? ⟨w1.heap.size, 2, none⟩ = some (.int .i64 1000) := cell_keep bb6 c5_l_2
  have l6_l : w1.heap.size < w6.heap.size := by omega
  have m6_l : w1.heap.size < w6.heap.size + 1 := by omega
  have c6_t_0 : w6.cell? ⟨w1.heap.size + 1, 0, none⟩ = some (.int .i64 2) := cell_keep bb6 c5_t_0
  have c6_t_1 : w6.cell? ⟨w1.heap.size + 1, 1, none⟩ = some (.int .i64 0) := cell_keep bb6 c5_t_1
  have c6_t_2 : w6.cell? ⟨w1.heap.size + 1, 2, none⟩ = some (.int .i64 0) := cell_keep bb6 c5_t_2
  have c6_t_3 : w6.cell? ⟨w1.heap.size + 1, 3, none⟩ = some (.bool false) := cell_keep bb6 c5_t_3
  have c6_t_4 : w6.cell? ⟨w1.heap.size + 1, 4, none⟩ = some (.slice none 0 0) := cell_keep bb6 c5_t_4
  have l6_t : w1.heap.size + 1 < w6.heap.size := by omega
  have m6_t : w1.heap.size + 1 < w6.heap.size + 1 := by omega
  have HE6 := Lib.hid (HE5.out.below bb6)
  have BE6 := Lib.hid be6
  clear be6 bb6 BE5 c5_c_0 c5_c_1 c5_c_2 c5_c_3 c5_c_4 c5_c_5 c5_c_6 c5_c_7 l5_c m5_c c5_l_0 c5_l_1 c5_l_2 l5_l m5_l c5_t_0 c5_t_1 c5_t_2 c5_t_3 c5_t_4 l5_t m5_t HE5
  clear HLR HTR
  go_wp2_with fail
  have HLR := Lib.hid (ev_one c6_l_0 c6_l_1 c6_l_2)
  have HTR := Lib.hid (show KCell w6 (w1.heap.size + 1) 0 ev0 from ⟨c6_t_0, c6_t_1, c6_t_2, c6_t_3, c6_t_4⟩)
  refine wp_region_held_drew (S := (fun w' => Below w6.heap.size w6 w' ∧ ∀ b o, b < w6.heap.size → w'.cell? ⟨b, o, none⟩ = w6.cell? ⟨b, o, none⟩)) (by kernel_rfl) (holdS (Below.drew (Below.refl _ _))) (fun hHeld => ?_)
  refine wpAnyH_take (i := 0) (v := ?_) rfl (by kernel_rfl) (by kernel_rfl) (by kernel_rfl) (fun _ _ _ h => h) (Or.inl ⟨by rfl, ?hy⟩) (by assumption) ?_
  case hy =>
    intro W hSw
    (try dsimp only at hSw)
    first | (go_simp; done) | (go_simp; with_reducible rfl)
  (try simp only [List.getElem_toArray,  List.getElem_cons_zero, Act.put, List.setIfInBounds_toArray, List.set_cons_zero, List.set_cons_succ])
  refine wpAnyH_take (i := 3) (v := ?_) rfl (by kernel_rfl) (by kernel_rfl) (by kernel_rfl) (fun _ _ _ h => h) (Or.inl ⟨by rfl, ?hy⟩) (by assumption) ?_
  case hy =>
    intro W hSw
    (try dsimp only at hSw)
    first | (go_simp; done) | (go_simp; with_reducible rfl)
  (try simp only [List.getElem_toArray, List.getElem_cons_succ,  List.getElem_cons_zero, Act.put, List.setIfInBounds_toArray, List.set_cons_zero, List.set_cons_succ])
  refine wpAnyH_ready (rs := [1]) (by kernel_rfl) (by simp) ?_
  refine AllReadyH.cons rfl (fun K hK => ?_) AllReadyH.nil
  go_simp
  refine hK.out _ _ (holdS (by repeat (first | exact Below.refl _ _ | assumption | refine below_drewN ?_ _ | refine Below.setCell ?_ (by first | (simp; done) | (simp; omega)) _ | refine Below.alloc ?_ (by first | (simp; done) | (simp; omega) | omega) _ | refine Below.drew ?_ | refine Below.trans ?_ (Below.mono (by assumption) (by first | (simp; done) | (simp; omega) | omega))))) (fun hHeld => ?_)
  clear hK K
  obtain ⟨x1, hx1⟩ : ∃ x, x = (w6.alloc (.cells #[.int .i64 2, .int .i64 0, .int .i64 0, .bool false, .slice none 0 0] 24)).drew := ⟨_, rfl⟩
  have g1 : x1.heap[w6.heap.size]? = some (.cells #[.int .i64 2, .int .i64 0, .int .i64 0, .bool false, .slice none 0 0] 24 (0, 0)) := by rw [hx1]; exact World.alloc_heap_new _ _
  have bx1 : Below w6.heap.size w6 x1 := by rw [hx1]; exact (by repeat (first | exact Below.refl _ _ | assumption | refine below_drewN ?_ _ | refine Below.setCell ?_ (by first | (simp; done) | (simp; omega)) _ | refine Below.alloc ?_ (by first | (simp; done) | (simp; omega) | omega) _ | refine Below.drew ?_ | refine Below.trans ?_ (Below.mono (by assumption) (by first | (simp; done) | (simp; omega) | omega))))
  rw [← hx1] at hHeld ⊢
  clear hx1
  (try simp only [List.getElem_toArray, List.getElem_cons_succ,  List.getElem_cons_zero, Act.put, List.setIfInBounds_toArray, List.set_cons_zero, List.set_cons_succ])
  refine wpAnyH_ready (rs := [2]) (by kernel_rfl) (by simp) ?_
  refine AllReadyH.cons rfl (fun K hK => ?_) AllReadyH.nil
  go_simp
  refine (of_calls 6 0 false _ 1 1 _).mono ?_
  rintro e v1 ⟨rfl, hv1⟩
  go_wp2_with fail
  refine hK.out _ _ (holdT (by assumption) hv1) (fun hHeld => ?_)
  clear hK K
  (try simp only [List.getElem_toArray, List.getElem_cons_succ,  List.getElem_cons_zero, Act.put, List.setIfInBounds_toArray, List.set_cons_zero, List.set_cons_succ])
  have g1 := (hv1.block _ (Array.getElem?_eq_some_iff.1 g1).1).trans g1
  refine wpAnyH_ready (rs := [4]) (by kernel_rfl) (by simp) ?_
  refine AllReadyH.cons rfl (fun K hK => ?_) AllReadyH.nil
  go_simp
  refine (on_calls 4 5 _).mono ?_
  rintro e v2 ⟨rfl, hv2⟩
  go_wp2_with fail
  refine hK.out _ _ (holdT (by assumption) hv2) (fun hHeld => ?_)
  clear hK K
  (try simp only [List.getElem_toArray, List.getElem_cons_succ,  List.getElem_cons_zero, Act.put, List.setIfInBounds_toArray, List.set_cons_zero, List.set_cons_succ])
  have g1 := (hv2.block _ (Array.getElem?_eq_some_iff.1 g1).1).trans g1
  refine wpAnyH_ready (rs := [5, 6]) (by kernel_rfl) (by simp) ?_
  refine AllReadyH.cons rfl (fun K hK => ?_) (AllReadyH.cons rfl (fun K hK => ?_) AllReadyH.nil)
  · go_simp
    refine hK.out _ _ (holdT (by assumption) (by repeat (first | exact Below.refl _ _ | assumption | refine below_drewN ?_ _ | refine Below.setCell ?_ (by first | (simp; done) | (simp; omega)) _ | refine Below.alloc ?_ (by first | (simp; done) | (simp; omega) | omega) _ | refine Below.drew ?_ | refine Below.trans ?_ (Below.mono (by assumption) (by first | (simp; done) | (simp; omega) | omega))))) (fun hHeld => ?_)
    clear hK K
    obtain ⟨x2, hx2⟩ : ∃ x, x = v2.alloc (.cells #[.bool true, .int .i64 4, .int .i64 5] 42) := ⟨_, rfl⟩
    have g2 : x2.heap[v2.heap.size]? = some (.cells #[.bool true, .int .i64 4, .int .i64 5] 42 (0, 0)) := by rw [hx2]; exact World.alloc_heap_new _ _
    have bx2 : Below v2.heap.size v2 x2 := by rw [hx2]; exact (by repeat (first | exact Below.refl _ _ | assumption | refine below_drewN ?_ _ | refine Below.setCell ?_ (by first | (simp; done) | (simp; omega)) _ | refine Below.alloc ?_ (by first | (simp; done) | (simp; omega) | omega) _ | refine Below.drew ?_ | refine Below.trans ?_ (Below.mono (by assumption) (by first | (simp; done) | (simp; omega) | omega))))
    rw [← hx2] at hHeld ⊢
    clear hx2
    (try simp only [List.getElem_toArray, List.getElem_cons_succ,  List.getElem_cons_zero, Act.put, List.setIfInBounds_toArray, List.set_cons_zero, List.set_cons_succ])
    have g1 := (bx2.block _ (Array.getElem?_eq_some_iff.1 g1).1).trans g1
    have ga := g2
    clear g2
    refine wpAnyH_ready (rs := [6]) (by kernel_rfl) (by simp) ?_
    refine AllReadyH.cons rfl (fun K hK => ?_) AllReadyH.nil
    go_simp
    refine (on_calls 5 0 _).mono ?_
    rintro e v3 ⟨rfl, hv3⟩
    go_wp2_with fail
    refine hK.out _ _ (holdT (by assumption) hv3) (fun hHeld => ?_)
    clear hK K
    (try simp only [List.getElem_toArray, List.getElem_cons_succ,  List.getElem_cons_zero, Act.put, List.setIfInBounds_toArray, List.set_cons_zero, List.set_cons_succ])
    have g1 := (hv3.block _ (Array.getElem?_eq_some_iff.1 g1).1).trans g1
    have ga := (hv3.block _ (Array.getElem?_eq_some_iff.1 ga).1).trans ga
    refine wpAnyH_ready (rs := [7]) (by kernel_rfl) (by simp) ?_
    refine AllReadyH.cons rfl (fun K hK => ?_) AllReadyH.nil
    go_simp
    refine hK.out _ _ (holdT (by assumption) (by repeat (first | exact Below.refl _ _ | assumption | refine below_drewN ?_ _ | refine Below.setCell ?_ (by first | (simp; done) | (simp; omega)) _ | refine Below.alloc ?_ (by first | (simp; done) | (simp; omega) | omega) _ | refine Below.drew ?_ | refine Below.trans ?_ (Below.mono (by assumption) (by first | (simp; done) | (simp; omega) | omega))))) (fun hHeld => ?_)
    clear hK K
    obtain ⟨x3, hx3⟩ : ∃ x, x = v3.alloc (.cells #[.bool true, .int .i64 5, .int .i64 0] 42) := ⟨_, rfl⟩
    have g3 : x3.heap[v3.heap.size]? = some (.cells #[.bool true, .int .i64 5, .int .i64 0] 42 (0, 0)) := by rw [hx3]; exact World.alloc_heap_new _ _
    have bx3 : Below v3.heap.size v3 x3 := by rw [hx3]; exact (by repeat (first | exact Below.refl _ _ | assumption | refine below_drewN ?_ _ | refine Below.setCell ?_ (by first | (simp; done) | (simp; omega)) _ | refine Below.alloc ?_ (by first | (simp; done) | (simp; omega) | omega) _ | refine Below.drew ?_ | refine Below.trans ?_ (Below.mono (by assumption) (by first | (simp; done) | (simp; omega) | omega))))
    rw [← hx3] at hHeld ⊢
    clear hx3
    (try simp only [List.getElem_toArray, List.getElem_cons_succ,  List.getElem_cons_zero, Act.put, List.setIfInBounds_toArray, List.set_cons_zero, List.set_cons_succ])
    have g1 := (bx3.block _ (Array.getElem?_eq_some_iff.1 g1).1).trans g1
    have ga := (bx3.block _ (Array.getElem?_eq_some_iff.1 ga).1).trans ga
    have gb := g3
    clear g3
    refine wpAnyH_ready (rs := [8]) (by kernel_rfl) (by simp) ?_
    refine AllReadyH.cons rfl (fun K hK => ?_) AllReadyH.nil
    go_simp
    refine (bounds_at (.node 6 0 0 false (some ⟨w6.heap.size, 0, none⟩) 1 [ev0]) c0 (some ⟨v2.heap.size, 0, none⟩) (some ⟨v3.heap.size, 0, none⟩) 1 1 [⟨true, 4, 5⟩] [⟨true, 5, 0⟩] _ (tat_one ⟨cell_at g1 rfl, cell_at g1 rfl, cell_at g1 rfl, cell_at g1 rfl, cell_at g1 rfl⟩ (tat_leaf _ _ _ _ _ _ _)) (.inl rfl) (ev_one (cell_at ga rfl) (cell_at ga rfl) (cell_at ga rfl)) (ev_one (cell_at gb rfl) (cell_at gb rfl) (cell_at gb rfl)) (by decide) (by decide) (HE6.out.below hHeld.1)).mono ?_
    rintro e w7 ⟨rfl, hv4⟩
    rw [x6]
    simp only [R4]
    go_wp2_with fail
    refine hK.out _ _ (holdT (by assumption) hv4) (fun hHeld => ?_)
    clear hK K
    (try simp only [List.getElem_toArray, List.getElem_cons_succ,  List.getElem_cons_zero, Act.put, List.setIfInBounds_toArray, List.set_cons_zero, List.set_cons_succ])
    clear g1 ga gb
    refine wpAnyH_take (i := 9) (v := ?_) rfl (by kernel_rfl) (by kernel_rfl) (by kernel_rfl) (fun _ _ _ h => h) (Or.inl ⟨by rfl, ?hy⟩) (by assumption) ?_
    case hy =>
      intro W hSw
      (try dsimp only at hSw)
      first | (go_simp; done) | (go_simp; with_reducible rfl)
    (try simp only [List.getElem_toArray, List.getElem_cons_succ,  List.getElem_cons_zero, Act.put, List.setIfInBounds_toArray, List.set_cons_zero, List.set_cons_succ])
    refine wpAnyH_take (i := 10) (v := ?_) rfl (by kernel_rfl) (by kernel_rfl) (by kernel_rfl) (fun _ _ _ h => h) (Or.inl ⟨by rfl, ?hy⟩) (by assumption) ?_
    case hy =>
      intro W hSw
      (try dsimp only at hSw)
      first | (go_simp; done) | (go_simp; with_reducible rfl)
    (try simp only [List.getElem_toArray, List.getElem_cons_succ,  List.getElem_cons_zero, Act.put, List.setIfInBounds_toArray, List.set_cons_zero, List.set_cons_succ])
    refine wpAnyH_take (i := 11) (v := ?_) rfl (by kernel_rfl) (by kernel_rfl) (by kernel_rfl) (fun _ _ _ h => h) (Or.inl ⟨by rfl, ?hy⟩) (by assumption) ?_
    case hy =>
      intro W hSw
      (try dsimp only at hSw)
      first | (go_simp; done) | (go_simp; with_reducible rfl)
    (try simp only [List.getElem_toArray, List.getElem_cons_succ,  List.getElem_cons_zero, Act.put, List.setIfInBounds_toArray, List.set_cons_zero, List.set_cons_succ])
    refine wpAnyH_take (i := 12) (v := ?_) rfl (by kernel_rfl) (by kernel_rfl) (by kernel_rfl) (fun _ _ _ h => h) (Or.inl ⟨by rfl, ?hy⟩) (by assumption) ?_
    case hy =>
      intro W hSw
      (try dsimp only at hSw)
      first | (go_simp; done) | (go_simp; with_reducible rfl)
    (try simp only [List.getElem_toArray, List.getElem_cons_succ,  List.getElem_cons_zero, Act.put, List.setIfInBounds_toArray, List.set_cons_zero, List.set_cons_succ])
    refine wpAnyH_take (i := 13) (v := ?_) rfl (by kernel_rfl) (by kernel_rfl) (by kernel_rfl) (fun _ _ _ h => h) (Or.inl ⟨by rfl, ?hy⟩) (by assumption) ?_
    case hy =>
      intro W hSw
      (try dsimp only at hSw)
      first | (go_simp; done) | (go_simp; with_reducible rfl)
    (try simp only [List.getElem_toArray, List.getElem_cons_succ,  List.getElem_cons_zero, Act.put, List.setIfInBounds_toArray, List.set_cons_zero, List.set_cons_succ])
    refine wpAnyH_take (i := 14) (v := ?_) rfl (by kernel_rfl) (by kernel_rfl) (by kernel_rfl) (fun _ _ _ h => h) (Or.inl ⟨by rfl, ?hy⟩) (by assumption) ?_
    case hy =>
      intro W hSw
      (try dsimp only at hSw)
      first | (go_simp; done) | (go_simp; with_reducible rfl)
    (try simp only [List.getElem_toArray, List.getElem_cons_succ,  List.getElem_cons_zero, Act.put, List.setIfInBounds_toArray, List.set_cons_zero, List.set_cons_succ])
    refine wpAnyH_take (i := 15) (v := ?_) rfl (by kernel_rfl) (by kernel_rfl) (by kernel_rfl) (fun _ _ _ h => h) (Or.inl ⟨by rfl, ?hy⟩) (by assumption) ?_
    case hy =>
      intro W hSw
      (try dsimp only at hSw)
      first | (go_simp; done) | (go_simp; with_reducible rfl)
    (try simp only [List.getElem_toArray, List.getElem_cons_succ,  List.getElem_cons_zero, Act.put, List.setIfInBounds_toArray, List.set_cons_zero, List.set_cons_succ])
    refine wpAnyH_take (i := 16) (v := ?_) rfl (by kernel_rfl) (by kernel_rfl) (by kernel_rfl) (fun _ _ _ h => h) (Or.inl ⟨by rfl, ?hy⟩) (by assumption) ?_
    case hy =>
      intro W hSw
      (try dsimp only at hSw)
      first | (go_simp; done) | (go_simp; with_reducible rfl)
    (try simp only [List.getElem_toArray, List.getElem_cons_succ,  List.getElem_cons_zero, Act.put, List.setIfInBounds_toArray, List.set_cons_zero, List.set_cons_succ])
    refine wpAnyH_take (i := 17) (v := ?_) rfl (by kernel_rfl) (by kernel_rfl) (by kernel_rfl) (fun _ _ _ h => h) (Or.inl ⟨by rfl, ?hy⟩) (by assumption) ?_
    case hy =>
      intro W hSw
      (try dsimp only at hSw)
      first | (go_simp; done) | (go_simp; with_reducible rfl)
    (try simp only [List.getElem_toArray, List.getElem_cons_succ,  List.getElem_cons_zero, Act.put, List.setIfInBounds_toArray, List.set_cons_zero, List.set_cons_succ])
    refine wpAnyH_done (by kernel_rfl) ?_ _
    have bb7 : Below w6.heap.size w6 w7 := hHeld.1
    have hz7 := bb7.size
    clear hHeld hv4
    have be7 : Below w.heap.size w w7 := BE6.out.trans (bb7.mono BE6.out.size)
    have c7_c_0 : w7.cell? ⟨w.heap.size, 0, none⟩ = some (.bool false) := cell_keep bb7 c6_c_0
    have c7_c_1 : w7.cell? ⟨w.heap.size, 1, none⟩ = some (.bool false) := cell_keep bb7 c6_c_1
    have c7_c_2 : w7.cell? ⟨w.heap.size, 2, none⟩ = some (.bool false) := cell_keep bb7 c6_c_2
    have c7_c_3 : w7.cell? ⟨w.heap.size, 3, none⟩ = some (.bool false) := cell_keep bb7 c6_c_3
    have c7_c_4 : w7.cell? ⟨w.heap.size, 4, none⟩ = some (.bool false) := cell_keep bb7 c6_c_4
    have c7_c_5 : w7.cell? ⟨w.heap.size, 5, none⟩ = some (.bool true) := cell_keep bb7 c6_c_5
    have c7_c_6 : w7.cell? ⟨w.heap.size, 6, none⟩ = some (.bool true) := cell_keep bb7 c6_c_6
    have c7_c_7 : w7.cell? ⟨w.heap.size, 7, none⟩ = some (.slice none 0 0) := cell_keep bb7 c6_c_7
    have l7_c : w.heap.size < w7.heap.size := by omega
    have m7_c : w.heap.size < w7.heap.size + 1 := by omega
    have c7_l_0 : w7.cell? ⟨w1.heap.size, 0, none⟩ = some (.bool true) := cell_keep bb7 c6_l_0
    have c7_l_1 : w7.cell? ⟨w1.heap.size, 1, none⟩ = some (.int .i64 3) := cell_keep bb7 c6_l_1
    have c7_l_2 : w7.cell? ⟨w1.heap.size, 2, none⟩ = some (.int .i64 1000) := cell_keep bb7 c6_l_2
    have l7_l : w1.heap.size < w7.heap.size := by omega
    have m7_l : w1.heap.size < w7.heap.size + 1 := by omega
    have c7_t_0 : w7.cell? ⟨w1.heap.size + 1, 0, none⟩ = some (.int .i64 2) := cell_keep bb7 c6_t_0
    have c7_t_1 : w7.cell? ⟨w1.heap.size + 1, 1, none⟩ = some (.int .i64 0) := cell_keep bb7 c6_t_1
    have c7_t_2 : w7.cell? ⟨w1.heap.size + 1, 2, none⟩ = some (.int .i64 0) := cell_keep bb7 c6_t_2
    have c7_t_3 : w7.cell? ⟨w1.heap.size + 1, 3, none⟩ = some (.bool false) := cell_keep bb7 c6_t_3
    have c7_t_4 : w7.cell? ⟨w1.heap.size + 1, 4, none⟩ = some (.slice none 0 0) := cell_keep bb7 c6_t_4
    have l7_t : w1.heap.size + 1 < w7.heap.size := by omega
    have m7_t : w1.heap.size + 1 < w7.heap.size + 1 := by omega
    have HE7 := Lib.hid (HE6.out.below bb7)
    have BE7 := Lib.hid be7
    clear be7 bb7 BE6 c6_c_0 c6_c_1 c6_c_2 c6_c_3 c6_c_4 c6_c_5 c6_c_6 c6_c_7 l6_c m6_c c6_l_0 c6_l_1 c6_l_2 l6_l m6_l c6_t_0 c6_t_1 c6_t_2 c6_t_3 c6_t_4 l6_t m6_t HE6
    clear HLR HTR
    go_wp2_with fail
    refine (of_calls 7 0 false _ 3 3 _).mono ?_
    rintro e w8 ⟨rfl, hb8⟩
    have hz8 := hb8.size
    (try simp at hz8)
    have bb8 : Below w7.heap.size w7 w8 := (by repeat (first | exact Below.refl _ _ | assumption | refine below_drewN ?_ _ | refine Below.setCell ?_ (by first | (simp; done) | (simp; omega)) _ | refine Below.alloc ?_ (by first | (simp; done) | (simp; omega) | omega) _ | refine Below.drew ?_ | refine Below.trans ?_ (Below.mono (by assumption) (by first | (simp; done) | (simp; omega) | omega))))
    have be8 : Below w.heap.size w w8 := BE7.out.trans (bb8.mono BE7.out.size)
    have c8_t_0 : w8.cell? ⟨w1.heap.size + 1, 0, none⟩ = some (.int .i64 2) := cell_keep bb8 c7_t_0
    have c8_t_1 : w8.cell? ⟨w1.heap.size + 1, 1, none⟩ = some (.int .i64 0) := cell_keep bb8 c7_t_1
    have c8_t_2 : w8.cell? ⟨w1.heap.size + 1, 2, none⟩ = some (.int .i64 0) := cell_keep bb8 c7_t_2
    have c8_t_3 : w8.cell? ⟨w1.heap.size + 1, 3, none⟩ = some (.bool false) := cell_keep bb8 c7_t_3
    have c8_t_4 : w8.cell? ⟨w1.heap.size + 1, 4, none⟩ = some (.slice none 0 0) := cell_keep bb8 c7_t_4
    have l8_t : w1.heap.size + 1 < w8.heap.size := by omega
    have m8_t : w1.heap.size + 1 < w8.heap.size + 1 := by omega
    have c8_k_0 : w8.cell? ⟨w7.heap.size, 0, none⟩ = some (.int .i64 2) := cell_keep hb8 (by go_simp)
    have c8_k_1 : w8.cell? ⟨w7.heap.size, 1, none⟩ = some (.int .i64 0) := cell_keep hb8 (by go_simp)
    have c8_k_2 : w8.cell? ⟨w7.heap.size, 2, none⟩ = some (.int .i64 7) := cell_keep hb8 (by go_simp)
    have c8_k_3 : w8.cell? ⟨w7.heap.size, 3, none⟩ = some (.bool false) := cell_keep hb8 (by go_simp)
    have c8_k_4 : w8.cell? ⟨w7.heap.size, 4, none⟩ = some (.slice none 0 0) := cell_keep hb8 (by go_simp)
    have c8_k_5 : w8.cell? ⟨w7.heap.size, 5, none⟩ = some (.int .i64 3) := cell_keep hb8 (by go_simp)
    have c8_k_6 : w8.cell? ⟨w7.heap.size, 6, none⟩ = some (.int .i64 0) := cell_keep hb8 (by go_simp)
    have c8_k_7 : w8.cell? ⟨w7.heap.size, 7, none⟩ = some (.int .i64 2) := cell_keep hb8 (by go_simp)
    have c8_k_8 : w8.cell? ⟨w7.heap.size, 8, none⟩ = some (.bool false) := cell_keep hb8 (by go_simp)
    have c8_k_9 : w8.cell? ⟨w7.heap.size, 9, none⟩ = some (.slice none 0 0) := cell_keep hb8 (by go_simp)
    have c8_k_10 : w8.cell? ⟨w7.heap.size, 10, none⟩ = some (.int .i64 2) := cell_keep hb8 (by go_simp)
    have c8_k_11 : w8.cell? ⟨w7.heap.size, 11, none⟩ = some (.int .i64 0) := cell_keep hb8 (by go_simp)
    have c8_k_12 : w8.cell? ⟨w7.heap.size, 12, none⟩ = some (.int .i64 7) := cell_keep hb8 (by go_simp)
    have c8_k_13 : w8.cell? ⟨w7.heap.size, 13, none⟩ = some (.bool false) := cell_keep hb8 (by go_simp)
    have c8_k_14 : w8.cell? ⟨w7.heap.size, 14, none⟩ = some (.slice none 0 0) := cell_keep hb8 (by go_simp)
    have l8_k : w7.heap.size < w8.heap.size := by omega
    have m8_k : w7.heap.size < w8.heap.size + 1 := by omega
    have HE8 := Lib.hid (HE7.out.below bb8)
    have BE8 := Lib.hid be8
    clear be8 bb8 hb8 BE7 c7_t_0 c7_t_1 c7_t_2 c7_t_3 c7_t_4 l7_t m7_t HE7
    go_wp2_with fail
    refine (events_at (t7 w7.heap.size) _ (tat_three ⟨c8_k_0, c8_k_1, c8_k_2, c8_k_3, c8_k_4⟩ (tat_leaf _ _ _ _ _ _ _) ⟨c8_k_5, c8_k_6, c8_k_7, c8_k_8, c8_k_9⟩ (tat_leaf _ _ _ _ _ _ _) ⟨c8_k_10, c8_k_11, c8_k_12, c8_k_13, c8_k_14⟩ (tat_leaf _ _ _ _ _ _ _)) (x7v _)).mono ?_
    rintro e w9 ⟨pe, cape, rfl, hh, hb9⟩
    have hz9 := hb9.size
    (try simp at hz9)
    have bb9 : Below w8.heap.size w8 w9 := (by repeat (first | exact Below.refl _ _ | assumption | refine below_drewN ?_ _ | refine Below.setCell ?_ (by first | (simp; done) | (simp; omega)) _ | refine Below.alloc ?_ (by first | (simp; done) | (simp; omega) | omega) _ | refine Below.drew ?_ | refine Below.trans ?_ (Below.mono (by assumption) (by first | (simp; done) | (simp; omega) | omega))))
    have be9 : Below w.heap.size w w9 := BE8.out.trans (bb9.mono BE8.out.size)
    have c9_t_0 : w9.cell? ⟨w1.heap.size + 1, 0, none⟩ = some (.int .i64 2) := cell_keep bb9 c8_t_0
    have c9_t_1 : w9.cell? ⟨w1.heap.size + 1, 1, none⟩ = some (.int .i64 0) := cell_keep bb9 c8_t_1
    have c9_t_2 : w9.cell? ⟨w1.heap.size + 1, 2, none⟩ = some (.int .i64 0) := cell_keep bb9 c8_t_2
    have c9_t_3 : w9.cell? ⟨w1.heap.size + 1, 3, none⟩ = some (.bool false) := cell_keep bb9 c8_t_3
    have c9_t_4 : w9.cell? ⟨w1.heap.size + 1, 4, none⟩ = some (.slice none 0 0) := cell_keep bb9 c8_t_4
    have l9_t : w1.heap.size + 1 < w9.heap.size := by omega
    have m9_t : w1.heap.size + 1 < w9.heap.size + 1 := by omega
    have c9_k_0 : w9.cell? ⟨w7.heap.size, 0, none⟩ = some (.int .i64 2) := cell_keep bb9 c8_k_0
    have c9_k_1 : w9.cell? ⟨w7.heap.size, 1, none⟩ = some (.int .i64 0) := cell_keep bb9 c8_k_1
    have c9_k_2 : w9.cell? ⟨w7.heap.size, 2, none⟩ = some (.int .i64 7) := cell_keep bb9 c8_k_2
    have c9_k_3 : w9.cell? ⟨w7.heap.size, 3, none⟩ = some (.bool false) := cell_keep bb9 c8_k_3
    have c9_k_4 : w9.cell? ⟨w7.heap.size, 4, none⟩ = some (.slice none 0 0) := cell_keep bb9 c8_k_4
    have c9_k_5 : w9.cell? ⟨w7.heap.size, 5, none⟩ = some (.int .i64 3) := cell_keep bb9 c8_k_5
    have c9_k_6 : w9.cell? ⟨w7.heap.size, 6, none⟩ = some (.int .i64 0) := cell_keep bb9 c8_k_6
    have c9_k_7 : w9.cell? ⟨w7.heap.size, 7, none⟩ = some (.int .i64 2) := cell_keep bb9 c8_k_7
    have c9_k_8 : w9.cell? ⟨w7.heap.size, 8, none⟩ = some (.bool false) := cell_keep bb9 c8_k_8
    have c9_k_9 : w9.cell? ⟨w7.heap.size, 9, none⟩ = some (.slice none 0 0) := cell_keep bb9 c8_k_9
    have c9_k_10 : w9.cell? ⟨w7.heap.size, 10, none⟩ = some (.int .i64 2) := cell_keep bb9 c8_k_10
    have c9_k_11 : w9.cell? ⟨w7.heap.size, 11, none⟩ = some (.int .i64 0) := cell_keep bb9 c8_k_11
    have c9_k_12 : w9.cell? ⟨w7.heap.size, 12, none⟩ = some (.int .i64 7) := cell_keep bb9 c8_k_12
    have c9_k_13 : w9.cell? ⟨w7.heap.size, 13, none⟩ = some (.bool false) := cell_keep bb9 c8_k_13
    have c9_k_14 : w9.cell? ⟨w7.heap.size, 14, none⟩ = some (.slice none 0 0) := cell_keep bb9 c8_k_14
    have l9_k : w7.heap.size < w9.heap.size := by omega
    have m9_k : w7.heap.size < w9.heap.size + 1 := by omega
    have HE9 := Lib.hid (HE8.out.below bb9)
    rw [x7] at hh
    obtain ⟨be, oe, rfl, q0, q1⟩ := hols_two hh
    clear hh
    have hbe := World.block_lt_of_cell? _ _ q0
    have hbf := Nat.lt_succ_of_lt hbe
    rw [x7]
    have BE9 := Lib.hid be9
    clear be9 bb9 hb9 BE8 c8_t_0 c8_t_1 c8_t_2 c8_t_3 c8_t_4 l8_t m8_t c8_k_0 c8_k_1 c8_k_2 c8_k_3 c8_k_4 c8_k_5 c8_k_6 c8_k_7 c8_k_8 c8_k_9 c8_k_10 c8_k_11 c8_k_12 c8_k_13 c8_k_14 l8_k m8_k HE8
    go_wp2_with fail
    refine (valid_at ev0 1 _ (tat_leaf _ _ _ _ _ _ _)).mono ?_
    rintro e w10 ⟨rfl, hb10⟩
    rw [x8]
    have hz10 := hb10.size
    (try simp at hz10)
    have bb10 : Below w9.heap.size w9 w10 := (by repeat (first | exact Below.refl _ _ | assumption | refine below_drewN ?_ _ | refine Below.setCell ?_ (by first | (simp; done) | (simp; omega)) _ | refine Below.alloc ?_ (by first | (simp; done) | (simp; omega) | omega) _ | refine Below.drew ?_ | refine Below.trans ?_ (Below.mono (by assumption) (by first | (simp; done) | (simp; omega) | omega))))
    have be10 : Below w.heap.size w w10 := BE9.out.trans (bb10.mono BE9.out.size)
    have c10_t_0 : w10.cell? ⟨w1.heap.size + 1, 0, none⟩ = some (.int .i64 2) := cell_keep bb10 c9_t_0
    have c10_t_1 : w10.cell? ⟨w1.heap.size + 1, 1, none⟩ = some (.int .i64 0) := cell_keep bb10 c9_t_1
    have c10_t_2 : w10.cell? ⟨w1.heap.size + 1, 2, none⟩ = some (.int .i64 0) := cell_keep bb10 c9_t_2
    have c10_t_3 : w10.cell? ⟨w1.heap.size + 1, 3, none⟩ = some (.bool false) := cell_keep bb10 c9_t_3
    have c10_t_4 : w10.cell? ⟨w1.heap.size + 1, 4, none⟩ = some (.slice none 0 0) := cell_keep bb10 c9_t_4
    have l10_t : w1.heap.size + 1 < w10.heap.size := by omega
    have m10_t : w1.heap.size + 1 < w10.heap.size + 1 := by omega
    have c10_e_0 : w10.cell? ⟨be, oe, none⟩ = some (.int .i64 2) := cell_keep hb10 (by go_simp)
    have c10_e_1 : w10.cell? ⟨be, oe + 1, none⟩ = some (.int .i64 7) := cell_keep hb10 (by go_simp)
    have l10_e : be < w10.heap.size := by omega
    have m10_e : be < w10.heap.size + 1 := by omega
    have HE10 := Lib.hid (HE9.out.below bb10)
    have BE10 := Lib.hid be10
    clear be10 bb10 hb10 BE9 c9_t_0 c9_t_1 c9_t_2 c9_t_3 c9_t_4 l9_t m9_t HE9
    go_wp2_with fail
    refine (valid_at ev0 0 _ (tat_leaf _ _ _ _ _ _ _)).mono ?_
    rintro e w11 ⟨rfl, hb11⟩
    rw [x9]
    have hz11 := hb11.size
    (try simp at hz11)
    have bb11 : Below w10.heap.size w10 w11 := (by repeat (first | exact Below.refl _ _ | assumption | refine below_drewN ?_ _ | refine Below.setCell ?_ (by first | (simp; done) | (simp; omega)) _ | refine Below.alloc ?_ (by first | (simp; done) | (simp; omega) | omega) _ | refine Below.drew ?_ | refine Below.trans ?_ (Below.mono (by assumption) (by first | (simp; done) | (simp; omega) | omega))))
    have be11 : Below w.heap.size w w11 := BE10.out.trans (bb11.mono BE10.out.size)
    have c11_t_0 : w11.cell? ⟨w1.heap.size + 1, 0, none⟩ = some (.int .i64 2) := cell_keep bb11 c10_t_0
    have c11_t_1 : w11.cell? ⟨w1.heap.size + 1, 1, none⟩ = some (.int .i64 0) := cell_keep bb11 c10_t_1
    have c11_t_2 : w11.cell? ⟨w1.heap.size + 1, 2, none⟩ = some (.int .i64 0) := cell_keep bb11 c10_t_2
    have c11_t_3 : w11.cell? ⟨w1.heap.size + 1, 3, none⟩ = some (.bool false) := cell_keep bb11 c10_t_3
    have c11_t_4 : w11.cell? ⟨w1.heap.size + 1, 4, none⟩ = some (.slice none 0 0) := cell_keep bb11 c10_t_4
    have l11_t : w1.heap.size + 1 < w11.heap.size := by omega
    have m11_t : w1.heap.size + 1 < w11.heap.size + 1 := by omega
    have HE11 := Lib.hid (HE10.out.below bb11)
    have BE11 := Lib.hid be11
    clear be11 bb11 hb11 BE10 c10_t_0 c10_t_1 c10_t_2 c10_t_3 c10_t_4 l10_t m10_t HE10
    go_wp2_with fail
    go_ret
    exact ⟨rfl, (by have q := BE11.out; repeat (first | exact q | refine Below.setCell ?_ (by first | (simp; done) | omega | (simp; omega)) _ | refine Below.alloc ?_ (by first | (simp; done) | omega | (simp; omega)) _ | refine below_drewN ?_ _ | refine Below.drew ?_))⟩
  · go_simp
    refine (on_calls 5 0 _).mono ?_
    rintro e v3 ⟨rfl, hv3⟩
    go_wp2_with fail
    refine hK.out _ _ (holdT (by assumption) hv3) (fun hHeld => ?_)
    clear hK K
    (try simp only [List.getElem_toArray, List.getElem_cons_succ,  List.getElem_cons_zero, Act.put, List.setIfInBounds_toArray, List.set_cons_zero, List.set_cons_succ])
    have g1 := (hv3.block _ (Array.getElem?_eq_some_iff.1 g1).1).trans g1
    refine wpAnyH_ready (rs := [5, 7]) (by kernel_rfl) (by simp) ?_
    refine AllReadyH.cons rfl (fun K hK => ?_) (AllReadyH.cons rfl (fun K hK => ?_) AllReadyH.nil)
    · go_simp
      refine hK.out _ _ (holdT (by assumption) (by repeat (first | exact Below.refl _ _ | assumption | refine below_drewN ?_ _ | refine Below.setCell ?_ (by first | (simp; done) | (simp; omega)) _ | refine Below.alloc ?_ (by first | (simp; done) | (simp; omega) | omega) _ | refine Below.drew ?_ | refine Below.trans ?_ (Below.mono (by assumption) (by first | (simp; done) | (simp; omega) | omega))))) (fun hHeld => ?_)
      clear hK K
      obtain ⟨x2, hx2⟩ : ∃ x, x = v3.alloc (.cells #[.bool true, .int .i64 4, .int .i64 5] 42) := ⟨_, rfl⟩
      have g2 : x2.heap[v3.heap.size]? = some (.cells #[.bool true, .int .i64 4, .int .i64 5] 42 (0, 0)) := by rw [hx2]; exact World.alloc_heap_new _ _
      have bx2 : Below v3.heap.size v3 x2 := by rw [hx2]; exact (by repeat (first | exact Below.refl _ _ | assumption | refine below_drewN ?_ _ | refine Below.setCell ?_ (by first | (simp; done) | (simp; omega)) _ | refine Below.alloc ?_ (by first | (simp; done) | (simp; omega) | omega) _ | refine Below.drew ?_ | refine Below.trans ?_ (Below.mono (by assumption) (by first | (simp; done) | (simp; omega) | omega))))
      rw [← hx2] at hHeld ⊢
      clear hx2
      (try simp only [List.getElem_toArray, List.getElem_cons_succ,  List.getElem_cons_zero, Act.put, List.setIfInBounds_toArray, List.set_cons_zero, List.set_cons_succ])
      have g1 := (bx2.block _ (Array.getElem?_eq_some_iff.1 g1).1).trans g1
      have ga := g2
      clear g2
      refine wpAnyH_ready (rs := [7]) (by kernel_rfl) (by simp) ?_
      refine AllReadyH.cons rfl (fun K hK => ?_) AllReadyH.nil
      go_simp
      refine hK.out _ _ (holdT (by assumption) (by repeat (first | exact Below.refl _ _ | assumption | refine below_drewN ?_ _ | refine Below.setCell ?_ (by first | (simp; done) | (simp; omega)) _ | refine Below.alloc ?_ (by first | (simp; done) | (simp; omega) | omega) _ | refine Below.drew ?_ | refine Below.trans ?_ (Below.mono (by assumption) (by first | (simp; done) | (simp; omega) | omega))))) (fun hHeld => ?_)
      clear hK K
      obtain ⟨x3, hx3⟩ : ∃ x, x = x2.alloc (.cells #[.bool true, .int .i64 5, .int .i64 0] 42) := ⟨_, rfl⟩
      have g3 : x3.heap[x2.heap.size]? = some (.cells #[.bool true, .int .i64 5, .int .i64 0] 42 (0, 0)) := by rw [hx3]; exact World.alloc_heap_new _ _
      have bx3 : Below x2.heap.size x2 x3 := by rw [hx3]; exact (by repeat (first | exact Below.refl _ _ | assumption | refine below_drewN ?_ _ | refine Below.setCell ?_ (by first | (simp; done) | (simp; omega)) _ | refine Below.alloc ?_ (by first | (simp; done) | (simp; omega) | omega) _ | refine Below.drew ?_ | refine Below.trans ?_ (Below.mono (by assumption) (by first | (simp; done) | (simp; omega) | omega))))
      rw [← hx3] at hHeld ⊢
      clear hx3
      (try simp only [List.getElem_toArray, List.getElem_cons_succ,  List.getElem_cons_zero, Act.put, List.setIfInBounds_toArray, List.set_cons_zero, List.set_cons_succ])
      have g1 := (bx3.block _ (Array.getElem?_eq_some_iff.1 g1).1).trans g1
      have ga := (bx3.block _ (Array.getElem?_eq_some_iff.1 ga).1).trans ga
      have gb := g3
      clear g3
      refine wpAnyH_ready (rs := [8]) (by kernel_rfl) (by simp) ?_
      refine AllReadyH.cons rfl (fun K hK => ?_) AllReadyH.nil
      go_simp
      refine (bounds_at (.node 6 0 0 false (some ⟨w6.heap.size, 0, none⟩) 1 [ev0]) c0 (some ⟨v3.heap.size, 0, none⟩) (some ⟨x2.heap.size, 0, none⟩) 1 1 [⟨true, 4, 5⟩] [⟨true, 5, 0⟩] _ (tat_one ⟨cell_at g1 rfl, cell_at g1 rfl, cell_at g1 rfl, cell_at g1 rfl, cell_at g1 rfl⟩ (tat_leaf _ _ _ _ _ _ _)) (.inl rfl) (ev_one (cell_at ga rfl) (cell_at ga rfl) (cell_at ga rfl)) (ev_one (cell_at gb rfl) (cell_at gb rfl) (cell_at gb rfl)) (by decide) (by decide) (HE6.out.below hHeld.1)).mono ?_
      rintro e w7 ⟨rfl, hv4⟩
      rw [x6]
      simp only [R4]
      go_wp2_with fail
      refine hK.out _ _ (holdT (by assumption) hv4) (fun hHeld => ?_)
      clear hK K
      (try simp only [List.getElem_toArray, List.getElem_cons_succ,  List.getElem_cons_zero, Act.put, List.setIfInBounds_toArray, List.set_cons_zero, List.set_cons_succ])
      clear g1 ga gb
      refine wpAnyH_take (i := 9) (v := ?_) rfl (by kernel_rfl) (by kernel_rfl) (by kernel_rfl) (fun _ _ _ h => h) (Or.inl ⟨by rfl, ?hy⟩) (by assumption) ?_
      case hy =>
        intro W hSw
        (try dsimp only at hSw)
        first | (go_simp; done) | (go_simp; with_reducible rfl)
      (try simp only [List.getElem_toArray, List.getElem_cons_succ,  List.getElem_cons_zero, Act.put, List.setIfInBounds_toArray, List.set_cons_zero, List.set_cons_succ])
      refine wpAnyH_take (i := 10) (v := ?_) rfl (by kernel_rfl) (by kernel_rfl) (by kernel_rfl) (fun _ _ _ h => h) (Or.inl ⟨by rfl, ?hy⟩) (by assumption) ?_
      case hy =>
        intro W hSw
        (try dsimp only at hSw)
        first | (go_simp; done) | (go_simp; with_reducible rfl)
      (try simp only [List.getElem_toArray, List.getElem_cons_succ,  List.getElem_cons_zero, Act.put, List.setIfInBounds_toArray, List.set_cons_zero, List.set_cons_succ])
      refine wpAnyH_take (i := 11) (v := ?_) rfl (by kernel_rfl) (by kernel_rfl) (by kernel_rfl) (fun _ _ _ h => h) (Or.inl ⟨by rfl, ?hy⟩) (by assumption) ?_
      case hy =>
        intro W hSw
        (try dsimp only at hSw)
        first | (go_simp; done) | (go_simp; with_reducible rfl)
      (try simp only [List.getElem_toArray, List.getElem_cons_succ,  List.getElem_cons_zero, Act.put, List.setIfInBounds_toArray, List.set_cons_zero, List.set_cons_succ])
      refine wpAnyH_take (i := 12) (v := ?_) rfl (by kernel_rfl) (by kernel_rfl) (by kernel_rfl) (fun _ _ _ h => h) (Or.inl ⟨by rfl, ?hy⟩) (by assumption) ?_
      case hy =>
        intro W hSw
        (try dsimp only at hSw)
        first | (go_simp; done) | (go_simp; with_reducible rfl)
      (try simp only [List.getElem_toArray, List.getElem_cons_succ,  List.getElem_cons_zero, Act.put, List.setIfInBounds_toArray, List.set_cons_zero, List.set_cons_succ])
      refine wpAnyH_take (i := 13) (v := ?_) rfl (by kernel_rfl) (by kernel_rfl) (by kernel_rfl) (fun _ _ _ h => h) (Or.inl ⟨by rfl, ?hy⟩) (by assumption) ?_
      case hy =>
        intro W hSw
        (try dsimp only at hSw)
        first | (go_simp; done) | (go_simp; with_reducible rfl)
      (try simp only [List.getElem_toArray, List.getElem_cons_succ,  List.getElem_cons_zero, Act.put, List.setIfInBounds_toArray, List.set_cons_zero, List.set_cons_succ])
      refine wpAnyH_take (i := 14) (v := ?_) rfl (by kernel_rfl) (by kernel_rfl) (by kernel_rfl) (fun _ _ _ h => h) (Or.inl ⟨by rfl, ?hy⟩) (by assumption) ?_
      case hy =>
        intro W hSw
        (try dsimp only at hSw)
        first | (go_simp; done) | (go_simp; with_reducible rfl)
      (try simp only [List.getElem_toArray, List.getElem_cons_succ,  List.getElem_cons_zero, Act.put, List.setIfInBounds_toArray, List.set_cons_zero, List.set_cons_succ])
      refine wpAnyH_take (i := 15) (v := ?_) rfl (by kernel_rfl) (by kernel_rfl) (by kernel_rfl) (fun _ _ _ h => h) (Or.inl ⟨by rfl, ?hy⟩) (by assumption) ?_
      case hy =>
        intro W hSw
        (try dsimp only at hSw)
        first | (go_simp; done) | (go_simp; with_reducible rfl)
      (try simp only [List.getElem_toArray, List.getElem_cons_succ,  List.getElem_cons_zero, Act.put, List.setIfInBounds_toArray, List.set_cons_zero, List.set_cons_succ])
      refine wpAnyH_take (i := 16) (v := ?_) rfl (by kernel_rfl) (by kernel_rfl) (by kernel_rfl) (fun _ _ _ h => h) (Or.inl ⟨by rfl, ?hy⟩) (by assumption) ?_
      case hy =>
        intro W hSw
        (try dsimp only at hSw)
        first | (go_simp; done) | (go_simp; with_reducible rfl)
      (try simp only [List.getElem_toArray, List.getElem_cons_succ,  List.getElem_cons_zero, Act.put, List.setIfInBounds_toArray, List.set_cons_zero, List.set_cons_succ])
      refine wpAnyH_take (i := 17) (v := ?_) rfl (by kernel_rfl) (by kernel_rfl) (by kernel_rfl) (fun _ _ _ h => h) (Or.inl ⟨by rfl, ?hy⟩) (by assumption) ?_
      case hy =>
        intro W hSw
        (try dsimp only at hSw)
        first | (go_simp; done) | (go_simp; with_reducible rfl)
      (try simp only [List.getElem_toArray, List.getElem_cons_succ,  List.getElem_cons_zero, Act.put, List.setIfInBounds_toArray, List.set_cons_zero, List.set_cons_succ])
      refine wpAnyH_done (by kernel_rfl) ?_ _
      have bb7 : Below w6.heap.size w6 w7 := hHeld.1
      have hz7 := bb7.size
      clear hHeld hv4
      have be7 : Below w.heap.size w w7 := BE6.out.trans (bb7.mono BE6.out.size)
      have c7_c_0 : w7.cell? ⟨w.heap.size, 0, none⟩ = some (.bool false) := cell_keep bb7 c6_c_0
      have c7_c_1 : w7.cell? ⟨w.heap.size, 1, none⟩ = some (.bool false) := cell_keep bb7 c6_c_1
      have c7_c_2 : w7.cell? ⟨w.heap.size, 2, none⟩ = some (.bool false) := cell_keep bb7 c6_c_2
      have c7_c_3 : w7.cell? ⟨w.heap.size, 3, none⟩ = some (.bool false) := cell_keep bb7 c6_c_3
      have c7_c_4 : w7.cell? ⟨w.heap.size, 4, none⟩ = some (.bool false) := cell_keep bb7 c6_c_4
      have c7_c_5 : w7.cell? ⟨w.heap.size, 5, none⟩ = some (.bool true) := cell_keep bb7 c6_c_5
      have c7_c_6 : w7.cell? ⟨w.heap.size, 6, none⟩ = some (.bool true) := cell_keep bb7 c6_c_6
      have c7_c_7 : w7.cell? ⟨w.heap.size, 7, none⟩ = some (.slice none 0 0) := cell_keep bb7 c6_c_7
      have l7_c : w.heap.size < w7.heap.size := by omega
      have m7_c : w.heap.size < w7.heap.size + 1 := by omega
      have c7_l_0 : w7.cell? ⟨w1.heap.size, 0, none⟩ = some (.bool true) := cell_keep bb7 c6_l_0
      have c7_l_1 : w7.cell? ⟨w1.heap.size, 1, none⟩ = some (.int .i64 3) := cell_keep bb7 c6_l_1
      have c7_l_2 : w7.cell? ⟨w1.heap.size, 2, none⟩ = some (.int .i64 1000) := cell_keep bb7 c6_l_2
      have l7_l : w1.heap.size < w7.heap.size := by omega
      have m7_l : w1.heap.size < w7.heap.size + 1 := by omega
      have c7_t_0 : w7.cell? ⟨w1.heap.size + 1, 0, none⟩ = some (.int .i64 2) := cell_keep bb7 c6_t_0
      have c7_t_1 : w7.cell? ⟨w1.heap.size + 1, 1, none⟩ = some (.int .i64 0) := cell_keep bb7 c6_t_1
      have c7_t_2 : w7.cell? ⟨w1.heap.size + 1, 2, none⟩ = some (.int .i64 0) := cell_keep bb7 c6_t_2
      have c7_t_3 : w7.cell? ⟨w1.heap.size + 1, 3, none⟩ = some (.bool false) := cell_keep bb7 c6_t_3
      have c7_t_4 : w7.cell? ⟨w1.heap.size + 1, 4, none⟩ = some (.slice none 0 0) := cell_keep bb7 c6_t_4
      have l7_t : w1.heap.size + 1 < w7.heap.size := by omega
      have m7_t : w1.heap.size + 1 < w7.heap.size + 1 := by omega
      have HE7 := Lib.hid (HE6.out.below bb7)
      have BE7 := Lib.hid be7
      clear be7 bb7 BE6 c6_c_0 c6_c_1 c6_c_2 c6_c_3 c6_c_4 c6_c_5 c6_c_6 c6_c_7 l6_c m6_c c6_l_0 c6_l_1 c6_l_2 l6_l m6_l c6_t_0 c6_t_1 c6_t_2 c6_t_3 c6_t_4 l6_t m6_t HE6
      clear HLR HTR
      go_wp2_with fail
      refine (of_calls 7 0 false _ 3 3 _).mono ?_
      rintro e w8 ⟨rfl, hb8⟩
      have hz8 := hb8.size
      (try simp at hz8)
      have bb8 : Below w7.heap.size w7 w8 := (by repeat (first | exact Below.refl _ _ | assumption | refine below_drewN ?_ _ | refine Below.setCell ?_ (by first | (simp; done) | (simp; omega)) _ | refine Below.alloc ?_ (by first | (simp; done) | (simp; omega) | omega) _ | refine Below.drew ?_ | refine Below.trans ?_ (Below.mono (by assumption) (by first | (simp; done) | (simp; omega) | omega))))
      have be8 : Below w.heap.size w w8 := BE7.out.trans (bb8.mono BE7.out.size)
      have c8_t_0 : w8.cell? ⟨w1.heap.size + 1, 0, none⟩ = some (.int .i64 2) := cell_keep bb8 c7_t_0
      have c8_t_1 : w8.cell? ⟨w1.heap.size + 1, 1, none⟩ = some (.int .i64 0) := cell_keep bb8 c7_t_1
      have c8_t_2 : w8.cell? ⟨w1.heap.size + 1, 2, none⟩ = some (.int .i64 0) := cell_keep bb8 c7_t_2
      have c8_t_3 : w8.cell? ⟨w1.heap.size + 1, 3, none⟩ = some (.bool false) := cell_keep bb8 c7_t_3
      have c8_t_4 : w8.cell? ⟨w1.heap.size + 1, 4, none⟩ = some (.slice none 0 0) := cell_keep bb8 c7_t_4
      have l8_t : w1.heap.size + 1 < w8.heap.size := by omega
      have m8_t : w1.heap.size + 1 < w8.heap.size + 1 := by omega
      have c8_k_0 : w8.cell? ⟨w7.heap.size, 0, none⟩ = some (.int .i64 2) := cell_keep hb8 (by go_simp)
      have c8_k_1 : w8.cell? ⟨w7.heap.size, 1, none⟩ = some (.int .i64 0) := cell_keep hb8 (by go_simp)
      have c8_k_2 : w8.cell? ⟨w7.heap.size, 2, none⟩ = some (.int .i64 7) := cell_keep hb8 (by go_simp)
      have c8_k_3 : w8.cell? ⟨w7.heap.size, 3, none⟩ = some (.bool false) := cell_keep hb8 (by go_simp)
      have c8_k_4 : w8.cell? ⟨w7.heap.size, 4, none⟩ = some (.slice none 0 0) := cell_keep hb8 (by go_simp)
      have c8_k_5 : w8.cell? ⟨w7.heap.size, 5, none⟩ = some (.int .i64 3) := cell_keep hb8 (by go_simp)
      have c8_k_6 : w8.cell? ⟨w7.heap.size, 6, none⟩ = some (.int .i64 0) := cell_keep hb8 (by go_simp)
      have c8_k_7 : w8.cell? ⟨w7.heap.size, 7, none⟩ = some (.int .i64 2) := cell_keep hb8 (by go_simp)
      have c8_k_8 : w8.cell? ⟨w7.heap.size, 8, none⟩ = some (.bool false) := cell_keep hb8 (by go_simp)
      have c8_k_9 : w8.cell? ⟨w7.heap.size, 9, none⟩ = some (.slice none 0 0) := cell_keep hb8 (by go_simp)
      have c8_k_10 : w8.cell? ⟨w7.heap.size, 10, none⟩ = some (.int .i64 2) := cell_keep hb8 (by go_simp)
      have c8_k_11 : w8.cell? ⟨w7.heap.size, 11, none⟩ = some (.int .i64 0) := cell_keep hb8 (by go_simp)
      have c8_k_12 : w8.cell? ⟨w7.heap.size, 12, none⟩ = some (.int .i64 7) := cell_keep hb8 (by go_simp)
      have c8_k_13 : w8.cell? ⟨w7.heap.size, 13, none⟩ = some (.bool false) := cell_keep hb8 (by go_simp)
      have c8_k_14 : w8.cell? ⟨w7.heap.size, 14, none⟩ = some (.slice none 0 0) := cell_keep hb8 (by go_simp)
      have l8_k : w7.heap.size < w8.heap.size := by omega
      have m8_k : w7.heap.size < w8.heap.size + 1 := by omega
      have HE8 := Lib.hid (HE7.out.below bb8)
      have BE8 := Lib.hid be8
      clear be8 bb8 hb8 BE7 c7_t_0 c7_t_1 c7_t_2 c7_t_3 c7_t_4 l7_t m7_t HE7
      go_wp2_with fail
      refine (events_at (t7 w7.heap.size) _ (tat_three ⟨c8_k_0, c8_k_1, c8_k_2, c8_k_3, c8_k_4⟩ (tat_leaf _ _ _ _ _ _ _) ⟨c8_k_5, c8_k_6, c8_k_7, c8_k_8, c8_k_9⟩ (tat_leaf _ _ _ _ _ _ _) ⟨c8_k_10, c8_k_11, c8_k_12, c8_k_13, c8_k_14⟩ (tat_leaf _ _ _ _ _ _ _)) (x7v _)).mono ?_
      rintro e w9 ⟨pe, cape, rfl, hh, hb9⟩
      have hz9 := hb9.size
      (try simp at hz9)
      have bb9 : Below w8.heap.size w8 w9 := (by repeat (first | exact Below.refl _ _ | assumption | refine below_drewN ?_ _ | refine Below.setCell ?_ (by first | (simp; done) | (simp; omega)) _ | refine Below.alloc ?_ (by first | (simp; done) | (simp; omega) | omega) _ | refine Below.drew ?_ | refine Below.trans ?_ (Below.mono (by assumption) (by first | (simp; done) | (simp; omega) | omega))))
      have be9 : Below w.heap.size w w9 := BE8.out.trans (bb9.mono BE8.out.size)
      have c9_t_0 : w9.cell? ⟨w1.heap.size + 1, 0, none⟩ = some (.int .i64 2) := cell_keep bb9 c8_t_0
      have c9_t_1 : w9.cell? ⟨w1.heap.size + 1, 1, none⟩ = some (.int .i64 0) := cell_keep bb9 c8_t_1
      have c9_t_2 : w9.cell? ⟨w1.heap.size + 1, 2, none⟩ = some (.int .i64 0) := cell_keep bb9 c8_t_2
      have c9_t_3 : w9.cell? ⟨w1.heap.size + 1, 3, none⟩ = some (.bool false) := cell_keep bb9 c8_t_3
      have c9_t_4 : w9.cell? ⟨w1.heap.size + 1, 4, none⟩ = some (.slice none 0 0) := cell_keep bb9 c8_t_4
      have l9_t : w1.heap.size + 1 < w9.heap.size := by omega
      have m9_t : w1.heap.size + 1 < w9.heap.size + 1 := by omega
      have c9_k_0 : w9.cell? ⟨w7.heap.size, 0, none⟩ = some (.int .i64 2) := cell_keep bb9 c8_k_0
      have c9_k_1 : w9.cell? ⟨w7.heap.size, 1, none⟩ = some (.int .i64 0) := cell_keep bb9 c8_k_1
      have c9_k_2 : w9.cell? ⟨w7.heap.size, 2, none⟩ = some (.int .i64 7) := cell_keep bb9 c8_k_2
      have c9_k_3 : w9.cell? ⟨w7.heap.size, 3, none⟩ = some (.bool false) := cell_keep bb9 c8_k_3
      have c9_k_4 : w9.cell? ⟨w7.heap.size, 4, none⟩ = some (.slice none 0 0) := cell_keep bb9 c8_k_4
      have c9_k_5 : w9.cell? ⟨w7.heap.size, 5, none⟩ = some (.int .i64 3) := cell_keep bb9 c8_k_5
      have c9_k_6 : w9.cell? ⟨w7.heap.size, 6, none⟩ = some (.int .i64 0) := cell_keep bb9 c8_k_6
      have c9_k_7 : w9.cell? ⟨w7.heap.size, 7, none⟩ = some (.int .i64 2) := cell_keep bb9 c8_k_7
      have c9_k_8 : w9.cell? ⟨w7.heap.size, 8, none⟩ = some (.bool false) := cell_keep bb9 c8_k_8
      have c9_k_9 : w9.cell? ⟨w7.heap.size, 9, none⟩ = some (.slice none 0 0) := cell_keep bb9 c8_k_9
      have c9_k_10 : w9.cell? ⟨w7.heap.size, 10, none⟩ = some (.int .i64 2) := cell_keep bb9 c8_k_10
      have c9_k_11 : w9.cell? ⟨w7.heap.size, 11, none⟩ = some (.int .i64 0) := cell_keep bb9 c8_k_11
      have c9_k_12 : w9.cell? ⟨w7.heap.size, 12, none⟩ = some (.int .i64 7) := cell_keep bb9 c8_k_12
      have c9_k_13 : w9.cell? ⟨w7.heap.size, 13, none⟩ = some (.bool false) := cell_keep bb9 c8_k_13
      have c9_k_14 : w9.cell? ⟨w7.heap.size, 14, none⟩ = some (.slice none 0 0) := cell_keep bb9 c8_k_14
      have l9_k : w7.heap.size < w9.heap.size := by omega
      have m9_k : w7.heap.size < w9.heap.size + 1 := by omega
      have HE9 := Lib.hid (HE8.out.below bb9)
      rw [x7] at hh
      obtain ⟨be, oe, rfl, q0, q1⟩ := hols_two hh
      clear hh
      have hbe := World.block_lt_of_cell? _ _ q0
      have hbf := Nat.lt_succ_of_lt hbe
      rw [x7]
      have BE9 := Lib.hid be9
      clear be9 bb9 hb9 BE8 c8_t_0 c8_t_1 c8_t_2 c8_t_3 c8_t_4 l8_t m8_t c8_k_0 c8_k_1 c8_k_2 c8_k_3 c8_k_4 c8_k_5 c8_k_6 c8_k_7 c8_k_8 c8_k_9 c8_k_10 c8_k_11 c8_k_12 c8_k_13 c8_k_14 l8_k m8_k HE8
      go_wp2_with fail
      refine (valid_at ev0 1 _ (tat_leaf _ _ _ _ _ _ _)).mono ?_
      rintro e w10 ⟨rfl, hb10⟩
      rw [x8]
      have hz10 := hb10.size
      (try simp at hz10)
      have bb10 : Below w9.heap.size w9 w10 := (by repeat (first | exact Below.refl _ _ | assumption | refine below_drewN ?_ _ | refine Below.setCell ?_ (by first | (simp; done) | (simp; omega)) _ | refine Below.alloc ?_ (by first | (simp; done) | (simp; omega) | omega) _ | refine Below.drew ?_ | refine Below.trans ?_ (Below.mono (by assumption) (by first | (simp; done) | (simp; omega) | omega))))
      have be10 : Below w.heap.size w w10 := BE9.out.trans (bb10.mono BE9.out.size)
      have c10_t_0 : w10.cell? ⟨w1.heap.size + 1, 0, none⟩ = some (.int .i64 2) := cell_keep bb10 c9_t_0
      have c10_t_1 : w10.cell? ⟨w1.heap.size + 1, 1, none⟩ = some (.int .i64 0) := cell_keep bb10 c9_t_1
      have c10_t_2 : w10.cell? ⟨w1.heap.size + 1, 2, none⟩ = some (.int .i64 0) := cell_keep bb10 c9_t_2
      have c10_t_3 : w10.cell? ⟨w1.heap.size + 1, 3, none⟩ = some (.bool false) := cell_keep bb10 c9_t_3
      have c10_t_4 : w10.cell? ⟨w1.heap.size + 1, 4, none⟩ = some (.slice none 0 0) := cell_keep bb10 c9_t_4
      have l10_t : w1.heap.size + 1 < w10.heap.size := by omega
      have m10_t : w1.heap.size + 1 < w10.heap.size + 1 := by omega
      have c10_e_0 : w10.cell? ⟨be, oe, none⟩ = some (.int .i64 2) := cell_keep hb10 (by go_simp)
      have c10_e_1 : w10.cell? ⟨be, oe + 1, none⟩ = some (.int .i64 7) := cell_keep hb10 (by go_simp)
      have l10_e : be < w10.heap.size := by omega
      have m10_e : be < w10.heap.size + 1 := by omega
      have HE10 := Lib.hid (HE9.out.below bb10)
      have BE10 := Lib.hid be10
      clear be10 bb10 hb10 BE9 c9_t_0 c9_t_1 c9_t_2 c9_t_3 c9_t_4 l9_t m9_t HE9
      go_wp2_with fail
      refine (valid_at ev0 0 _ (tat_leaf _ _ _ _ _ _ _)).mono ?_
      rintro e w11 ⟨rfl, hb11⟩
      rw [x9]
      have hz11 := hb11.size
      (try simp at hz11)
      have bb11 : Below w10.heap.size w10 w11 := (by repeat (first | exact Below.refl _ _ | assumption | refine below_drewN ?_ _ | refine Below.setCell ?_ (by first | (simp; done) | (simp; omega)) _ | refine Below.alloc ?_ (by first | (simp; done) | (simp; omega) | omega) _ | refine Below.drew ?_ | refine Below.trans ?_ (Below.mono (by assumption) (by first | (simp; done) | (simp; omega) | omega))))
      have be11 : Below w.heap.size w w11 := BE10.out.trans (bb11.mono BE10.out.size)
      have c11_t_0 : w11.cell? ⟨w1.heap.size + 1, 0, none⟩ = some (.int .i64 2) := cell_keep bb11 c10_t_0
      have c11_t_1 : w11.cell? ⟨w1.heap.size + 1, 1, none⟩ = some (.int .i64 0) := cell_keep bb11 c10_t_1
      have c11_t_2 : w11.cell? ⟨w1.heap.size + 1, 2, none⟩ = some (.int .i64 0) := cell_keep bb11 c10_t_2
      have c11_t_3 : w11.cell? ⟨w1.heap.size + 1, 3, none⟩ = some (.bool false) := cell_keep bb11 c10_t_3
      have c11_t_4 : w11.cell? ⟨w1.heap.size + 1, 4, none⟩ = some (.slice none 0 0) := cell_keep bb11 c10_t_4
      have l11_t : w1.heap.size + 1 < w11.heap.size := by omega
      have m11_t : w1.heap.size + 1 < w11.heap.size + 1 := by omega
      have HE11 := Lib.hid (HE10.out.below bb11)
      have BE11 := Lib.hid be11
      clear be11 bb11 hb11 BE10 c10_t_0 c10_t_1 c10_t_2 c10_t_3 c10_t_4 l10_t m10_t HE10
      go_wp2_with fail
      go_ret
      exact ⟨rfl, (by have q := BE11.out; repeat (first | exact q | refine Below.setCell ?_ (by first | (simp; done) | omega | (simp; omega)) _ | refine Below.alloc ?_ (by first | (simp; done) | omega | (simp; omega)) _ | refine below_drewN ?_ _ | refine Below.drew ?_))⟩
    · go_simp
      refine hK.out _ _ (holdT (by assumption) (by repeat (first | exact Below.refl _ _ | assumption | refine below_drewN ?_ _ | refine Below.setCell ?_ (by first | (simp; done) | (simp; omega)) _ | refine Below.alloc ?_ (by first | (simp; done) | (simp; omega) | omega) _ | refine Below.drew ?_ | refine Below.trans ?_ (Below.mono (by assumption) (by first | (simp; done) | (simp; omega) | omega))))) (fun hHeld => ?_)
      clear hK K
      obtain ⟨x2, hx2⟩ : ∃ x, x = v3.alloc (.cells #[.bool true, .int .i64 5, .int .i64 0] 42) := ⟨_, rfl⟩
      have g2 : x2.heap[v3.heap.size]? = some (.cells #[.bool true, .int .i64 5, .int .i64 0] 42 (0, 0)) := by rw [hx2]; exact World.alloc_heap_new _ _
      have bx2 : Below v3.heap.size v3 x2 := by rw [hx2]; exact (by repeat (first | exact Below.refl _ _ | assumption | refine below_drewN ?_ _ | refine Below.setCell ?_ (by first | (simp; done) | (simp; omega)) _ | refine Below.alloc ?_ (by first | (simp; done) | (simp; omega) | omega) _ | refine Below.drew ?_ | refine Below.trans ?_ (Below.mono (by assumption) (by first | (simp; done) | (simp; omega) | omega))))
      rw [← hx2] at hHeld ⊢
      clear hx2
      (try simp only [List.getElem_toArray, List.getElem_cons_succ,  List.getElem_cons_zero, Act.put, List.setIfInBounds_toArray, List.set_cons_zero, List.set_cons_succ])
      have g1 := (bx2.block _ (Array.getElem?_eq_some_iff.1 g1).1).trans g1
      have gb := g2
      clear g2
      refine wpAnyH_ready (rs := [5]) (by kernel_rfl) (by simp) ?_
      refine AllReadyH.cons rfl (fun K hK => ?_) AllReadyH.nil
      go_simp
      refine hK.out _ _ (holdT (by assumption) (by repeat (first | exact Below.refl _ _ | assumption | refine below_drewN ?_ _ | refine Below.setCell ?_ (by first | (simp; done) | (simp; omega)) _ | refine Below.alloc ?_ (by first | (simp; done) | (simp; omega) | omega) _ | refine Below.drew ?_ | refine Below.trans ?_ (Below.mono (by assumption) (by first | (simp; done) | (simp; omega) | omega))))) (fun hHeld => ?_)
      clear hK K
      obtain ⟨x3, hx3⟩ : ∃ x, x = x2.alloc (.cells #[.bool true, .int .i64 4, .int .i64 5] 42) := ⟨_, rfl⟩
      have g3 : x3.heap[x2.heap.size]? = some (.cells #[.bool true, .int .i64 4, .int .i64 5] 42 (0, 0)) := by rw [hx3]; exact World.alloc_heap_new _ _
      have bx3 : Below x2.heap.size x2 x3 := by rw [hx3]; exact (by repeat (first | exact Below.refl _ _ | assumption | refine below_drewN ?_ _ | refine Below.setCell ?_ (by first | (simp; done) | (simp; omega)) _ | refine Below.alloc ?_ (by first | (simp; done) | (simp; omega) | omega) _ | refine Below.drew ?_ | refine Below.trans ?_ (Below.mono (by assumption) (by first | (simp; done) | (simp; omega) | omega))))
      rw [← hx3] at hHeld ⊢
      clear hx3
      (try simp only [List.getElem_toArray, List.getElem_cons_succ,  List.getElem_cons_zero, Act.put, List.setIfInBounds_toArray, List.set_cons_zero, List.set_cons_succ])
      have g1 := (bx3.block _ (Array.getElem?_eq_some_iff.1 g1).1).trans g1
      have gb := (bx3.block _ (Array.getElem?_eq_some_iff.1 gb).1).trans gb
      have ga := g3
      clear g3
      refine wpAnyH_ready (rs := [8]) (by kernel_rfl) (by simp) ?_
      refine AllReadyH.cons rfl (fun K hK => ?_) AllReadyH.nil
      go_simp
      refine (bounds_at (.node 6 0 0 false (some ⟨w6.heap.size, 0, none⟩) 1 [ev0]) c0 (some ⟨x2.heap.size, 0, none⟩) (some ⟨v3.heap.size, 0, none⟩) 1 1 [⟨true, 4, 5⟩] [⟨true, 5, 0⟩] _ (tat_one ⟨cell_at g1 rfl, cell_at g1 rfl, cell_at g1 rfl, cell_at g1 rfl, cell_at g1 rfl⟩ (tat_leaf _ _ _ _ _ _ _)) (.inl rfl) (ev_one (cell_at ga rfl) (cell_at ga rfl) (cell_at ga rfl)) (ev_one (cell_at gb rfl) (cell_at gb rfl) (cell_at gb rfl)) (by decide) (by decide) (HE6.out.below hHeld.1)).mono ?_
      rintro e w7 ⟨rfl, hv4⟩
      rw [x6]
      simp only [R4]
      go_wp2_with fail
      refine hK.out _ _ (holdT (by assumption) hv4) (fun hHeld => ?_)
      clear hK K
      (try simp only [List.getElem_toArray, List.getElem_cons_succ,  List.getElem_cons_zero, Act.put, List.setIfInBounds_toArray, List.set_cons_zero, List.set_cons_succ])
      clear g1 ga gb
      refine wpAnyH_take (i := 9) (v := ?_) rfl (by kernel_rfl) (by kernel_rfl) (by kernel_rfl) (fun _ _ _ h => h) (Or.inl ⟨by rfl, ?hy⟩) (by assumption) ?_
      case hy =>
        intro W hSw
        (try dsimp only at hSw)
        first | (go_simp; done) | (go_simp; with_reducible rfl)
      (try simp only [List.getElem_toArray, List.getElem_cons_succ,  List.getElem_cons_zero, Act.put, List.setIfInBounds_toArray, List.set_cons_zero, List.set_cons_succ])
      refine wpAnyH_take (i := 10) (v := ?_) rfl (by kernel_rfl) (by kernel_rfl) (by kernel_rfl) (fun _ _ _ h => h) (Or.inl ⟨by rfl, ?hy⟩) (by assumption) ?_
      case hy =>
        intro W hSw
        (try dsimp only at hSw)
        first | (go_simp; done) | (go_simp; with_reducible rfl)
      (try simp only [List.getElem_toArray, List.getElem_cons_succ,  List.getElem_cons_zero, Act.put, List.setIfInBounds_toArray, List.set_cons_zero, List.set_cons_succ])
      refine wpAnyH_take (i := 11) (v := ?_) rfl (by kernel_rfl) (by kernel_rfl) (by kernel_rfl) (fun _ _ _ h => h) (Or.inl ⟨by rfl, ?hy⟩) (by assumption) ?_
      case hy =>
        intro W hSw
        (try dsimp only at hSw)
        first | (go_simp; done) | (go_simp; with_reducible rfl)
      (try simp only [List.getElem_toArray, List.getElem_cons_succ,  List.getElem_cons_zero, Act.put, List.setIfInBounds_toArray, List.set_cons_zero, List.set_cons_succ])
      refine wpAnyH_take (i := 12) (v := ?_) rfl (by kernel_rfl) (by kernel_rfl) (by kernel_rfl) (fun _ _ _ h => h) (Or.inl ⟨by rfl, ?hy⟩) (by assumption) ?_
      case hy =>
        intro W hSw
        (try dsimp only at hSw)
        first | (go_simp; done) | (go_simp; with_reducible rfl)
      (try simp only [List.getElem_toArray, List.getElem_cons_succ,  List.getElem_cons_zero, Act.put, List.setIfInBounds_toArray, List.set_cons_zero, List.set_cons_succ])
      refine wpAnyH_take (i := 13) (v := ?_) rfl (by kernel_rfl) (by kernel_rfl) (by kernel_rfl) (fun _ _ _ h => h) (Or.inl ⟨by rfl, ?hy⟩) (by assumption) ?_
      case hy =>
        intro W hSw
        (try dsimp only at hSw)
        first | (go_simp; done) | (go_simp; with_reducible rfl)
      (try simp only [List.getElem_toArray, List.getElem_cons_succ,  List.getElem_cons_zero, Act.put, List.setIfInBounds_toArray, List.set_cons_zero, List.set_cons_succ])
      refine wpAnyH_take (i := 14) (v := ?_) rfl (by kernel_rfl) (by kernel_rfl) (by kernel_rfl) (fun _ _ _ h => h) (Or.inl ⟨by rfl, ?hy⟩) (by assumption) ?_
      case hy =>
        intro W hSw
        (try dsimp only at hSw)
        first | (go_simp; done) | (go_simp; with_reducible rfl)
      (try simp only [List.getElem_toArray, List.getElem_cons_succ,  List.getElem_cons_zero, Act.put, List.setIfInBounds_toArray, List.set_cons_zero, List.set_cons_succ])
      refine wpAnyH_take (i := 15) (v := ?_) rfl (by kernel_rfl) (by kernel_rfl) (by kernel_rfl) (fun _ _ _ h => h) (Or.inl ⟨by rfl, ?hy⟩) (by assumption) ?_
      case hy =>
        intro W hSw
        (try dsimp only at hSw)
        first | (go_simp; done) | (go_simp; with_reducible rfl)
      (try simp only [List.getElem_toArray, List.getElem_cons_succ,  List.getElem_cons_zero, Act.put, List.setIfInBounds_toArray, List.set_cons_zero, List.set_cons_succ])
      refine wpAnyH_take (i := 16) (v := ?_) rfl (by kernel_rfl) (by kernel_rfl) (by kernel_rfl) (fun _ _ _ h => h) (Or.inl ⟨by rfl, ?hy⟩) (by assumption) ?_
      case hy =>
        intro W hSw
        (try dsimp only at hSw)
        first | (go_simp; done) | (go_simp; with_reducible rfl)
      (try simp only [List.getElem_toArray, List.getElem_cons_succ,  List.getElem_cons_zero, Act.put, List.setIfInBounds_toArray, List.set_cons_zero, List.set_cons_succ])
      refine wpAnyH_take (i := 17) (v := ?_) rfl (by kernel_rfl) (by kernel_rfl) (by kernel_rfl) (fun _ _ _ h => h) (Or.inl ⟨by rfl, ?hy⟩) (by assumption) ?_
      case hy =>
        intro W hSw
        (try dsimp only at hSw)
        first | (go_simp; done) | (go_simp; with_reducible rfl)
      (try simp only [List.getElem_toArray, List.getElem_cons_succ,  List.getElem_cons_zero, Act.put, List.setIfInBounds_toArray, List.set_cons_zero, List.set_cons_succ])
      refine wpAnyH_done (by kernel_rfl) ?_ _
      have bb7 : Below w6.heap.size w6 w7 := hHeld.1
      have hz7 := bb7.size
      clear hHeld hv4
      have be7 : Below w.heap.size w w7 := BE6.out.trans (bb7.mono BE6.out.size)
      have c7_c_0 : w7.cell? ⟨w.heap.size, 0, none⟩ = some (.bool false) := cell_keep bb7 c6_c_0
      have c7_c_1 : w7.cell? ⟨w.heap.size, 1, none⟩ = some (.bool false) := cell_keep bb7 c6_c_1
      have c7_c_2 : w7.cell? ⟨w.heap.size, 2, none⟩ = some (.bool false) := cell_keep bb7 c6_c_2
      have c7_c_3 : w7.cell? ⟨w.heap.size, 3, none⟩ = some (.bool false) := cell_keep bb7 c6_c_3
      have c7_c_4 : w7.cell? ⟨w.heap.size, 4, none⟩ = some (.bool false) := cell_keep bb7 c6_c_4
      have c7_c_5 : w7.cell? ⟨w.heap.size, 5, none⟩ = some (.bool true) := cell_keep bb7 c6_c_5
      have c7_c_6 : w7.cell? ⟨w.heap.size, 6, none⟩ = some (.bool true) := cell_keep bb7 c6_c_6
      have c7_c_7 : w7.cell? ⟨w.heap.size, 7, none⟩ = some (.slice none 0 0) := cell_keep bb7 c6_c_7
      have l7_c : w.heap.size < w7.heap.size := by omega
      have m7_c : w.heap.size < w7.heap.size + 1 := by omega
      have c7_l_0 : w7.cell? ⟨w1.heap.size, 0, none⟩ = some (.bool true) := cell_keep bb7 c6_l_0
      have c7_l_1 : w7.cell? ⟨w1.heap.size, 1, none⟩ = some (.int .i64 3) := cell_keep bb7 c6_l_1
      have c7_l_2 : w7.cell? ⟨w1.heap.size, 2, none⟩ = some (.int .i64 1000) := cell_keep bb7 c6_l_2
      have l7_l : w1.heap.size < w7.heap.size := by omega
      have m7_l : w1.heap.size < w7.heap.size + 1 := by omega
      have c7_t_0 : w7.cell? ⟨w1.heap.size + 1, 0, none⟩ = some (.int .i64 2) := cell_keep bb7 c6_t_0
      have c7_t_1 : w7.cell? ⟨w1.heap.size + 1, 1, none⟩ = some (.int .i64 0) := cell_keep bb7 c6_t_1
      have c7_t_2 : w7.cell? ⟨w1.heap.size + 1, 2, none⟩ = some (.int .i64 0) := cell_keep bb7 c6_t_2
      have c7_t_3 : w7.cell? ⟨w1.heap.size + 1, 3, none⟩ = some (.bool false) := cell_keep bb7 c6_t_3
      have c7_t_4 : w7.cell? ⟨w1.heap.size + 1, 4, none⟩ = some (.slice none 0 0) := cell_keep bb7 c6_t_4
      have l7_t : w1.heap.size + 1 < w7.heap.size := by omega
      have m7_t : w1.heap.size + 1 < w7.heap.size + 1 := by omega
      have HE7 := Lib.hid (HE6.out.below bb7)
      have BE7 := Lib.hid be7
      clear be7 bb7 BE6 c6_c_0 c6_c_1 c6_c_2 c6_c_3 c6_c_4 c6_c_5 c6_c_6 c6_c_7 l6_c m6_c c6_l_0 c6_l_1 c6_l_2 l6_l m6_l c6_t_0 c6_t_1 c6_t_2 c6_t_3 c6_t_4 l6_t m6_t HE6
      clear HLR HTR
      go_wp2_with fail
      refine (of_calls 7 0 false _ 3 3 _).mono ?_
      rintro e w8 ⟨rfl, hb8⟩
      have hz8 := hb8.size
      (try simp at hz8)
      have bb8 : Below w7.heap.size w7 w8 := (by repeat (first | exact Below.refl _ _ | assumption | refine below_drewN ?_ _ | refine Below.setCell ?_ (by first | (simp; done) | (simp; omega)) _ | refine Below.alloc ?_ (by first | (simp; done) | (simp; omega) | omega) _ | refine Below.drew ?_ | refine Below.trans ?_ (Below.mono (by assumption) (by first | (simp; done) | (simp; omega) | omega))))
      have be8 : Below w.heap.size w w8 := BE7.out.trans (bb8.mono BE7.out.size)
      have c8_t_0 : w8.cell? ⟨w1.heap.size + 1, 0, none⟩ = some (.int .i64 2) := cell_keep bb8 c7_t_0
      have c8_t_1 : w8.cell? ⟨w1.heap.size + 1, 1, none⟩ = some (.int .i64 0) := cell_keep bb8 c7_t_1
      have c8_t_2 : w8.cell? ⟨w1.heap.size + 1, 2, none⟩ = some (.int .i64 0) := cell_keep bb8 c7_t_2
      have c8_t_3 : w8.cell? ⟨w1.heap.size + 1, 3, none⟩ = some (.bool false) := cell_keep bb8 c7_t_3
      have c8_t_4 : w8.cell? ⟨w1.heap.size + 1, 4, none⟩ = some (.slice none 0 0) := cell_keep bb8 c7_t_4
      have l8_t : w1.heap.size + 1 < w8.heap.size := by omega
      have m8_t : w1.heap.size + 1 < w8.heap.size + 1 := by omega
      have c8_k_0 : w8.cell? ⟨w7.heap.size, 0, none⟩ = some (.int .i64 2) := cell_keep hb8 (by go_simp)
      have c8_k_1 : w8.cell? ⟨w7.heap.size, 1, none⟩ = some (.int .i64 0) := cell_keep hb8 (by go_simp)
      have c8_k_2 : w8.cell? ⟨w7.heap.size, 2, none⟩ = some (.int .i64 7) := cell_keep hb8 (by go_simp)
      have c8_k_3 : w8.cell? ⟨w7.heap.size, 3, none⟩ = some (.bool false) := cell_keep hb8 (by go_simp)
      have c8_k_4 : w8.cell? ⟨w7.heap.size, 4, none⟩ = some (.slice none 0 0) := cell_keep hb8 (by go_simp)
      have c8_k_5 : w8.cell? ⟨w7.heap.size, 5, none⟩ = some (.int .i64 3) := cell_keep hb8 (by go_simp)
      have c8_k_6 : w8.cell? ⟨w7.heap.size, 6, none⟩ = some (.int .i64 0) := cell_keep hb8 (by go_simp)
      have c8_k_7 : w8.cell? ⟨w7.heap.size, 7, none⟩ = some (.int .i64 2) := cell_keep hb8 (by go_simp)
      have c8_k_8 : w8.cell? ⟨w7.heap.size, 8, none⟩ = some (.bool false) := cell_keep hb8 (by go_simp)
      have c8_k_9 : w8.cell? ⟨w7.heap.size, 9, none⟩ = some (.slice none 0 0) := cell_keep hb8 (by go_simp)
      have c8_k_10 : w8.cell? ⟨w7.heap.size, 10, none⟩ = some (.int .i64 2) := cell_keep hb8 (by go_simp)
      have c8_k_11 : w8.cell? ⟨w7.heap.size, 11, none⟩ = some (.int .i64 0) := cell_keep hb8 (by go_simp)
      have c8_k_12 : w8.cell? ⟨w7.heap.size, 12, none⟩ = some (.int .i64 7) := cell_keep hb8 (by go_simp)
      have c8_k_13 : w8.cell? ⟨w7.heap.size, 13, none⟩ = some (.bool false) := cell_keep hb8 (by go_simp)
      have c8_k_14 : w8.cell? ⟨w7.heap.size, 14, none⟩ = some (.slice none 0 0) := cell_keep hb8 (by go_simp)
      have l8_k : w7.heap.size < w8.heap.size := by omega
      have m8_k : w7.heap.size < w8.heap.size + 1 := by omega
      have HE8 := Lib.hid (HE7.out.below bb8)
      have BE8 := Lib.hid be8
      clear be8 bb8 hb8 BE7 c7_t_0 c7_t_1 c7_t_2 c7_t_3 c7_t_4 l7_t m7_t HE7
      go_wp2_with fail
      refine (events_at (t7 w7.heap.size) _ (tat_three ⟨c8_k_0, c8_k_1, c8_k_2, c8_k_3, c8_k_4⟩ (tat_leaf _ _ _ _ _ _ _) ⟨c8_k_5, c8_k_6, c8_k_7, c8_k_8, c8_k_9⟩ (tat_leaf _ _ _ _ _ _ _) ⟨c8_k_10, c8_k_11, c8_k_12, c8_k_13, c8_k_14⟩ (tat_leaf _ _ _ _ _ _ _)) (x7v _)).mono ?_
      rintro e w9 ⟨pe, cape, rfl, hh, hb9⟩
      have hz9 := hb9.size
      (try simp at hz9)
      have bb9 : Below w8.heap.size w8 w9 := (by repeat (first | exact Below.refl _ _ | assumption | refine below_drewN ?_ _ | refine Below.setCell ?_ (by first | (simp; done) | (simp; omega)) _ | refine Below.alloc ?_ (by first | (simp; done) | (simp; omega) | omega) _ | refine Below.drew ?_ | refine Below.trans ?_ (Below.mono (by assumption) (by first | (simp; done) | (simp; omega) | omega))))
      have be9 : Below w.heap.size w w9 := BE8.out.trans (bb9.mono BE8.out.size)
      have c9_t_0 : w9.cell? ⟨w1.heap.size + 1, 0, none⟩ = some (.int .i64 2) := cell_keep bb9 c8_t_0
      have c9_t_1 : w9.cell? ⟨w1.heap.size + 1, 1, none⟩ = some (.int .i64 0) := cell_keep bb9 c8_t_1
      have c9_t_2 : w9.cell? ⟨w1.heap.size + 1, 2, none⟩ = some (.int .i64 0) := cell_keep bb9 c8_t_2
      have c9_t_3 : w9.cell? ⟨w1.heap.size + 1, 3, none⟩ = some (.bool false) := cell_keep bb9 c8_t_3
      have c9_t_4 : w9.cell? ⟨w1.heap.size + 1, 4, none⟩ = some (.slice none 0 0) := cell_keep bb9 c8_t_4
      have l9_t : w1.heap.size + 1 < w9.heap.size := by omega
      have m9_t : w1.heap.size + 1 < w9.heap.size + 1 := by omega
      have c9_k_0 : w9.cell? ⟨w7.heap.size, 0, none⟩ = some (.int .i64 2) := cell_keep bb9 c8_k_0
      have c9_k_1 : w9.cell? ⟨w7.heap.size, 1, none⟩ = some (.int .i64 0) := cell_keep bb9 c8_k_1
      have c9_k_2 : w9.cell? ⟨w7.heap.size, 2, none⟩ = some (.int .i64 7) := cell_keep bb9 c8_k_2
      have c9_k_3 : w9.cell? ⟨w7.heap.size, 3, none⟩ = some (.bool false) := cell_keep bb9 c8_k_3
      have c9_k_4 : w9.cell? ⟨w7.heap.size, 4, none⟩ = some (.slice none 0 0) := cell_keep bb9 c8_k_4
      have c9_k_5 : w9.cell? ⟨w7.heap.size, 5, none⟩ = some (.int .i64 3) := cell_keep bb9 c8_k_5
      have c9_k_6 : w9.cell? ⟨w7.heap.size, 6, none⟩ = some (.int .i64 0) := cell_keep bb9 c8_k_6
      have c9_k_7 : w9.cell? ⟨w7.heap.size, 7, none⟩ = some (.int .i64 2) := cell_keep bb9 c8_k_7
      have c9_k_8 : w9.cell? ⟨w7.heap.size, 8, none⟩ = some (.bool false) := cell_keep bb9 c8_k_8
      have c9_k_9 : w9.cell? ⟨w7.heap.size, 9, none⟩ = some (.slice none 0 0) := cell_keep bb9 c8_k_9
      have c9_k_10 : w9.cell? ⟨w7.heap.size, 10, none⟩ = some (.int .i64 2) := cell_keep bb9 c8_k_10
      have c9_k_11 : w9.cell? ⟨w7.heap.size, 11, none⟩ = some (.int .i64 0) := cell_keep bb9 c8_k_11
      have c9_k_12 : w9.cell? ⟨w7.heap.size, 12, none⟩ = some (.int .i64 7) := cell_keep bb9 c8_k_12
      have c9_k_13 : w9.cell? ⟨w7.heap.size, 13, none⟩ = some (.bool false) := cell_keep bb9 c8_k_13
      have c9_k_14 : w9.cell? ⟨w7.heap.size, 14, none⟩ = some (.slice none 0 0) := cell_keep bb9 c8_k_14
      have l9_k : w7.heap.size < w9.heap.size := by omega
      have m9_k : w7.heap.size < w9.heap.size + 1 := by omega
      have HE9 := Lib.hid (HE8.out.below bb9)
      rw [x7] at hh
      obtain ⟨be, oe, rfl, q0, q1⟩ := hols_two hh
      clear hh
      have hbe := World.block_lt_of_cell? _ _ q0
      have hbf := Nat.lt_succ_of_lt hbe
      rw [x7]
      have BE9 := Lib.hid be9
      clear be9 bb9 hb9 BE8 c8_t_0 c8_t_1 c8_t_2 c8_t_3 c8_t_4 l8_t m8_t c8_k_0 c8_k_1 c8_k_2 c8_k_3 c8_k_4 c8_k_5 c8_k_6 c8_k_7 c8_k_8 c8_k_9 c8_k_10 c8_k_11 c8_k_12 c8_k_13 c8_k_14 l8_k m8_k HE8
      go_wp2_with fail
      refine (valid_at ev0 1 _ (tat_leaf _ _ _ _ _ _ _)).mono ?_
      rintro e w10 ⟨rfl, hb10⟩
      rw [x8]
      have hz10 := hb10.size
      (try simp at hz10)
      have bb10 : Below w9.heap.size w9 w10 := (by repeat (first | exact Below.refl _ _ | assumption | refine below_drewN ?_ _ | refine Below.setCell ?_ (by first | (simp; done) | (simp; omega)) _ | refine Below.alloc ?_ (by first | (simp; done) | (simp; omega) | omega) _ | refine Below.drew ?_ | refine Below.trans ?_ (Below.mono (by assumption) (by first | (simp; done) | (simp; omega) | omega))))
      have be10 : Below w.heap.size w w10 := BE9.out.trans (bb10.mono BE9.out.size)
      have c10_t_0 : w10.cell? ⟨w1.heap.size + 1, 0, none⟩ = some (.int .i64 2) := cell_keep bb10 c9_t_0
      have c10_t_1 : w10.cell? ⟨w1.heap.size + 1, 1, none⟩ = some (.int .i64 0) := cell_keep bb10 c9_t_1
      have c10_t_2 : w10.cell? ⟨w1.heap.size + 1, 2, none⟩ = some (.int .i64 0) := cell_keep bb10 c9_t_2
      have c10_t_3 : w10.cell? ⟨w1.heap.size + 1, 3, none⟩ = some (.bool false) := cell_keep bb10 c9_t_3
      have c10_t_4 : w10.cell? ⟨w1.heap.size + 1, 4, none⟩ = some (.slice none 0 0) := cell_keep bb10 c9_t_4
      have l10_t : w1.heap.size + 1 < w10.heap.size := by omega
      have m10_t : w1.heap.size + 1 < w10.heap.size + 1 := by omega
      have c10_e_0 : w10.cell? ⟨be, oe, none⟩ = some (.int .i64 2) := cell_keep hb10 (by go_simp)
      have c10_e_1 : w10.cell? ⟨be, oe + 1, none⟩ = some (.int .i64 7) := cell_keep hb10 (by go_simp)
      have l10_e : be < w10.heap.size := by omega
      have m10_e : be < w10.heap.size + 1 := by omega
      have HE10 := Lib.hid (HE9.out.below bb10)
      have BE10 := Lib.hid be10
      clear be10 bb10 hb10 BE9 c9_t_0 c9_t_1 c9_t_2 c9_t_3 c9_t_4 l9_t m9_t HE9
      go_wp2_with fail
      refine (valid_at ev0 0 _ (tat_leaf _ _ _ _ _ _ _)).mono ?_
      rintro e w11 ⟨rfl, hb11⟩
      rw [x9]
      have hz11 := hb11.size
      (try simp at hz11)
      have bb11 : Below w10.heap.size w10 w11 := (by repeat (first | exact Below.refl _ _ | assumption | refine below_drewN ?_ _ | refine Below.setCell ?_ (by first | (simp; done) | (simp; omega)) _ | refine Below.alloc ?_ (by first | (simp; done) | (simp; omega) | omega) _ | refine Below.drew ?_ | refine Below.trans ?_ (Below.mono (by assumption) (by first | (simp; done) | (simp; omega) | omega))))
      have be11 : Below w.heap.size w w11 := BE10.out.trans (bb11.mono BE10.out.size)
      have c11_t_0 : w11.cell? ⟨w1.heap.size + 1, 0, none⟩ = some (.int .i64 2) := cell_keep bb11 c10_t_0
      have c11_t_1 : w11.cell? ⟨w1.heap.size + 1, 1, none⟩ = some (.int .i64 0) := cell_keep bb11 c10_t_1
      have c11_t_2 : w11.cell? ⟨w1.heap.size + 1, 2, none⟩ = some (.int .i64 0) := cell_keep bb11 c10_t_2
      have c11_t_3 : w11.cell? ⟨w1.heap.size + 1, 3, none⟩ = some (.bool false) := cell_keep bb11 c10_t_3
      have c11_t_4 : w11.cell? ⟨w1.heap.size + 1, 4, none⟩ = some (.slice none 0 0) := cell_keep bb11 c10_t_4
      have l11_t : w1.heap.size + 1 < w11.heap.size := by omega
      have m11_t : w1.heap.size + 1 < w11.heap.size + 1 := by omega
      have HE11 := Lib.hid (HE10.out.below bb11)
      have BE11 := Lib.hid be11
      clear be11 bb11 hb11 BE10 c10_t_0 c10_t_1 c10_t_2 c10_t_3 c10_t_4 l10_t m10_t HE10
      go_wp2_with fail
      go_ret
      exact ⟨rfl, (by have q := BE11.out; repeat (first | exact q | refine Below.setCell ?_ (by first | (simp; done) | omega | (simp; omega)) _ | refine Below.alloc ?_ (by first | (simp; done) | omega | (simp; omega)) _ | refine below_drewN ?_ _ | refine Below.drew ?_))⟩
end Go.Proofs.YtlbfnafniobnaaaDoor
