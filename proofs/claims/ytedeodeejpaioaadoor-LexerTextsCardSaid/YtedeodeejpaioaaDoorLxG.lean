/- Lex. -/
import Derived.Test.YtedeodeejpaioaaDoorLxF
import Derived.Recover
import Derived.Defers
import Derived.Tactics2
import Derived.Laws.Pointers
namespace Go.Proofs.YtedeodeejpaioaaDoor
open Go.RowKit

set_option maxRecDepth 100000 in
set_option maxHeartbeats 1600000 in
theorem catch_some (b0 b1 b2 : Nat) (er at_ : Int) (w : World) (h01 : ¬ b0 = b1) (h02 : ¬ b0 = b2) (h12 : ¬ b1 = b2) (v0 v1 v2 : Value) (c0 : w.cell? ⟨b0, 0, none⟩ = some v0) (c1 : w.cell? ⟨b1, 0, none⟩ = some v1) (c2 : w.cell? ⟨b2, 0, none⟩ = some v2)
    (z0 : w.frozen? ⟨b0, 0, none⟩ = false) (z1 : w.frozen? ⟨b1, 0, none⟩ = false) (z2 : w.frozen? ⟨b2, 0, none⟩ = false) :
    CallsD Tryd.prog 18 #[.pointer (some ⟨b0, 0, none⟩), .pointer (some ⟨b1, 0, none⟩), .pointer (some ⟨b2, 0, none⟩)] (.panicking (PV er at_)) w fun e u' w' =>
      e = .returned (.tuple #[]) ∧ u' = .panicking [{ v := .iface 41 (.agg #[.int .i64 er, .int .i64 at_]), recovered := true }] ∧ w'.cell? ⟨b0, 0, none⟩ = some (.slice none 0 0) ∧ w'.cell? ⟨b1, 0, none⟩ = some (.int .i64 er) ∧ w'.cell? ⟨b2, 0, none⟩ = some (.int .i64 at_) ∧ ∀ n, n ≤ b0 → n ≤ b1 → n ≤ b2 → Below n w w' := by
  have hta : ∀ (v : Value) (w : World), (Instr.typeAssert (.iface 41 v) 20 41 true).run Tryd.prog w = .ok (.tuple #[v, .bool true]) w := fun _ _ => rfl
  refine callsD_of_wpS Tryd.func18 rfl fun c₀ cs hu => ?_
  have e : (#[.pointer (some ⟨b0, 0, none⟩), .pointer (some ⟨b1, 0, none⟩), .pointer (some ⟨b2, 0, none⟩)] ++ Array.replicate (Tryd.f18.ntmps - (#[.pointer (some ⟨b0, 0, none⟩), .pointer (some ⟨b1, 0, none⟩), .pointer (some ⟨b2, 0, none⟩)] : Array Value).size) undef : Array Value) = #[.pointer (some ⟨b0, 0, none⟩), .pointer (some ⟨b1, 0, none⟩), .pointer (some ⟨b2, 0, none⟩), undef, undef, undef, undef, undef, undef, undef, undef, undef, undef, undef, undef] := by
    rw [Tryd.ntmps18]
    rfl
  rw [e]
  clear e
  apply wpS_seq
  apply wpS_region
  simp [wpOpsS, go_sem, recoverD, hu, PV, Exit.thenS, hta]
  refine wpS_of_wp ?_
  have l0 := World.block_lt_of_cell? w _ c0
  have l1 := World.block_lt_of_cell? w _ c1
  have l2 := World.block_lt_of_cell? w _ c2
  simp only at l0 l1 l2
  have n0 : ¬ b0 = w.heap.size := by omega
  have n1 : ¬ b1 = w.heap.size := by omega
  have n2 : ¬ b2 = w.heap.size := by omega
  go_wp2
  go_region
  all_goals go_wp2
  have g0 : ((((w.setCell ⟨b0, 0, none⟩ (.slice none 0 0)).setCell ⟨b1, 0, none⟩ (.int .i64 er)).setCell ⟨b2, 0, none⟩ (.int .i64 at_)).alloc (.cells #[.int .i64 er, .int .i64 at_] 41)).drew.cell? ⟨b0, 0, none⟩ = some (.slice none 0 0) := by go_simp
  have g1 : ((((w.setCell ⟨b0, 0, none⟩ (.slice none 0 0)).setCell ⟨b1, 0, none⟩ (.int .i64 er)).setCell ⟨b2, 0, none⟩ (.int .i64 at_)).alloc (.cells #[.int .i64 er, .int .i64 at_] 41)).drew.cell? ⟨b1, 0, none⟩ = some (.int .i64 er) := by go_simp
  have g2 : ((((w.setCell ⟨b0, 0, none⟩ (.slice none 0 0)).setCell ⟨b1, 0, none⟩ (.int .i64 er)).setCell ⟨b2, 0, none⟩ (.int .i64 at_)).alloc (.cells #[.int .i64 er, .int .i64 at_] 41)).drew.cell? ⟨b2, 0, none⟩ = some (.int .i64 at_) := by go_simp
  refine ⟨rfl, _, rfl, .tuple #[], by simp [results, Tryd.results18], rfl, rfl, g0, g1, g2, fun n k0 k1 k2 => ?_⟩
  refine Below.drew (Below.alloc ?_ (by simp; omega) _)
  exact (((Below.refl n w).setCell k0 _).setCell k1 _).setCell k2 _
set_option maxRecDepth 100000 in
set_option maxHeartbeats 1600000 in
theorem catch_none (b0 b1 b2 : Nat) (w : World) :
    CallsD Tryd.prog 18 #[.pointer (some ⟨b0, 0, none⟩), .pointer (some ⟨b1, 0, none⟩), .pointer (some ⟨b2, 0, none⟩)] .returning w fun e u' w' => e = .returned (.tuple #[]) ∧ u' = .returning ∧ Below w.heap.size w w' := by
  have hta : ∀ (w : World), (Instr.typeAssert .nilIface 20 41 true).run Tryd.prog w = .ok (.tuple #[.agg #[.int .i64 0, .int .i64 0], .bool false]) w := fun _ => by kernel_rfl
  refine callsD_of_wpS Tryd.func18 rfl fun c₀ cs hu => ?_
  have e : (#[.pointer (some ⟨b0, 0, none⟩), .pointer (some ⟨b1, 0, none⟩), .pointer (some ⟨b2, 0, none⟩)] ++ Array.replicate (Tryd.f18.ntmps - (#[.pointer (some ⟨b0, 0, none⟩), .pointer (some ⟨b1, 0, none⟩), .pointer (some ⟨b2, 0, none⟩)] : Array Value).size) undef : Array Value) = #[.pointer (some ⟨b0, 0, none⟩), .pointer (some ⟨b1, 0, none⟩), .pointer (some ⟨b2, 0, none⟩), undef, undef, undef, undef, undef, undef, undef, undef, undef, undef, undef, undef] := by
    rw [Tryd.ntmps18]
    rfl
  rw [e]
  clear e
  apply wpS_seq
  apply wpS_region
  simp [wpOpsS, go_sem, recoverD, hu, Exit.thenS, hta]
  refine wpS_of_wp ?_
  go_wp2
  refine ⟨rfl, .returning, by cases c₀; simp_all, .tuple #[], by simp [results, Tryd.results18], rfl, rfl, (by repeat (first | exact Below.refl _ _ | assumption | refine below_drewN ?_ _ | refine Below.setCell ?_ (by first | (simp; done) | (simp; omega)) _ | refine Below.alloc ?_ (by first | (simp; done) | (simp; omega) | omega) _ | refine Below.drew ?_ | refine Below.trans ?_ (Below.mono (by assumption) (by first | (simp; done) | (simp; omega) | omega))))⟩
/-- how Lex ends -/
def LexR (L : List Lx.Tk × Int × Int) (e : Ending) (w : World) : Prop :=
  ∃ q cap, e = .returned (.tuple #[.slice q L.1.length cap, .int .i64 L.2.1, .int .i64 L.2.2]) ∧ L.1.length ≤ cap ∧ cap ≤ maxLen ∧ Toks w q L.1
theorem scan_all (s : List UInt8) (w : World) (hE : Env w) (hl : s.length ≤ 4294967280) :
    Calls Tryd.prog 19 #[.string ⟨s.toArray⟩] w fun e w' => ScanR (Lx.lexAll s) w.heap.size e w' ∧ Below w.heap.size w w' := by
  rcases Nat.lt_or_ge 20000 s.length with h | h
  · rw [Lx.lexAll_long h]
    exact scan_long s w hl h
  · rw [Lx.lexAll_short h]
    exact scan_any s w hE h
set_option maxRecDepth 100000 in
set_option maxHeartbeats 3200000 in
theorem lex_any (s : List UInt8) (w : World) (hE : Env w) (hl : s.length ≤ 4294967280) :
    Calls Tryd.prog 11 #[.string ⟨s.toArray⟩] w fun e w' => LexR (Lx.lexAll s) e w' ∧ Below w.heap.size w w' := by
  have hmf : ∀ (fn : Fn) (first cap : Array Value) (w : World), (Instr.makeFunc fn first cap).run Tryd.prog w = .ok (.func fn first cap) w := fun _ _ _ _ => rfl
  have HEV := Lib.hid hE
  obtain ⟨L, hL⟩ : ∃ L, Lx.lexAll s = L := ⟨_, rfl⟩
  have herr := fun h => Lx.lexAll_err (s := s) h
  have hok := fun h => Lx.lexAll_ok (s := s) h
  rw [hL] at herr hok ⊢
  have HL := Lib.hid hL
  have HERR := Lib.hid herr
  have HOK := Lib.hid hok
  clear hE hL herr hok
  go_enter_defers Tryd.func11, Tryd.ntmps11
  go_wp2_with fail
  refine (scan_all s _ (HEV.out.below (by repeat (first | exact Below.refl _ _ | assumption | refine below_drewN ?_ _ | refine Below.setCell ?_ (by first | (simp; done) | (simp; omega)) _ | refine Below.alloc ?_ (by first | (simp; done) | (simp; omega) | omega) _ | refine Below.drew ?_ | refine Below.trans ?_ (Below.mono (by assumption) (by first | (simp; done) | (simp; omega) | omega))))) hl).mono ?_
  rintro e w1 ⟨hr, hb1⟩
  rw [HL.out] at hr
  have hz1 := hb1.size
  (try simp at hz1)
  have be1 : Below w.heap.size w w1 := (by repeat (first | exact Below.refl _ _ | assumption | refine below_drewN ?_ _ | refine Below.setCell ?_ (by first | (simp; done) | (simp; omega)) _ | refine Below.alloc ?_ (by first | (simp; done) | (simp; omega) | omega) _ | refine Below.drew ?_ | refine Below.trans ?_ (Below.mono (by assumption) (by first | (simp; done) | (simp; omega) | omega))))
  rcases hr with ⟨h0, q, cap, rfl, h1, h2, h3, h4⟩ | ⟨h0, rfl⟩
  · have H0 := Lib.hid h0
    have H1 := Lib.hid h1
    have H2 := Lib.hid h2
    have H3 := Lib.hid h3
    (try simp only [World.size_alloc] at h4)
    have H4 := Lib.hid h4
    clear h0 h1 h2 h3 h4
    have c0 : w1.cell? ⟨w.heap.size, 0, none⟩ = some (.slice none 0 0) := cell_keep hb1 (by go_simp)
    have f0 : w1.frozen? ⟨w.heap.size, 0, none⟩ = false := (hb1.frozen (p := ⟨w.heap.size, 0, none⟩) (by first | (simp; done) | (simp; omega))).trans (by go_simp)
    have c1 : w1.cell? ⟨w.heap.size + 1, 0, none⟩ = some (.int .i64 0) := cell_keep hb1 (by go_simp)
    have f1 : w1.frozen? ⟨w.heap.size + 1, 0, none⟩ = false := (hb1.frozen (p := ⟨w.heap.size + 1, 0, none⟩) (by first | (simp; done) | (simp; omega))).trans (by go_simp)
    have c2 : w1.cell? ⟨w.heap.size + 2, 0, none⟩ = some (.int .i64 0) := cell_keep hb1 (by go_simp)
    have f2 : w1.frozen? ⟨w.heap.size + 2, 0, none⟩ = false := (hb1.frozen (p := ⟨w.heap.size + 2, 0, none⟩) (by first | (simp; done) | (simp; omega))).trans (by go_simp)
    have HB1 := Lib.hid be1
    clear hb1 be1
    go_wp2_with fail
    refine leaves_cons (f := 18) (args := #[.pointer (some ⟨w.heap.size, 0, none⟩), .pointer (some ⟨w.heap.size + 1, 0, none⟩), .pointer (some ⟨w.heap.size + 2, 0, none⟩)]) (by simp) (by simp [go_sem]) ?_
    refine (catch_none _ _ _ _).mono ?_
    rintro e u' w2 ⟨rfl, rfl, hb2⟩
    have k0 : w2.cell? ⟨w.heap.size, 0, none⟩ = some (.slice q L.1.length cap) := cell_keep hb2 (by go_simp)
    have k1 : w2.cell? ⟨w.heap.size + 1, 0, none⟩ = some (.int .i64 0) := cell_keep hb2 (by go_simp)
    have k2 : w2.cell? ⟨w.heap.size + 2, 0, none⟩ = some (.int .i64 0) := cell_keep hb2 (by go_simp)
    refine ⟨.tuple #[.slice q L.1.length cap, .int .i64 0, .int .i64 0], by simp [results, Tryd.results11, go_sem, k0, k1, k2], ⟨q, cap, by rw [H0.out, HOK.out H0.out], H1.out, H2.out, H3.out.keep H4.out (fun b o hb hl => ?_)⟩, HB1.out.trans (Below.trans ?_ (hb2.mono (by simp; omega)))⟩
    · have n0 : ¬ w.heap.size = b := by omega
      have n1 : ¬ w.heap.size + 1 = b := by omega
      have n2 : ¬ w.heap.size + 1 + 1 = b := by omega
      exact (hb2.cell (by simpa using hl)).trans (by rw [World.cell?_setCell_other _ _ _ _ (by first | (simp; done) | (simp; omega)), World.cell?_setCell_other _ _ _ _ (by first | (simp; done) | (simp; omega)), World.cell?_setCell_other _ _ _ _ (by first | (simp; done) | (simp; omega))])
    · repeat (first | exact Below.refl _ _ | refine Below.setCell ?_ (by first | (simp; done) | omega | (simp; omega)) _)
  · have H0 := Lib.hid h0
    clear h0
    have c0 : w1.cell? ⟨w.heap.size, 0, none⟩ = some (.slice none 0 0) := cell_keep hb1 (by go_simp)
    have f0 : w1.frozen? ⟨w.heap.size, 0, none⟩ = false := (hb1.frozen (p := ⟨w.heap.size, 0, none⟩) (by first | (simp; done) | (simp; omega))).trans (by go_simp)
    have c1 : w1.cell? ⟨w.heap.size + 1, 0, none⟩ = some (.int .i64 0) := cell_keep hb1 (by go_simp)
    have f1 : w1.frozen? ⟨w.heap.size + 1, 0, none⟩ = false := (hb1.frozen (p := ⟨w.heap.size + 1, 0, none⟩) (by first | (simp; done) | (simp; omega))).trans (by go_simp)
    have c2 : w1.cell? ⟨w.heap.size + 2, 0, none⟩ = some (.int .i64 0) := cell_keep hb1 (by go_simp)
    have f2 : w1.frozen? ⟨w.heap.size + 2, 0, none⟩ = false := (hb1.frozen (p := ⟨w.heap.size + 2, 0, none⟩) (by first | (simp; done) | (simp; omega))).trans (by go_simp)
    have HB1 := Lib.hid be1
    clear hb1 be1
    go_wp2_with fail
    refine leaves_cons (f := 18) (args := #[.pointer (some ⟨w.heap.size, 0, none⟩), .pointer (some ⟨w.heap.size + 1, 0, none⟩), .pointer (some ⟨w.heap.size + 2, 0, none⟩)]) (by simp) (by simp [go_sem]) ?_
    refine (catch_some _ _ _ _ _ _ (by omega) (by omega) (by omega) _ _ _ c0 c1 c2 f0 f1 f2).mono ?_
    rintro e u' w2 ⟨rfl, rfl, k0, k1, k2, hbn⟩
    have hb2 := hbn w.heap.size (by omega) (by omega) (by omega)
    clear hbn
    refine ⟨.tuple #[.slice none 0 0, .int .i64 L.2.1, .int .i64 L.2.2], by simp [results, Tryd.results11, go_sem, k0, k1, k2], ⟨none, 0, by rw [HERR.out H0.out]; rfl, by rw [HERR.out H0.out]; exact Nat.le_refl _, Nat.zero_le _, by rw [HERR.out H0.out]; exact .inl rfl⟩, HB1.out.trans hb2⟩
end Go.Proofs.YtedeodeejpaioaaDoor
