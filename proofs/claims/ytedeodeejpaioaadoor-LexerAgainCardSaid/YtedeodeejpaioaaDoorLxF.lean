/- Tokens in memory; scan. -/
import Derived.Test.YtedeodeejpaioaaDoorLxE
import Derived.Test.YtedeodeejpaioaaDoorLxMath7
import Derived.Maps.AppendAt
import Derived.Laws.OwnMore
namespace Go.Proofs.YtedeodeejpaioaaDoor
open Go.RowKit

def cellsT : List Lx.Tk → List Value
  | [] => []
  | t :: l => .int .i64 t.kd :: .string ⟨t.tx.toArray⟩ :: .int .i64 t.n :: .int .i64 t.off :: cellsT l
theorem cellsT_app : ∀ (a b : List Lx.Tk), cellsT (a ++ b) = cellsT a ++ cellsT b
  | [], _ => rfl
  | x :: a, b => by rw [List.cons_append, cellsT, cellsT, cellsT_app a b]; rfl
theorem cellsT_get : ∀ (l : List Lx.Tk) (i : Nat) t, l[i]? = some t → (cellsT l)[i * 4]? = some (.int .i64 t.kd) ∧ (cellsT l)[i * 4 + 1]? = some (.string ⟨t.tx.toArray⟩) ∧ (cellsT l)[i * 4 + 2]? = some (.int .i64 t.n) ∧ (cellsT l)[i * 4 + 3]? = some (.int .i64 t.off)
  | [], i, t, h => by simp at h
  | x :: l, 0, t, h => by
    obtain rfl : x = t := by simpa using h
    exact ⟨rfl, rfl, rfl, rfl⟩
  | x :: l, i + 1, t, h => by
    have ih := cellsT_get l i t (by simpa using h)
    rw [cellsT, show (i + 1) * 4 + 3 = i * 4 + 3 + 1 + 1 + 1 + 1 by omega, show (i + 1) * 4 + 2 = i * 4 + 2 + 1 + 1 + 1 + 1 by omega, show (i + 1) * 4 + 1 = i * 4 + 1 + 1 + 1 + 1 + 1 by omega, show (i + 1) * 4 = i * 4 + 1 + 1 + 1 + 1 by omega]
    simp only [List.getElem?_cons_succ]
    exact ih
/-- a token in memory -/
def KCell (w : World) (b o : Nat) (t : Lx.Tk) : Prop :=
  w.cell? ⟨b, o, none⟩ = some (.int .i64 t.kd) ∧ w.cell? ⟨b, o + 1, none⟩ = some (.string ⟨t.tx.toArray⟩) ∧ w.cell? ⟨b, o + 2, none⟩ = some (.int .i64 t.n) ∧ w.cell? ⟨b, o + 3, none⟩ = some (.int .i64 t.off)
theorem KCell.below {w w' : World} {b o : Nat} {t : Lx.Tk} (h : KCell w b o t) (hb : Below w.heap.size w w') : KCell w' b o t :=
  ⟨cell_keep hb h.1, cell_keep hb h.2.1, cell_keep hb h.2.2.1, cell_keep hb h.2.2.2⟩
/-- tokens in memory -/
def Toks (w : World) (p : Option Addr) (l : List Lx.Tk) : Prop := l = [] ∨ ∃ b off, p = some ⟨b, off, none⟩ ∧ ∀ (j : Nat) t, l[j]? = some t → KCell w b (off + j * 4) t
theorem Toks.below {w w' : World} {p : Option Addr} {l : List Lx.Tk} (h : Toks w p l) (hb : Below w.heap.size w w') : Toks w' p l :=
  h.imp id fun ⟨b, off, hp, h⟩ => ⟨b, off, hp, fun j t ht => (h j t ht).below hb⟩
theorem Toks.at {w : World} {p : Option Addr} {l : List Lx.Tk} (h : Toks w p l) {j : Nat} {t : Lx.Tk} (hu : l[j]? = some t) : ∃ b off, p = some ⟨b, off, none⟩ ∧ KCell w b (off + j * 4) t ∧ b < w.heap.size := by
  rcases h with rfl | ⟨b, off, hp, h⟩
  · simp at hu
  · exact ⟨b, off, hp, h j t hu, World.block_lt_of_cell? w _ (h j t hu).1⟩
theorem Toks.keep {w w' : World} {base : Nat} {p : Option Addr} {l : List Lx.Tk} (h : Toks w p l) (hx : ∀ x, p = some x → base ≤ x.block) (hk : ∀ b o, base ≤ b → b < w.heap.size → w'.cell? ⟨b, o, none⟩ = w.cell? ⟨b, o, none⟩) : Toks w' p l := by
  rcases h with rfl | ⟨b, off, rfl, h⟩
  · exact .inl rfl
  · have hb := hx _ rfl
    refine .inr ⟨b, off, rfl, fun j t ht => ?_⟩
    have hc := h j t ht
    have hl : b < w.heap.size := World.block_lt_of_cell? w _ hc.1
    exact ⟨(hk _ _ hb hl).trans hc.1, (hk _ _ hb hl).trans hc.2.1, (hk _ _ hb hl).trans hc.2.2.1, (hk _ _ hb hl).trans hc.2.2.2⟩
theorem own_below {w w' : World} {base n : Nat} {v : Value} {xs : List Value} (h : w.ownsRow base 30 4 v n xs) (hb : Below w.heap.size w w') : w'.ownsRow base 30 4 v n xs := by
  obtain ⟨h1, h2⟩ := h
  refine ⟨h1, h2.imp id ?_⟩
  rintro ⟨g, cap, cur, hv, hbg, hg, h3⟩
  exact ⟨g, cap, cur, hv, hbg, (hb.block g (Array.getElem?_eq_some_iff.1 hg).1).trans hg, h3⟩
/-- tokens in a row of the call's own -/
def OwnT (w : World) (base : Nat) (v : Value) (l : List Lx.Tk) : Prop := w.ownsRow base 30 4 v l.length (cellsT l)
theorem OwnT.below {w w' : World} {base : Nat} {v : Value} {l : List Lx.Tk} (h : OwnT w base v l) (hb : Below w.heap.size w w') : OwnT w' base v l := own_below h hb
theorem OwnT.toks {w : World} {base : Nat} {v : Value} {l : List Lx.Tk} (h : OwnT w base v l) : ∃ q cap, v = .slice q l.length cap ∧ l.length ≤ cap ∧ cap ≤ maxLen ∧ Toks w q l ∧ ∀ x, q = some x → base ≤ x.block := by
  rcases h.2 with ⟨hv, h0⟩ | ⟨g, cap, cur, hv, hbg, hg, h1, h2, _, ht⟩
  · obtain rfl := List.length_eq_zero_iff.1 h0
    exact ⟨none, 0, hv, Nat.le_refl _, Nat.zero_le _, .inl rfl, fun x hx => by cases hx⟩
  · refine ⟨_, cap, hv, h1, h2, .inr ⟨g, 0, rfl, fun j r hr => ?_⟩, fun x hx => by cases hx; exact hbg⟩
    obtain ⟨h1, h2, h3, h4⟩ := cellsT_get l j r hr
    have key : ∀ (i : Nat) (u : Value), (cellsT l)[i]? = some u → w.cell? ⟨g, i, none⟩ = some u := fun i u hu => by
      rw [← ht, List.getElem?_take] at hu
      split at hu
      · simp [World.cell?, hg]
        simpa using hu
      · cases hu
    rw [Nat.zero_add]
    exact ⟨key _ _ h1, key _ _ h2, key _ _ h3, key _ _ h4⟩
theorem own_one {w : World} {base : Nat} {v : Value} {l : List Lx.Tk} {kd n : Int} {tx : List UInt8} {off : Nat} (h : w.ownsRow base 30 4 v (l.length + 1) (cellsT l ++ [.int .i64 kd, .string ⟨tx.toArray⟩, .int .i64 n, .int .i64 (off : Int)])) : OwnT w base v (l ++ [⟨kd, tx, n, off⟩]) := by
  unfold OwnT
  rw [cellsT_app, List.length_append]
  exact h
theorem cells_new (w : World) (cs : List Value) (t : TypeId) : ∀ j u, cs[j]? = some u → (w.alloc (.cells cs.toArray t)).cell? ((⟨w.heap.size, 0, none⟩ : Addr).add j) = some u := by
  intro j u hj
  have e := heap_alloc_new w (.cells cs.toArray t)
  rw [Go.WideShapes.add_plain, Nat.zero_add]
  simp only [World.cell?, e]
  simpa using hj
theorem info_token : (Tryd.prog.info? 30).map (fun i => (i.zero, i.size, i.bytes)) = some (some (.agg #[.int .i64 0, .string ⟨#[]⟩, .int .i64 0, .int .i64 0]), 4, 40) := by kernel_rfl
theorem info_parts {o : Option TypeInfo} {z : Option Value} {a b : Nat} (h : o.map (fun i => (i.zero, i.size, i.bytes)) = some (z, a, b)) : ∃ i, o = some i ∧ i.zero = z ∧ i.size = a ∧ i.bytes = b := by
  cases o with
  | none => simp at h
  | some i =>
    simp only [Option.map_some, Option.some.injEq, Prod.mk.injEq] at h
    exact ⟨i, rfl, h.1, h.2.1, h.2.2⟩
theorem gap_next (s : List UInt8) (a : Nat) (h : a ≤ s.length) : a + Lx.gapN (s.drop a) false ≤ s.length := by
  have := Lx.gapN_le (s.drop a) false
  rw [List.length_drop] at this
  omega
theorem step_at {s : List UInt8} {a p : Nat} (hp : a + Lx.gapN (s.drop a) false = p) (h : p < s.length) : Lx.stepS (s.drop a) = Lx.stOf (Lx.gapN (s.drop a) false) (Lx.tokS (s.drop p)) := by
  rw [Lx.step_mk rfl (by rw [List.length_drop]; omega), List.drop_drop, hp]
theorem step_end {s : List UInt8} {a p : Nat} (hp : a + Lx.gapN (s.drop a) false = p) (ha : a ≤ s.length) (h : ¬ p < s.length) : Lx.stepS (s.drop a) = .done := by
  have := gap_next s a ha
  rw [Lx.step_done, List.length_drop]
  omega
theorem skip_zero (s : List UInt8) (w : World) (hl : s.length ≤ 4294967280) :
    Calls Tryd.prog 22 #[.string ⟨s.toArray⟩, .int .i64 0] w fun e w' => e = .returned (.int .i64 ((Lx.gapN s false : Nat) : Int)) ∧ Below w.heap.size w w' := by
  have h := skip_any s 0 w hl (Nat.zero_le _)
  rwa [List.drop_zero, Nat.zero_add] at h
theorem skip_sum (s : List UInt8) (k m : Nat) (w : World) (hl : s.length ≤ 4294967280) (hk : k + m ≤ s.length) :
    Calls Tryd.prog 22 #[.string ⟨s.toArray⟩, .int .i64 ((k : Int) + (m : Int))] w fun e w' => e = .returned (.int .i64 ((k + m + Lx.gapN (s.drop (k + m)) false : Nat) : Int)) ∧ Below w.heap.size w w' := by
  have h := skip_any s (k + m) w hl hk
  rwa [Int.natCast_add k m] at h
/-- how a scan ends -/
def ScanR (L : List Lx.Tk × Int × Int) (base : Nat) (e : Ending) (w : World) : Prop :=
  (L.2.1 = 0 ∧ ∃ q cap, e = .returned (.slice q L.1.length cap) ∧ L.1.length ≤ cap ∧ cap ≤ maxLen ∧ Toks w q L.1 ∧ ∀ x, q = some x → base ≤ x.block) ∨ (L.2.1 ≠ 0 ∧ e = .panicked (PV L.2.1 L.2.2))
theorem ScanR.ok {L : List Lx.Tk × Int × Int} {l : List Lx.Tk} {w : World} {base : Nat} {v : Value} (hL : L = (l, 0, 0)) (h : OwnT w base v l) : ScanR L base (.returned v) w := by
  subst hL
  obtain ⟨q, cap, rfl, h1, h2, h3, h4⟩ := h.toks
  exact .inl ⟨rfl, q, cap, rfl, h1, h2, h3, h4⟩
theorem ScanR.bad {L : List Lx.Tk × Int × Int} {e a : Int} {base : Nat} {w : World} (hL : L.2 = (e, a)) (h0 : e ≠ 0) : ScanR L base (.panicked (PV e a)) w := by
  right
  rw [hL]
  exact ⟨h0, rfl⟩
set_option maxRecDepth 100000 in
set_option maxHeartbeats 1600000 in
theorem scan_long (s : List UInt8) (w : World) (hl : s.length ≤ 4294967280) (h : 20000 < s.length) :
    Calls Tryd.prog 19 #[.string ⟨s.toArray⟩] w fun e w' => ScanR ([], 3, -1) w.heap.size e w' ∧ Below w.heap.size w w' := by
  have hs := text_size s
  have b1 : decide (20000 < (s.length : Int)) = true := by simp; omega
  go_enter Tryd.func19, Tryd.ntmps19
  go_wp2_with fail
  exact ⟨rfl, ScanR.bad rfl (by decide), (by repeat (first | exact Below.refl _ _ | assumption | refine below_drewN ?_ _ | refine Below.setCell ?_ (by first | (simp; done) | (simp; omega)) _ | refine Below.alloc ?_ (by first | (simp; done) | (simp; omega) | omega) _ | refine Below.drew ?_ | refine Below.trans ?_ (Below.mono (by assumption) (by first | (simp; done) | (simp; omega) | omega))))⟩
set_option maxRecDepth 100000 in
set_option maxHeartbeats 3200000 in
theorem scan_any (s : List UInt8) (w : World) (hE : Env w) (h20 : s.length ≤ 20000) :
    Calls Tryd.prog 19 #[.string ⟨s.toArray⟩] w fun e w' => ScanR (Lx.lexS true s 0 0) w.heap.size e w' ∧ Below w.heap.size w w' := by
  have hs := text_size s
  have hl : s.length ≤ 4294967280 := by omega
  have b0 : decide (20000 < (s.length : Int)) = false := by simp; omega
  obtain ⟨L, hL⟩ : ∃ L, Lx.lexS true s 0 0 = L := ⟨_, rfl⟩
  have hrem := Lx.Rem.start L
  rw [hL]
  have HREM := Lib.hid (show Lx.Rem L [] (Lx.lexS true (s.drop 0) 0 0) by rw [List.drop_zero, hL]; exact hrem)
  have HE := Lib.hid hE
  obtain ⟨i0, hi, hy0, hy1, hy2⟩ := info_parts info_token
  have HI := Lib.hid hi
  have HY0 := Lib.hid hy0
  have HY1 := Lib.hid hy1
  have HY2 := Lib.hid hy2
  clear hi hy0 hy1 hy2 hL hrem hE
  go_enter Tryd.func19, Tryd.ntmps19
  go_wp2_with fail
  refine (skip_zero s _ hl).mono ?_
  rintro e w0 ⟨rfl, hb0⟩
  have HB0 := Lib.hid hb0
  clear hb0
  go_wp2_with fail
  go_loopw [3, 4] (fun t u wr => ∃ (a p : Nat) (l : List Lx.Tk), u = .int .i64 (p : Int) ∧ a + Lx.gapN (s.drop a) false = p ∧ a ≤ s.length ∧ l.length ≤ 5000 ∧ OwnT wr w.heap.size t l ∧ Lx.Rem L l (Lx.lexS true (s.drop a) a l.length) ∧ Below w.heap.size w wr) (fun _ u _ => s.length - (intOf u).toNat)
  case atStart => exact ⟨0, Lx.gapN s false, [], rfl, by rw [List.drop_zero]; omega, Nat.zero_le _, Nat.zero_le _, World.ownsRow_nil _ _ _ _, HREM.out, HB0.out⟩
  case round =>
    clear HREM
    obtain ⟨a, p, l, rfl, hp, ha, h5, ho, hr, hbw⟩ := hrel
    have hpl := gap_next s a ha
    rw [hp] at hpl
    have HO := Lib.hid ho
    have HR := Lib.hid hr
    have HB := Lib.hid hbw
    clear ho hr hbw
    by_cases hlt : p < s.length
    · have b1 : decide ((p : Int) < (s.length : Int)) = true := by simp; omega
      have hst := step_at hp hlt
      cases htk : Lx.tokS (s.drop p) with
      | err er =>
        have HTK := Lib.hid htk
        rw [htk] at hst
        have hbad := HR.out.bad hst
        have hne : er ≠ 0 := Lx.bad_err hst
        rw [hp] at hbad
        have HBAD := Lib.hid hbad
        have HNE := Lib.hid hne
        clear htk hst hbad hne hp
        go_wp2_with fail
        refine (token_bad s p _ hl hlt (HE.out.below HB.out) HTK.out).mono ?_
        rintro e w1 ⟨rfl, hb1⟩
        have HB1 := Lib.hid (HB.out.trans (hb1.mono HB.out.size))
        clear hb1
        go_wp2_with fail
        exact ⟨rfl, ScanR.bad HBAD.out HNE.out, HB1.out⟩
      | tok kd n v =>
        have HTK := Lib.hid htk
        rw [htk] at hst
        have hn := Lx.tok_len htk
        rw [List.length_drop] at hn
        obtain ⟨tx, htx⟩ : ∃ tx, (s.drop p).take n = tx := ⟨_, rfl⟩
        have HTX := Lib.hid htx
        have hxl : tx.length = n := by rw [← htx, List.length_take, List.length_drop]; omega
        have hxs := text_size tx
        rw [hxl] at hxs
        by_cases hfull : l.length = 5000
        · have hf := HR.out.full hst (by omega)
          rw [hp] at hf
          have HF := Lib.hid hf
          have b2 : ((l.length : Int) == 5000) = true := by simp; omega
          have hown := HO.out.toks
          obtain ⟨q, cap, rfl, -, -, -, -⟩ := hown
          clear htk hst hf hp htx hfull
          go_wp2_with fail
          refine (token_ok s p _ hl hlt HTK.out).mono ?_
          rintro e w1 ⟨rfl, hb1⟩
          rw [HTX.out]
          simp only [TV]
          have HB1 := Lib.hid (HB.out.trans (hb1.mono HB.out.size))
          have hz1 := HB1.out.size
          clear hb1
          go_wp2_with fail
          exact ⟨rfl, ScanR.bad HF.out (by decide), (by have q := HB1.out; repeat (first | exact q | refine Below.setCell ?_ (by first | (simp; done) | omega | (simp; omega)) _ | refine Below.alloc ?_ (by first | (simp; done) | omega | (simp; omega)) _ | refine below_drewN ?_ _ | refine Below.drew ?_))⟩
        · have hs1 := HR.out.step hst (by omega)
          have b2 : ((l.length : Int) == 5000) = false := by simp; omega
          have h4 : l.length < 5000 := by omega
          have hown := HO.out.toks
          obtain ⟨q, cap, rfl, -, -, -, -⟩ := hown
          rw [List.drop_drop, List.drop_drop, ← Nat.add_assoc, hp, htx] at hs1
          have HS1 := Lib.hid hs1
          clear htk hst hs1 hp htx hfull
          go_wp2_with fail
          refine (token_ok s p _ hl hlt HTK.out).mono ?_
          rintro e w1 ⟨rfl, hb1⟩
          rw [HTX.out]
          simp only [TV]
          have HB1 := Lib.hid (HB.out.trans (hb1.mono HB.out.size))
          have HO1 := Lib.hid (HO.out.below (hb1.mono (Nat.le_refl _)))
          have hz1 := HB1.out.size
          clear hb1 HO HB
          have how : ((w1.alloc (.cells #[.int .i64 kd, .string ⟨tx.toArray⟩, .int .i64 v, .int .i64 (p : Int)] 30)).alloc (.cells #[.int .i64 kd, .string ⟨tx.toArray⟩, .int .i64 v, .int .i64 (p : Int)] 30)).ownsRow w.heap.size 30 4 (.slice q l.length cap) l.length (cellsT l) := own_below HO1.out (((Below.refl _ w1).alloc (Nat.le_refl _) _).alloc (by simp) _)
          have HOW := Lib.hid how
          have hsz : w.heap.size ≤ ((w1.alloc (.cells #[.int .i64 kd, .string ⟨tx.toArray⟩, .int .i64 v, .int .i64 (p : Int)] 30)).alloc (.cells #[.int .i64 kd, .string ⟨tx.toArray⟩, .int .i64 v, .int .i64 (p : Int)] 30)).heap.size := by simp; omega
          have HSZ := Lib.hid hsz
          have hcn := cells_new (w1.alloc (.cells #[.int .i64 kd, .string ⟨tx.toArray⟩, .int .i64 v, .int .i64 (p : Int)] 30)) [.int .i64 kd, .string ⟨tx.toArray⟩, .int .i64 v, .int .i64 (p : Int)] 30
          rw [World.size_alloc] at hcn
          have HCN := Lib.hid hcn
          clear how hsz hcn
          go_wp2_with (at_builtin; refine wpList_append_own_at _ rfl (.tmp 26) (.tmp 28) 23 rfl w.heap.size 30 i0 (.agg #[.int .i64 0, .string ⟨#[]⟩, .int .i64 0, .int .i64 0]) 4 40 Tryd.underlying23 HI.out HY0.out HY1.out HY2.out rfl (by decide) _ _ _ rfl HOW.out ⟨w1.heap.size + 1, 0, none⟩ 1 1 [.int .i64 kd, .string ⟨tx.toArray⟩, .int .i64 v, .int .i64 (p : Int)] rfl rfl HCN.out (by simp [Value.oneCell']) (by simp [maxLen]; omega) (by omega) HSZ.out ?_)
          intro v' w6 hown hgrow _ _
          have hz6 := hgrow.size
          (try simp at hz6)
          have ho6 : OwnT w6 w.heap.size v' (l ++ [⟨kd, tx, v, p⟩]) := own_one hown
          have hb6 : Below w.heap.size w w6 := Below.grown ((by have q := HB1.out; repeat (first | exact q | refine Below.setCell ?_ (by first | (simp; done) | omega | (simp; omega)) _ | refine Below.alloc ?_ (by first | (simp; done) | omega | (simp; omega)) _ | refine below_drewN ?_ _ | refine Below.drew ?_))) hgrow (by simp; omega) (fun b hb => (HO1.out.lt b hb).1)
          have hnr : some w1.heap.size ≠ (Value.slice q l.length cap).ownBlock := fun h => by have := (HO1.out.lt _ h.symm).2; omega
          have hc6 : w6.cell? ⟨w1.heap.size, 1, none⟩ = some (.string ⟨tx.toArray⟩) := (World.cell?_of_block (a := ⟨w1.heap.size, 1, none⟩) (hgrow.block w1.heap.size (by simp; omega) hnr)).trans (by go_simp)
          have HO6 := Lib.hid ho6
          have HB6 := Lib.hid hb6
          clear hown hgrow ho6 hb6 hnr
          go_wp2_with fail
          refine (skip_sum s p n _ hl (by omega)).mono ?_
          rintro e w7 ⟨rfl, hb7⟩
          have HB7 := Lib.hid (HB6.out.trans (hb7.mono HB6.out.size))
          have HO7 := Lib.hid (HO6.out.below hb7)
          have hle := gap_next s (p + n) (by omega)
          clear hb7
          go_wp2_with fail
          go_roundw
          case rel => exact ⟨p + n, p + n + Lx.gapN (s.drop (p + n)) false, l ++ [⟨kd, tx, v, p⟩], rfl, rfl, by omega, by rw [List.length_append]; simp; omega, HO7.out, by rw [List.length_append]; exact HS1.out, HB7.out⟩
          case measure => simp [intOf]; omega
    · have b1 : decide ((p : Int) < (s.length : Int)) = false := by simp; omega
      have hd := HR.out.done (step_end hp ha hlt)
      have HD := Lib.hid hd
      clear hd hp
      go_wp2_with fail
      go_ret
      exact ⟨ScanR.ok HD.out HO.out, HB.out⟩
end Go.Proofs.YtedeodeejpaioaaDoor
