/- The reference implementation: Lex. -/
import Derived.Test.YtedeodeejpaioaaDoorLxK
import Derived.OwnWalk
namespace Go.Proofs.YtedeodeejpaioaaDoor
open Go.RowKit

theorem rgap_zero (s : List UInt8) (w : World) (hl : s.length ≤ 4294967280) :
    Calls Tryd.prog 20 #[.string ⟨s.toArray⟩, .int .i64 0] w fun e w' => e = .returned (.int .i64 ((Lx.gapN s false : Nat) : Int)) ∧ w = w' := by
  have h := rgap_any s 0 w hl (Nat.zero_le _)
  rwa [List.drop_zero] at h
theorem rgap_sum (s : List UInt8) (k m : Nat) (w : World) (hl : s.length ≤ 4294967280) (hk : k + m ≤ s.length) :
    Calls Tryd.prog 20 #[.string ⟨s.toArray⟩, .int .i64 ((k : Int) + (m : Int))] w fun e w' => e = .returned (.int .i64 ((Lx.gapN (s.drop (k + m)) false : Nat) : Int)) ∧ w = w' := by
  have h := rgap_any s (k + m) w hl hk
  rwa [Int.natCast_add k m] at h
theorem LexR.of_ok {L : List Lx.Tk × Int × Int} {l : List Lx.Tk} {w : World} {base : Nat} {v : Value} (hL : L = (l, 0, 0)) (h : OwnT w base v l) : LexR L (.returned (.tuple #[v, .int .i64 0, .int .i64 0])) w := by
  subst hL
  obtain ⟨q, cap, rfl, h1, h2, h3, _⟩ := h.toks
  exact ⟨q, cap, rfl, h1, h2, h3⟩
theorem LexR.of_bad {L : List Lx.Tk × Int × Int} {e a : Int} {w : World} (h1 : L.1 = []) (hL : L.2 = (e, a)) : LexR L (.returned (.tuple #[.slice none 0 0, .int .i64 e, .int .i64 a])) w := by
  refine ⟨none, 0, by rw [h1, hL]; rfl, by rw [h1]; exact Nat.le_refl _, Nat.zero_le _, .inl h1⟩
set_option maxRecDepth 100000 in
set_option maxHeartbeats 1600000 in
theorem rlex_long (s : List UInt8) (w : World) (hl : s.length ≤ 4294967280) (h : 20000 < s.length) :
    Calls Tryd.prog 12 #[.string ⟨s.toArray⟩] w fun e w' => LexR ([], 3, -1) e w' ∧ Below w.heap.size w w' := by
  have hs := text_size s
  have b1 : decide (20000 < (s.length : Int)) = true := by simp; omega
  go_enter Tryd.func12, Tryd.ntmps12
  go_wp2_with fail
  refine bodyPost_ret (v := .tuple #[.slice none 0 0, .int .i64 3, .int .i64 (-1)]) (by simp [results, Tryd.results12, go_sem]) rfl ⟨LexR.of_bad rfl rfl, (by repeat (first | exact Below.refl _ _ | assumption | refine below_drewN ?_ _ | refine Below.setCell ?_ (by first | (simp; done) | (simp; omega)) _ | refine Below.alloc ?_ (by first | (simp; done) | (simp; omega) | omega) _ | refine Below.drew ?_ | refine Below.trans ?_ (Below.mono (by assumption) (by first | (simp; done) | (simp; omega) | omega))))⟩
set_option maxRecDepth 100000 in
set_option maxHeartbeats 3200000 in
theorem rlex_short (s : List UInt8) (w : World) (h20 : s.length ≤ 20000) :
    Calls Tryd.prog 12 #[.string ⟨s.toArray⟩] w fun e w' => LexR (Lx.lexS true s 0 0) e w' ∧ Below w.heap.size w w' := by
  have hs := text_size s
  have hl : s.length ≤ 4294967280 := by omega
  have b0 : decide (20000 < (s.length : Int)) = false := by simp; omega
  obtain ⟨L, hL⟩ : ∃ L, Lx.lexS true s 0 0 = L := ⟨_, rfl⟩
  have herr := fun h => Lx.lex_errL (lim := true) (s := s) (a := 0) (k := 0) h
  have hrem := Lx.Rem.start L
  rw [hL] at herr ⊢
  have HREM := Lib.hid (show Lx.Rem L [] (Lx.lexS true (s.drop 0) 0 0) by rw [List.drop_zero, hL]; exact hrem)
  have HERR := Lib.hid herr
  obtain ⟨i0, hi, hy0, hy1, hy2⟩ := info_parts info_token
  have HI := Lib.hid hi
  have HY0 := Lib.hid hy0
  have HY1 := Lib.hid hy1
  have HY2 := Lib.hid hy2
  clear hi hy0 hy1 hy2 hL hrem herr
  go_enter Tryd.func12, Tryd.ntmps12
  go_wp2_with fail
  refine (rgap_zero s _ hl).mono ?_
  rintro e w' ⟨rfl, rfl⟩
  go_wp2_with fail
  go_loopw [5, 6] (fun t u wr => ∃ (a p : Nat) (l : List Lx.Tk), u = .int .i64 (p : Int) ∧ a + Lx.gapN (s.drop a) false = p ∧ a ≤ s.length ∧ l.length ≤ 5000 ∧ OwnT wr w.heap.size t l ∧ Lx.Rem L l (Lx.lexS true (s.drop a) a l.length) ∧ Below w.heap.size w wr) (fun _ u _ => s.length - (intOf u).toNat)
  case atStart => exact ⟨0, Lx.gapN s false, [], rfl, by rw [List.drop_zero]; omega, Nat.zero_le _, Nat.zero_le _, World.ownsRow_nil _ _ _ _, HREM.out, Below.refl _ _⟩
  case round =>
    clear HREM
    obtain ⟨a, p, l, rfl, hp, ha, h5, ho, hr, hbw⟩ := hrel
    have hpl := gap_next s a ha
    rw [hp] at hpl
    have HO := Lib.hid ho
    have HR := Lib.hid hr
    have HB := Lib.hid hbw
    clear ho hr hbw
    by_cases hlt : p < s.length
    · have b1 : decide ((p : Int) < (s.length : Int)) = true := by simp; omega
      have hst := step_at hp hlt
      cases htk : Lx.tokS (s.drop p) with
      | err er =>
        have HTK := Lib.hid htk
        rw [htk] at hst
        have hbad := HR.out.bad hst
        have hne : er ≠ 0 := Lx.bad_err hst
        rw [hp] at hbad
        have b2 : (er != 0) = true := by simpa using hne
        have HBAD := Lib.hid hbad
        have HNIL := Lib.hid (HERR.out (by rw [hbad]; exact hne))
        clear htk hst hbad hne hp
        go_wp2_with fail
        refine (rtoken_bad s p _ hl hlt HTK.out).mono ?_
        rintro e w1 ⟨rfl, hb1⟩
        have HB1 := Lib.hid (HB.out.trans (hb1.mono HB.out.size))
        have hz1 := HB1.out.size
        simp only [TV]
        clear hb1
        go_wp2_with fail
        refine bodyPost_ret (v := .tuple #[.slice none 0 0, .int .i64 er, .int .i64 (p : Int)]) (by simp [results, Tryd.results12, go_sem]) rfl ⟨LexR.of_bad HNIL.out HBAD.out, (by have q := HB1.out; repeat (first | exact q | refine Below.setCell ?_ (by first | (simp; done) | omega | (simp; omega)) _ | refine Below.alloc ?_ (by first | (simp; done) | omega | (simp; omega)) _ | refine below_drewN ?_ _ | refine Below.drew ?_))⟩
      | tok kd n v =>
        have HTK := Lib.hid htk
        rw [htk] at hst
        have hn := Lx.tok_len htk
        rw [List.length_drop] at hn
        obtain ⟨tx, htx⟩ : ∃ tx, (s.drop p).take n = tx := ⟨_, rfl⟩
        have HTX := Lib.hid htx
        have hxl : tx.length = n := by rw [← htx, List.length_take, List.length_drop]; omega
        have hxs := text_size tx
        rw [hxl] at hxs
        by_cases hfull : l.length = 5000
        · have hf := HR.out.full hst (by omega)
          rw [hp] at hf
          have HF := Lib.hid hf
          have HNIL := Lib.hid (HERR.out (by rw [hf]; show (3 : Int) ≠ 0; decide))
          have b2 : ((l.length : Int) == 5000) = true := by simp; omega
          have hown := HO.out.toks
          obtain ⟨q, cap, rfl, -, -, -, -⟩ := hown
          clear htk hst hf hp htx hfull
          go_wp2_with fail
          refine (rtoken_ok s p _ hl hlt HTK.out).mono ?_
          rintro e w1 ⟨rfl, hb1⟩
          rw [HTX.out]
          simp only [TV]
          have HB1 := Lib.hid (HB.out.trans (hb1.mono HB.out.size))
          have hz1 := HB1.out.size
          clear hb1
          go_wp2_with fail
          refine bodyPost_ret (v := .tuple #[.slice none 0 0, .int .i64 3, .int .i64 (p : Int)]) (by simp [results, Tryd.results12, go_sem]) rfl ⟨LexR.of_bad HNIL.out HF.out, (by have q := HB1.out; repeat (first | exact q | refine Below.setCell ?_ (by first | (simp; done) | omega | (simp; omega)) _ | refine Below.alloc ?_ (by first | (simp; done) | omega | (simp; omega)) _ | refine below_drewN ?_ _ | refine Below.drew ?_))⟩
        · have hs1 := HR.out.step hst (by omega)
          have b2 : ((l.length : Int) == 5000) = false := by simp; omega
          have h4 : l.length < 5000 := by omega
          have hown := HO.out.toks
          obtain ⟨q, cap, rfl, -, -, -, -⟩ := hown
          rw [List.drop_drop, List.drop_drop, ← Nat.add_assoc, hp, htx] at hs1
          have HS1 := Lib.hid hs1
          clear htk hst hs1 hp htx hfull
          go_wp2_with fail
          refine (rtoken_ok s p _ hl hlt HTK.out).mono ?_
          rintro e w1 ⟨rfl, hb1⟩
          rw [HTX.out]
          simp only [TV]
          have HB1 := Lib.hid (HB.out.trans (hb1.mono HB.out.size))
          have HO1 := Lib.hid (HO.out.below (hb1.mono (Nat.le_refl _)))
          have hz1 := HB1.out.size
          clear hb1 HO HB
          have how : ((w1.alloc (.cells #[.int .i64 kd, .string ⟨tx.toArray⟩, .int .i64 v, .int .i64 (p : Int)] 30)).alloc (.cells #[.int .i64 kd, .string ⟨tx.toArray⟩, .int .i64 v, .int .i64 (p : Int)] 30)).ownsRow w.heap.size 30 4 (.slice q l.length cap) l.length (cellsT l) := own_below HO1.out (((Below.refl _ w1).alloc (Nat.le_refl _) _).alloc (by simp) _)
          have HOW := Lib.hid how
          have hsz : w.heap.size ≤ ((w1.alloc (.cells #[.int .i64 kd, .string ⟨tx.toArray⟩, .int .i64 v, .int .i64 (p : Int)] 30)).alloc (.cells #[.int .i64 kd, .string ⟨tx.toArray⟩, .int .i64 v, .int .i64 (p : Int)] 30)).heap.size := by simp; omega
          have HSZ := Lib.hid hsz
          have hcn := cells_new (w1.alloc (.cells #[.int .i64 kd, .string ⟨tx.toArray⟩, .int .i64 v, .int .i64 (p : Int)] 30)) [.int .i64 kd, .string ⟨tx.toArray⟩, .int .i64 v, .int .i64 (p : Int)] 30
          rw [World.size_alloc] at hcn
          have HCN := Lib.hid hcn
          clear how hsz hcn
          go_wp2_with (at_builtin; refine wpList_append_own_at _ rfl (.tmp 32) (.tmp 34) 23 rfl w.heap.size 30 i0 (.agg #[.int .i64 0, .string ⟨#[]⟩, .int .i64 0, .int .i64 0]) 4 40 Tryd.underlying23 HI.out HY0.out HY1.out HY2.out rfl (by decide) _ _ _ rfl HOW.out ⟨w1.heap.size + 1, 0, none⟩ 1 1 [.int .i64 kd, .string ⟨tx.toArray⟩, .int .i64 v, .int .i64 (p : Int)] rfl rfl HCN.out (by simp [Value.oneCell']) (by simp [maxLen]; omega) (by omega) HSZ.out ?_)
          intro v' w6 hown hgrow _ _
          have hz6 := hgrow.size
          (try simp at hz6)
          have ho6 : OwnT w6 w.heap.size v' (l ++ [⟨kd, tx, v, p⟩]) := own_one hown
          have hb6 : Below w.heap.size w w6 := Below.grown ((by have q := HB1.out; repeat (first | exact q | refine Below.setCell ?_ (by first | (simp; done) | omega | (simp; omega)) _ | refine Below.alloc ?_ (by first | (simp; done) | omega | (simp; omega)) _ | refine below_drewN ?_ _ | refine Below.drew ?_))) hgrow (by simp; omega) (fun b hb => (HO1.out.lt b hb).1)
          have hnr : some w1.heap.size ≠ (Value.slice q l.length cap).ownBlock := fun h => by have := (HO1.out.lt _ h.symm).2; omega
          have hc6 : w6.cell? ⟨w1.heap.size, 1, none⟩ = some (.string ⟨tx.toArray⟩) := (World.cell?_of_block (a := ⟨w1.heap.size, 1, none⟩) (hgrow.block w1.heap.size (by simp; omega) hnr)).trans (by go_simp)
          have HO6 := Lib.hid ho6
          have HB6 := Lib.hid hb6
          clear hown hgrow ho6 hb6 hnr
          go_wp2_with fail
          refine (rgap_sum s p n _ hl (by omega)).mono ?_
          rintro e w' ⟨rfl, rfl⟩
          have hle := gap_next s (p + n) (by omega)
          obtain ⟨g, hg⟩ : ∃ g, Lx.gapN (s.drop (p + n)) false = g := ⟨_, rfl⟩
          rw [hg] at hle ⊢
          have HG := Lib.hid hg
          clear hg
          go_wp2_with fail
          go_roundw
          case rel => exact ⟨p + n, p + n + g, l ++ [⟨kd, tx, v, p⟩], by simp, by rw [HG.out], by omega, by rw [List.length_append]; simp; omega, HO6.out, by rw [List.length_append]; exact HS1.out, HB6.out⟩
          case measure => simp [intOf]; omega
    · have b1 : decide ((p : Int) < (s.length : Int)) = false := by simp; omega
      have hd := HR.out.done (step_end hp ha hlt)
      have HD := Lib.hid hd
      have hown := HO.out.toks
      obtain ⟨q, cap, rfl, -, -, -, -⟩ := hown
      clear hd hp
      go_wp2_with fail
      refine bodyPost_ret (v := .tuple #[.slice q l.length cap, .int .i64 0, .int .i64 0]) (by simp [results, Tryd.results12, go_sem]) rfl ⟨LexR.of_ok HD.out HO.out, HB.out⟩
theorem rlex_any (s : List UInt8) (w : World) (hl : s.length ≤ 4294967280) :
    Calls Tryd.prog 12 #[.string ⟨s.toArray⟩] w fun e w' => LexR (Lx.lexAll s) e w' ∧ Below w.heap.size w w' := by
  rcases Nat.lt_or_ge 20000 s.length with h | h
  · rw [Lx.lexAll_long h]
    exact rlex_long s w hl h
  · rw [Lx.lexAll_short h]
    exact rlex_short s w h
end Go.Proofs.YtedeodeejpaioaaDoor
