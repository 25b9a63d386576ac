/- RatioField: the law, out of its ways. -/
import Derived.Test.YtnfbagihbgmpfaaDoorRtS1
import Derived.Test.YtnfbagihbgmpfaaDoorRtS2
import Derived.Test.YtnfbagihbgmpfaaDoorRtS3
import Derived.Test.YtnfbagihbgmpfaaDoorRtS4
import Derived.Test.YtnfbagihbgmpfaaDoorRtS5
import Derived.Test.YtnfbagihbgmpfaaDoorRtS6
import Derived.Test.YtnfbagihbgmpfaaDoorRtS7
import Derived.Test.YtnfbagihbgmpfaaDoorRtS8
import Derived.Test.YtnfbagihbgmpfaaDoorRtS9
namespace Go.Proofs.YtnfbagihbgmpfaaDoor
open Go.RowKit

theorem Rt.add_cases {an ad bn bd : Int} (ha : Rt.Ok an ad) (hb : Rt.Ok bn bd) : (∃ p q, Rt.addS an ad bn bd = (p, q, 0) ∧ Rt.Ok p q) ∨ Rt.addS an ad bn bd = (0, 0, 2) := by
  unfold Rt.addS
  rw [if_pos ⟨ha, hb⟩]
  rcases Rt.mk_ok (n := an * bd + bn * ad) (Rt.mul_ne (Rt.ok_ne ha) (Rt.ok_ne hb)) with ⟨p, q, e, o, _⟩ | ⟨e, _⟩
  · exact Or.inl ⟨p, q, e, o⟩
  · exact Or.inr e
theorem Rt.mul_cases {an ad bn bd : Int} (ha : Rt.Ok an ad) (hb : Rt.Ok bn bd) : (∃ p q, Rt.mulS an ad bn bd = (p, q, 0) ∧ Rt.Ok p q) ∨ Rt.mulS an ad bn bd = (0, 0, 2) := by
  unfold Rt.mulS
  rw [if_pos ⟨ha, hb⟩]
  rcases Rt.mk_ok (n := an * bn) (Rt.mul_ne (Rt.ok_ne ha) (Rt.ok_ne hb)) with ⟨p, q, e, o, _⟩ | ⟨e, _⟩
  · exact Or.inl ⟨p, q, e, o⟩
  · exact Or.inr e
theorem two_ne : ¬ (2 : Int) = 0 := by omega
theorem field_law (an ad bn bd cn cd : Int) (w : World) (ka1 : -9223372036854775808 ≤ an) (ka2 : an ≤ 9223372036854775807) (_ : -9223372036854775808 ≤ ad) (_ : ad ≤ 9223372036854775807)
    (kb1 : -9223372036854775808 ≤ bn) (kb2 : bn ≤ 9223372036854775807) (_ : -9223372036854775808 ≤ bd) (_ : bd ≤ 9223372036854775807) (kc1 : -9223372036854775808 ≤ cn) (kc2 : cn ≤ 9223372036854775807) (_ : -9223372036854775808 ≤ cd) (_ : cd ≤ 9223372036854775807) (hE : Env w) :
    Calls Tryd.prog 5 #[.agg #[.int .i64 an, .int .i64 ad], .agg #[.int .i64 bn, .int .i64 bd], .agg #[.int .i64 cn, .int .i64 cd]] w fun e w' => e = .returned (.bool true) ∧ Below w.heap.size w w' := by
  refine (Classical.em (Rt.Ok an ad)).elim (fun ha => ?_) (fun ha => fi_a an ad bn bd cn cd w hE ka1 ka2 ha)
  refine (Classical.em (Rt.Ok bn bd)).elim (fun hb => ?_) (fun hb => fi_b an ad bn bd cn cd w hE kb1 kb2 ha hb)
  refine (Classical.em (Rt.Ok cn cd)).elim (fun hc => ?_) (fun hc => fi_c an ad bn bd cn cd w hE kc1 kc2 ha hb hc)
  rcases Rt.add_cases ha hb with ⟨s1, s2, eS, oS⟩ | eS
  · skip
    rcases Rt.mul_cases ha hb with ⟨p1, p2, eP, oP⟩ | eP
    · skip
      by_cases hz : bn = 0
      · skip
        rcases Rt.add_cases hb hc with ⟨u1, u2, eU, oU⟩ | eU
        · skip
          rcases Rt.mul_cases hb hc with ⟨v1, v2, eV, oV⟩ | eV
          · skip
            rcases Rt.mul_cases ha hc with ⟨m1, m2, eM, oM⟩ | eM
            · skip
              obtain ⟨_, _, _, eX⟩ : ∃ x y z, Rt.addS s1 s2 cn cd = (x, y, z) := ⟨_, _, _, rfl⟩
              obtain ⟨_, _, _, eY⟩ : ∃ x y z, Rt.mulS p1 p2 cn cd = (x, y, z) := ⟨_, _, _, rfl⟩
              obtain ⟨_, _, _, eZ⟩ : ∃ x y z, Rt.mulS an ad u1 u2 = (x, y, z) := ⟨_, _, _, rfl⟩
              exact fi_oonooo an ad bn bd cn cd w hE ha hb hc _ _ _ _ _ _ _ _ _ _ _ _ _ _ _ _ _ _ _ eS ((Rt.add_comm _ _ _ _).trans eS) eP ((Rt.mul_comm _ _ _ _).trans eP) eU eV eM (Rt.sub_add ha hb eS) eX ((Rt.add_assoc ha hb hc eS eU).symm.trans eX) eY ((Rt.mul_assoc ha hb hc eP eV).symm.trans eY) eZ ((Rt.distrib ha hb hc eP eU eM).symm.trans eZ) oS oP oU oV oM hz
            · skip
              obtain ⟨_, _, _, eX⟩ : ∃ x y z, Rt.addS s1 s2 cn cd = (x, y, z) := ⟨_, _, _, rfl⟩
              obtain ⟨_, _, _, eY⟩ : ∃ x y z, Rt.mulS p1 p2 cn cd = (x, y, z) := ⟨_, _, _, rfl⟩
              exact fi_oonoon an ad bn bd cn cd w hE ha hb hc _ _ _ _ _ _ _ _ _ _ _ _ _ _ _ _ _ eS ((Rt.add_comm _ _ _ _).trans eS) eP ((Rt.mul_comm _ _ _ _).trans eP) eU eV eM (Rt.sub_add ha hb eS) eX ((Rt.add_assoc ha hb hc eS eU).symm.trans eX) eY ((Rt.mul_assoc ha hb hc eP eV).symm.trans eY) oS oP oU oV two_ne hz
          · skip
            rcases Rt.mul_cases ha hc with ⟨m1, m2, eM, oM⟩ | eM
            · skip
              obtain ⟨_, _, _, eX⟩ : ∃ x y z, Rt.addS s1 s2 cn cd = (x, y, z) := ⟨_, _, _, rfl⟩
              obtain ⟨_, _, _, eZ⟩ : ∃ x y z, Rt.mulS an ad u1 u2 = (x, y, z) := ⟨_, _, _, rfl⟩
              exact fi_oonono an ad bn bd cn cd w hE ha hb hc _ _ _ _ _ _ _ _ _ _ _ _ _ _ _ _ _ eS ((Rt.add_comm _ _ _ _).trans eS) eP ((Rt.mul_comm _ _ _ _).trans eP) eU eV eM (Rt.sub_add ha hb eS) eX ((Rt.add_assoc ha hb hc eS eU).symm.trans eX) eZ ((Rt.distrib ha hb hc eP eU eM).symm.trans eZ) oS oP oU oM two_ne hz
            · skip
              obtain ⟨_, _, _, eX⟩ : ∃ x y z, Rt.addS s1 s2 cn cd = (x, y, z) := ⟨_, _, _, rfl⟩
              exact fi_oononn an ad bn bd cn cd w hE ha hb hc _ _ _ _ _ _ _ _ _ _ _ _ _ _ _ eS ((Rt.add_comm _ _ _ _).trans eS) eP ((Rt.mul_comm _ _ _ _).trans eP) eU eV eM (Rt.sub_add ha hb eS) eX ((Rt.add_assoc ha hb hc eS eU).symm.trans eX) oS oP oU two_ne two_ne hz
        · skip
          rcases Rt.mul_cases hb hc with ⟨v1, v2, eV, oV⟩ | eV
          · skip
            obtain ⟨_, _, _, eY⟩ : ∃ x y z, Rt.mulS p1 p2 cn cd = (x, y, z) := ⟨_, _, _, rfl⟩
            obtain ⟨_, _, _, eM⟩ : ∃ x y z, Rt.mulS an ad cn cd = (x, y, z) := ⟨_, _, _, rfl⟩
            exact fi_oonnox an ad bn bd cn cd w hE ha hb hc _ _ _ _ _ _ _ _ _ _ _ _ _ _ _ eS ((Rt.add_comm _ _ _ _).trans eS) eP ((Rt.mul_comm _ _ _ _).trans eP) eU eV eM (Rt.sub_add ha hb eS) eY ((Rt.mul_assoc ha hb hc eP eV).symm.trans eY) oS oP oV two_ne hz
          · skip
            obtain ⟨_, _, _, eM⟩ : ∃ x y z, Rt.mulS an ad cn cd = (x, y, z) := ⟨_, _, _, rfl⟩
            exact fi_oonnnx an ad bn bd cn cd w hE ha hb hc _ _ _ _ _ _ _ _ _ _ _ _ _ eS ((Rt.add_comm _ _ _ _).trans eS) eP ((Rt.mul_comm _ _ _ _).trans eP) eU eV eM (Rt.sub_add ha hb eS) oS oP two_ne two_ne hz
      · skip
        rcases Rt.add_cases hb hc with ⟨u1, u2, eU, oU⟩ | eU
        · skip
          rcases Rt.mul_cases hb hc with ⟨v1, v2, eV, oV⟩ | eV
          · skip
            rcases Rt.mul_cases ha hc with ⟨m1, m2, eM, oM⟩ | eM
            · skip
              obtain ⟨_, _, _, eX⟩ : ∃ x y z, Rt.addS s1 s2 cn cd = (x, y, z) := ⟨_, _, _, rfl⟩
              obtain ⟨_, _, _, eY⟩ : ∃ x y z, Rt.mulS p1 p2 cn cd = (x, y, z) := ⟨_, _, _, rfl⟩
              obtain ⟨_, _, _, eZ⟩ : ∃ x y z, Rt.mulS an ad u1 u2 = (x, y, z) := ⟨_, _, _, rfl⟩
              exact fi_oooooo an ad bn bd cn cd w hE ha hb hc _ _ _ _ _ _ _ _ _ _ _ _ _ _ _ _ _ _ _ eS ((Rt.add_comm _ _ _ _).trans eS) eP ((Rt.mul_comm _ _ _ _).trans eP) eU eV eM (Rt.sub_add ha hb eS) (Rt.div_mul ha hb hz eP) eX ((Rt.add_assoc ha hb hc eS eU).symm.trans eX) eY ((Rt.mul_assoc ha hb hc eP eV).symm.trans eY) eZ ((Rt.distrib ha hb hc eP eU eM).symm.trans eZ) oS oP oU oV oM hz
            · skip
              obtain ⟨_, _, _, eX⟩ : ∃ x y z, Rt.addS s1 s2 cn cd = (x, y, z) := ⟨_, _, _, rfl⟩
              obtain ⟨_, _, _, eY⟩ : ∃ x y z, Rt.mulS p1 p2 cn cd = (x, y, z) := ⟨_, _, _, rfl⟩
              exact fi_ooooon an ad bn bd cn cd w hE ha hb hc _ _ _ _ _ _ _ _ _ _ _ _ _ _ _ _ _ eS ((Rt.add_comm _ _ _ _).trans eS) eP ((Rt.mul_comm _ _ _ _).trans eP) eU eV eM (Rt.sub_add ha hb eS) (Rt.div_mul ha hb hz eP) eX ((Rt.add_assoc ha hb hc eS eU).symm.trans eX) eY ((Rt.mul_assoc ha hb hc eP eV).symm.trans eY) oS oP oU oV two_ne hz
          · skip
            rcases Rt.mul_cases ha hc with ⟨m1, m2, eM, oM⟩ | eM
            · skip
              obtain ⟨_, _, _, eX⟩ : ∃ x y z, Rt.addS s1 s2 cn cd = (x, y, z) := ⟨_, _, _, rfl⟩
              obtain ⟨_, _, _, eZ⟩ : ∃ x y z, Rt.mulS an ad u1 u2 = (x, y, z) := ⟨_, _, _, rfl⟩
              exact fi_oooono an ad bn bd cn cd w hE ha hb hc _ _ _ _ _ _ _ _ _ _ _ _ _ _ _ _ _ eS ((Rt.add_comm _ _ _ _).trans eS) eP ((Rt.mul_comm _ _ _ _).trans eP) eU eV eM (Rt.sub_add ha hb eS) (Rt.div_mul ha hb hz eP) eX ((Rt.add_assoc ha hb hc eS eU).symm.trans eX) eZ ((Rt.distrib ha hb hc eP eU eM).symm.trans eZ) oS oP oU oM two_ne hz
            · skip
              obtain ⟨_, _, _, eX⟩ : ∃ x y z, Rt.addS s1 s2 cn cd = (x, y, z) := ⟨_, _, _, rfl⟩
              exact fi_oooonn an ad bn bd cn cd w hE ha hb hc _ _ _ _ _ _ _ _ _ _ _ _ _ _ _ eS ((Rt.add_comm _ _ _ _).trans eS) eP ((Rt.mul_comm _ _ _ _).trans eP) eU eV eM (Rt.sub_add ha hb eS) (Rt.div_mul ha hb hz eP) eX ((Rt.add_assoc ha hb hc eS eU).symm.trans eX) oS oP oU two_ne two_ne hz
        · skip
          rcases Rt.mul_cases hb hc with ⟨v1, v2, eV, oV⟩ | eV
          · skip
            obtain ⟨_, _, _, eY⟩ : ∃ x y z, Rt.mulS p1 p2 cn cd = (x, y, z) := ⟨_, _, _, rfl⟩
            obtain ⟨_, _, _, eM⟩ : ∃ x y z, Rt.mulS an ad cn cd = (x, y, z) := ⟨_, _, _, rfl⟩
            exact fi_ooonox an ad bn bd cn cd w hE ha hb hc _ _ _ _ _ _ _ _ _ _ _ _ _ _ _ eS ((Rt.add_comm _ _ _ _).trans eS) eP ((Rt.mul_comm _ _ _ _).trans eP) eU eV eM (Rt.sub_add ha hb eS) (Rt.div_mul ha hb hz eP) eY ((Rt.mul_assoc ha hb hc eP eV).symm.trans eY) oS oP oV two_ne hz
          · skip
            obtain ⟨_, _, _, eM⟩ : ∃ x y z, Rt.mulS an ad cn cd = (x, y, z) := ⟨_, _, _, rfl⟩
            exact fi_ooonnx an ad bn bd cn cd w hE ha hb hc _ _ _ _ _ _ _ _ _ _ _ _ _ eS ((Rt.add_comm _ _ _ _).trans eS) eP ((Rt.mul_comm _ _ _ _).trans eP) eU eV eM (Rt.sub_add ha hb eS) (Rt.div_mul ha hb hz eP) oS oP two_ne two_ne hz
    · skip
      rcases Rt.add_cases hb hc with ⟨u1, u2, eU, oU⟩ | eU
      · skip
        obtain ⟨_, _, _, eX⟩ : ∃ x y z, Rt.addS s1 s2 cn cd = (x, y, z) := ⟨_, _, _, rfl⟩
        obtain ⟨_, _, _, eV⟩ : ∃ x y z, Rt.mulS bn bd cn cd = (x, y, z) := ⟨_, _, _, rfl⟩
        obtain ⟨_, _, _, eM⟩ : ∃ x y z, Rt.mulS an ad cn cd = (x, y, z) := ⟨_, _, _, rfl⟩
        exact fi_onxoxx an ad bn bd cn cd w hE ha hb hc _ _ _ _ _ _ _ _ _ _ _ _ _ _ _ _ eS ((Rt.add_comm _ _ _ _).trans eS) eP ((Rt.mul_comm _ _ _ _).trans eP) eU eV eM (Rt.sub_add ha hb eS) eX ((Rt.add_assoc ha hb hc eS eU).symm.trans eX) oS oU two_ne
      · skip
        obtain ⟨_, _, _, eV⟩ : ∃ x y z, Rt.mulS bn bd cn cd = (x, y, z) := ⟨_, _, _, rfl⟩
        obtain ⟨_, _, _, eM⟩ : ∃ x y z, Rt.mulS an ad cn cd = (x, y, z) := ⟨_, _, _, rfl⟩
        exact fi_onxnxx an ad bn bd cn cd w hE ha hb hc _ _ _ _ _ _ _ _ _ _ _ _ _ _ eS ((Rt.add_comm _ _ _ _).trans eS) eP ((Rt.mul_comm _ _ _ _).trans eP) eU eV eM (Rt.sub_add ha hb eS) oS two_ne two_ne
  · skip
    rcases Rt.mul_cases ha hb with ⟨p1, p2, eP, oP⟩ | eP
    · skip
      by_cases hz : bn = 0
      · skip
        rcases Rt.add_cases hb hc with ⟨u1, u2, eU, oU⟩ | eU
        · skip
          rcases Rt.mul_cases hb hc with ⟨v1, v2, eV, oV⟩ | eV
          · skip
            rcases Rt.mul_cases ha hc with ⟨m1, m2, eM, oM⟩ | eM
            · skip
              obtain ⟨_, _, _, eY⟩ : ∃ x y z, Rt.mulS p1 p2 cn cd = (x, y, z) := ⟨_, _, _, rfl⟩
              obtain ⟨_, _, _, eZ⟩ : ∃ x y z, Rt.mulS an ad u1 u2 = (x, y, z) := ⟨_, _, _, rfl⟩
              exact fi_nonooo an ad bn bd cn cd w hE ha hb hc _ _ _ _ _ _ _ _ _ _ _ _ _ _ _ _ _ eS ((Rt.add_comm _ _ _ _).trans eS) eP ((Rt.mul_comm _ _ _ _).trans eP) eU eV eM eY ((Rt.mul_assoc ha hb hc eP eV).symm.trans eY) eZ ((Rt.distrib ha hb hc eP eU eM).symm.trans eZ) oP oU oV oM two_ne hz
            · skip
              obtain ⟨_, _, _, eY⟩ : ∃ x y z, Rt.mulS p1 p2 cn cd = (x, y, z) := ⟨_, _, _, rfl⟩
              exact fi_nonoon an ad bn bd cn cd w hE ha hb hc _ _ _ _ _ _ _ _ _ _ _ _ _ _ _ eS ((Rt.add_comm _ _ _ _).trans eS) eP ((Rt.mul_comm _ _ _ _).trans eP) eU eV eM eY ((Rt.mul_assoc ha hb hc eP eV).symm.trans eY) oP oU oV two_ne two_ne hz
          · skip
            rcases Rt.mul_cases ha hc with ⟨m1, m2, eM, oM⟩ | eM
            · skip
              obtain ⟨_, _, _, eZ⟩ : ∃ x y z, Rt.mulS an ad u1 u2 = (x, y, z) := ⟨_, _, _, rfl⟩
              exact fi_nonono an ad bn bd cn cd w hE ha hb hc _ _ _ _ _ _ _ _ _ _ _ _ _ _ _ eS ((Rt.add_comm _ _ _ _).trans eS) eP ((Rt.mul_comm _ _ _ _).trans eP) eU eV eM eZ ((Rt.distrib ha hb hc eP eU eM).symm.trans eZ) oP oU oM two_ne two_ne hz
            · skip
              exact fi_nononn an ad bn bd cn cd w hE ha hb hc _ _ _ _ _ _ _ _ _ _ _ _ _ eS ((Rt.add_comm _ _ _ _).trans eS) eP ((Rt.mul_comm _ _ _ _).trans eP) eU eV eM oP oU two_ne two_ne two_ne hz
        · skip
          rcases Rt.mul_cases hb hc with ⟨v1, v2, eV, oV⟩ | eV
          · skip
            obtain ⟨_, _, _, eY⟩ : ∃ x y z, Rt.mulS p1 p2 cn cd = (x, y, z) := ⟨_, _, _, rfl⟩
            obtain ⟨_, _, _, eM⟩ : ∃ x y z, Rt.mulS an ad cn cd = (x, y, z) := ⟨_, _, _, rfl⟩
            exact fi_nonnox an ad bn bd cn cd w hE ha hb hc _ _ _ _ _ _ _ _ _ _ _ _ _ _ _ _ eS ((Rt.add_comm _ _ _ _).trans eS) eP ((Rt.mul_comm _ _ _ _).trans eP) eU eV eM eY ((Rt.mul_assoc ha hb hc eP eV).symm.trans eY) oP oV two_ne two_ne hz
          · skip
            obtain ⟨_, _, _, eM⟩ : ∃ x y z, Rt.mulS an ad cn cd = (x, y, z) := ⟨_, _, _, rfl⟩
            exact fi_nonnnx an ad bn bd cn cd w hE ha hb hc _ _ _ _ _ _ _ _ _ _ _ _ _ _ eS ((Rt.add_comm _ _ _ _).trans eS) eP ((Rt.mul_comm _ _ _ _).trans eP) eU eV eM oP two_ne two_ne two_ne hz
      · skip
        rcases Rt.add_cases hb hc with ⟨u1, u2, eU, oU⟩ | eU
        · skip
          rcases Rt.mul_cases hb hc with ⟨v1, v2, eV, oV⟩ | eV
          · skip
            rcases Rt.mul_cases ha hc with ⟨m1, m2, eM, oM⟩ | eM
            · skip
              obtain ⟨_, _, _, eY⟩ : ∃ x y z, Rt.mulS p1 p2 cn cd = (x, y, z) := ⟨_, _, _, rfl⟩
              obtain ⟨_, _, _, eZ⟩ : ∃ x y z, Rt.mulS an ad u1 u2 = (x, y, z) := ⟨_, _, _, rfl⟩
              exact fi_nooooo an ad bn bd cn cd w hE ha hb hc _ _ _ _ _ _ _ _ _ _ _ _ _ _ _ _ _ eS ((Rt.add_comm _ _ _ _).trans eS) eP ((Rt.mul_comm _ _ _ _).trans eP) eU eV eM (Rt.div_mul ha hb hz eP) eY ((Rt.mul_assoc ha hb hc eP eV).symm.trans eY) eZ ((Rt.distrib ha hb hc eP eU eM).symm.trans eZ) oP oU oV oM two_ne hz
            · skip
              obtain ⟨_, _, _, eY⟩ : ∃ x y z, Rt.mulS p1 p2 cn cd = (x, y, z) := ⟨_, _, _, rfl⟩
              exact fi_noooon an ad bn bd cn cd w hE ha hb hc _ _ _ _ _ _ _ _ _ _ _ _ _ _ _ eS ((Rt.add_comm _ _ _ _).trans eS) eP ((Rt.mul_comm _ _ _ _).trans eP) eU eV eM (Rt.div_mul ha hb hz eP) eY ((Rt.mul_assoc ha hb hc eP eV).symm.trans eY) oP oU oV two_ne two_ne hz
          · skip
            rcases Rt.mul_cases ha hc with ⟨m1, m2, eM, oM⟩ | eM
            · skip
              obtain ⟨_, _, _, eZ⟩ : ∃ x y z, Rt.mulS an ad u1 u2 = (x, y, z) := ⟨_, _, _, rfl⟩
              exact fi_nooono an ad bn bd cn cd w hE ha hb hc _ _ _ _ _ _ _ _ _ _ _ _ _ _ _ eS ((Rt.add_comm _ _ _ _).trans eS) eP ((Rt.mul_comm _ _ _ _).trans eP) eU eV eM (Rt.div_mul ha hb hz eP) eZ ((Rt.distrib ha hb hc eP eU eM).symm.trans eZ) oP oU oM two_ne two_ne hz
            · skip
              exact fi_nooonn an ad bn bd cn cd w hE ha hb hc _ _ _ _ _ _ _ _ _ _ _ _ _ eS ((Rt.add_comm _ _ _ _).trans eS) eP ((Rt.mul_comm _ _ _ _).trans eP) eU eV eM (Rt.div_mul ha hb hz eP) oP oU two_ne two_ne two_ne hz
        · skip
          rcases Rt.mul_cases hb hc with ⟨v1, v2, eV, oV⟩ | eV
          · skip
            obtain ⟨_, _, _, eY⟩ : ∃ x y z, Rt.mulS p1 p2 cn cd = (x, y, z) := ⟨_, _, _, rfl⟩
            obtain ⟨_, _, _, eM⟩ : ∃ x y z, Rt.mulS an ad cn cd = (x, y, z) := ⟨_, _, _, rfl⟩
            exact fi_noonox an ad bn bd cn cd w hE ha hb hc _ _ _ _ _ _ _ _ _ _ _ _ _ _ _ _ eS ((Rt.add_comm _ _ _ _).trans eS) eP ((Rt.mul_comm _ _ _ _).trans eP) eU eV eM (Rt.div_mul ha hb hz eP) eY ((Rt.mul_assoc ha hb hc eP eV).symm.trans eY) oP oV two_ne two_ne hz
          · skip
            obtain ⟨_, _, _, eM⟩ : ∃ x y z, Rt.mulS an ad cn cd = (x, y, z) := ⟨_, _, _, rfl⟩
            exact fi_noonnx an ad bn bd cn cd w hE ha hb hc _ _ _ _ _ _ _ _ _ _ _ _ _ _ eS ((Rt.add_comm _ _ _ _).trans eS) eP ((Rt.mul_comm _ _ _ _).trans eP) eU eV eM (Rt.div_mul ha hb hz eP) oP two_ne two_ne two_ne hz
    · skip
      obtain ⟨_, _, _, eU⟩ : ∃ x y z, Rt.addS bn bd cn cd = (x, y, z) := ⟨_, _, _, rfl⟩
      obtain ⟨_, _, _, eV⟩ : ∃ x y z, Rt.mulS bn bd cn cd = (x, y, z) := ⟨_, _, _, rfl⟩
      obtain ⟨_, _, _, eM⟩ : ∃ x y z, Rt.mulS an ad cn cd = (x, y, z) := ⟨_, _, _, rfl⟩
      exact fi_nnxxxx an ad bn bd cn cd w hE ha hb hc _ _ _ _ _ _ _ _ _ _ _ _ _ _ _ eS ((Rt.add_comm _ _ _ _).trans eS) eP ((Rt.mul_comm _ _ _ _).trans eP) eU eV eM two_ne two_ne
end Go.Proofs.YtnfbagihbgmpfaaDoor
