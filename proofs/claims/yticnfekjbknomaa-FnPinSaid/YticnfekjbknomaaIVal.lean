/- What the program's InfosValid answers. -/
import Derived.Test.YticnfekjbknomaaMg6
namespace Go.Proofs.Yticnfekjbknomaa
open Go.ChangeShapes Go.WideShapes Go.ChangeAt Go.RowKit
set_option linter.unusedVariables false

set_option maxRecDepth 100000 in
set_option maxHeartbeats 1000000 in
theorem iiv_any : IIV := by
  intro w v xs h hs
  have HC := Lib.hid (infosOf_any w v xs h hs)
  clear h hs
  obtain ⟨b, hb⟩ : ∃ b, b = isok xs := ⟨_, rfl⟩
  rw [← hb] at HC ⊢
  clear hb
  obtain ⟨Z, hZ⟩ : ∃ Z, Z = (isC z12).toArray := ⟨_, rfl⟩
  have ZM := Lib.hid zero_infos
  have ZS : Hid (Z.size = 36) := Lib.hid (by rw [hZ, List.size_toArray, isC_36 z12_len])
  rw [← hZ] at ZM
  clear hZ
  obtain ⟨zs, hzs⟩ : ∃ zs, zs = arrOf xs := ⟨_, rfl⟩
  rw [← hzs] at HC
  have ZL : Hid (zs.length = 12) := Lib.hid (by rw [hzs]; exact arrOf_len xs)
  have HZS := Lib.hid hzs
  clear hzs
  have HC' : Hid (Calls Try.prog 90 #[v] w (ArrI zs b w)) := HC
  unfold ArrI at HC'
  obtain ⟨L, hL⟩ : ∃ L, L = isC zs := ⟨_, rfl⟩
  have LS : Hid (L.length = 36) := Lib.hid (by rw [hL]; exact isC_36 ZL.out)
  have LZ : Hid (L.toArray.size = 36) := Lib.hid (List.size_toArray.trans LS.out)
  have LO : Hid (L.toArray.all (·.oneCell') = true) := Lib.hid (by rw [hL]; exact isC_all _)
  rw [← hL] at HC'
  have HLE := Lib.hid hL.symm
  clear HC hL
  have HC := HC'
  clear HC'
  go_enter Try.func40, Try.ntmps40
  go_wp2_with fail
  refine HC.out.mono ?_
  rintro e w1 ⟨rfl, hb1⟩
  have HV := Lib.hid (VarI.make 81 hb1 ZS.out ZL.out)
  rw [HLE.out] at HV
  obtain ⟨W, hW⟩ : ∃ W, W = (w1.alloc (.cells Z 81)).setCells w1.heap.size 0 L := ⟨_, rfl⟩
  obtain ⟨B, hB⟩ : ∃ B, B = w1.heap.size := ⟨_, rfl⟩
  rw [← hW, ← hB] at HV
  have HW := Lib.hid hW
  have HBB := Lib.hid hB
  have HT : Hid ((w1.alloc (.cells Z 81)).there w1.heap.size 0 L.toArray.size) := Lib.hid (by rw [LZ.out, ← HBB.out]; exact HV.out.1)
  have HVI := Lib.hid HV.out.2
  clear hb1 hW hB HV
  go_wp2_with (first | ((with_reducible refine alloc_is 81 ?_); refine alloc_arr 81 Z ZM.out ?_) | ((with_reducible refine store_is 81 (.tmp 3) (.tmp 8) ?_); refine store_arr 81 (.tmp 3) (.tmp 8) w1.heap.size 0 L.toArray rfl rfl HT.out (info_infos LZ.out) LO.out ?_; rw [show L.toArray.toList = L from rfl, ← HW.out, ← HBB.out]))
  go_ret
  exact ⟨rfl, HVI.out.bel⟩
end Go.Proofs.Yticnfekjbknomaa
