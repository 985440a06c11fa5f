/- The walks of the exact statements of chapter 13, out of contracts of the program. -/
import Derived.Test.YticnfekjbknomaaMg8
namespace Go.Proofs.Yticnfekjbknomaa
open Go.ChangeShapes Go.WideShapes Go.ChangeAt Go.RowKit
set_option linter.unusedVariables false

theorem exTableNeeds_walk (hI : ITN) (W : World) (k : Int) (h0 : -9223372036854775808 ≤ k) (h1 : k ≤ 9223372036854775807) :
    Calls Try.prog 15 #[.int .i64 k] W fun e w' => e = .returned (.bool true) ∧ Below W.heap.size W w' := by
  have HSP := Lib.hid (fun w => sTableNeeds_any w k)
  have HIM := Lib.hid (fun w => hI w k h0 h1)
  obtain ⟨n, hn⟩ : ∃ n, n = tneeds k := ⟨_, rfl⟩
  rw [← hn] at HSP HIM
  clear hn hI
  have hnn := neI n
  go_enter Try.func15, Try.ntmps15
  go_wp2_with fail
  refine (HSP.out W).mono ?_
  rintro e w' ⟨rfl, rfl⟩
  go_wp2_with fail
  refine (HIM.out W).mono ?_
  rintro e w1 ⟨rfl, hb1⟩
  have B1 := Lib.hid hb1
  clear hb1
  go_wp2_with fail
  go_ret
  exact ⟨rfl, B1.out⟩
set_option maxHeartbeats 4000000 in
theorem exTableOk_walk (hI : ITO) (W : World) (v0 : Value) (xss : List (List Int)) (v1 : Value) (ys : List IV) (f : Int) (k : Int) (v4 : Value) (rs : List Bs) (h0 : Rows2 W v0 xss) (h1 : Is W v1 ys) (hf1 : FitI ys) (h4 : Strs W v4 rs) (hf4 : Fit rs) :
    Calls Try.prog 16 #[v0, v1, .int .i64 f, .int .i64 k, v4] W fun e w' => e = .returned (.bool true) ∧ Below W.heap.size W w' := by
  have HI := Lib.hid hI
  clear hI
  have HA0 := Lib.hid h0
  have HA1 := Lib.hid h1
  have HA4 := Lib.hid h4
  go_enter Try.func16, Try.ntmps16
  go_wp2_with fail
  refine (szIntSS_any W v0 xss 1048576 h0 (by omega) (by omega)).mono ?_
  clear h0
  rintro e w' ⟨r, hr, rfl, rfl⟩
  by_cases hr0 : r < 0
  · go_wp2_with fail
    go_ret
    exact ⟨rfl, Below.refl _ _⟩
  have hr1 : decide (r < 0) = false := by simpa using hr0
  have HZ0 : Hid (0 ≤ r ∧ r + xss.length + total xss = 1048576) := Lib.hid (by rcases hr with h | h <;> omega)
  clear hr hr0
  go_wp2_with fail
  refine (szInfoS_any W v1 ys r h1 hf1 (by have := HZ0.out; omega) (by have := HZ0.out; omega)).mono ?_
  clear h1
  rintro e w0 ⟨s, hs, rfl, hb0⟩
  have Bw0 := Lib.hid hb0
  have Zw0 : W.heap.size ≤ w0.heap.size := hb0.size
  clear hb0
  by_cases hs0 : s < 0
  · go_wp2_with fail
    go_ret
    exact ⟨rfl, Bw0.out⟩
  have hs1 : decide (s < 0) = false := by simpa using hs0
  have HZ1 : Hid (0 ≤ s ∧ s + ys.length + totalI ys = r) := Lib.hid (by rcases hs with h | h <;> omega)
  clear hs hs0
  go_wp2_with fail
  refine (szStringS_any w0 v4 rs s (HA4.out.below Bw0.out) hf4 (by have := HZ1.out; omega) (by have := HZ1.out; have := HZ0.out; omega)).mono ?_
  clear h4
  rintro e w' ⟨q, hq, rfl, rfl⟩
  by_cases hq0 : q < 0
  · go_wp2_with fail
    go_ret
    exact ⟨rfl, Bw0.out⟩
  have hq1 : decide (q < 0) = false := by simpa using hq0
  have HZ4 : Hid (0 ≤ q ∧ q + rs.length + totalS rs = s) := Lib.hid (by rcases hq with h | h <;> omega)
  clear hq hq0
  have hn4 : rs.length ≤ 1048576 := by have := HZ0.out; have := HZ1.out; have := HZ4.out; omega
  have HSR : Hid (Short rs) := Lib.hid (fun x hx => by have := totalS_mem hx; have := HZ0.out; have := HZ1.out; have := HZ4.out; omega)
  have hn0 : xss.length + total xss ≤ 1048576 := by have := HZ0.out; omega
  have hn1 : ys.length ≤ 1048576 := by have := HZ0.out; have := HZ1.out; omega
  have HSY : Hid (ShortI ys) := Lib.hid (fun x hx => by have := totalI_mem hx; have := HZ0.out; have := HZ1.out; omega)
  obtain ⟨b0, hb0⟩ : ∃ b, b = tok8 xss ys f k rs := ⟨_, rfl⟩
  have HV := Lib.hid hb0
  clear hb0
  have hbb := neB b0
  have HSP : Hid (∀ (w : World) (a b c : Value), Rows2 w a xss → Is w b ys → Strs w c rs → Calls Try.prog 25 #[a, b, .int .i64 f, .int .i64 k, c] w (BRes b0 w)) := Lib.hid (fun w a b c ha hb hc => by rw [HV.out]; exact sTableOk_any w a b c xss ys rs f k ha hb HSY.out hc HSR.out)
  have HIM : Hid (∀ (w : World) (a b c : Value), Rows2 w a xss → Is w b ys → Strs w c rs → Calls Try.prog 24 #[a, b, .int .i64 f, .int .i64 k, c] w (BRes b0 w)) := Lib.hid (fun w a b c ha hb hc => by rw [HV.out]; exact HI.out w a b c xss ys rs f k ha hb HSY.out hc HSR.out)
  clear HI
  go_wp2_with fail
  refine (copyM w0 v0 xss (HA0.out.below Bw0.out) hn0).mono ?_
  rintro e w1 ⟨SMu, rfl, hmw1, hbw1⟩
  have Cw1 := Chg.of_below hbw1
  have SM0 := Lib.hid hmw1
  have Zw1 := Cw1.size
  have Bw1 := Lib.hid (Below.chg Bw0.out Cw1 (by omega) (.inr rfl))
  clear Cw1 Bw0 hmw1 hbw1
  have SMw1 := SM0
  clear SM0
  go_wp2_with fail
  refine (copyI w1 v1 ys (HA1.out.below Bw1.out) hn1).mono ?_
  rintro e w2 ⟨SNu, rfl, hmw2, hbw2⟩
  have Cw2 := Chg.of_below hbw2
  have SN0 := Lib.hid hmw2
  have Zw2 := Cw2.size
  have Bw2 := Lib.hid (Below.chg Bw1.out Cw2 (by omega) (.inr rfl))
  have SMw2 := Lib.hid (SMw1.out.chg Cw2 (by omega) (.inr (by omega)))
  clear Cw2 Bw1 SMw1 hmw2 hbw2
  have SNw2 := SN0
  clear SN0
  go_wp2_with fail
  refine (copyS w2 v4 rs (HA4.out.below Bw2.out) hn4).mono ?_
  rintro e w3 ⟨STu, rfl, hmw3, hbw3⟩
  have Cw3 := Chg.of_below hbw3
  have ST0 := Lib.hid hmw3
  have Zw3 := Cw3.size
  have Bw3 := Lib.hid (Below.chg Bw2.out Cw3 (by omega) (.inr rfl))
  have SMw3 := Lib.hid (SMw2.out.chg Cw3 (by omega) (.inr (by omega)))
  have SNw3 := Lib.hid (SNw2.out.chg Cw3 (by omega) (.inr (by omega)))
  clear Cw3 Bw2 SMw2 SNw2 hmw3 hbw3
  have STw3 := ST0
  clear ST0
  go_wp2_with fail
  refine (HSP.out w3 SMu SNu STu SMw3.out.rows SNw3.out.is STw3.out.strs).mono ?_
  rintro e w4 ⟨rfl, hbw4⟩
  have Cw4 := Chg.of_below hbw4
  have Zw4 := Cw4.size
  have Bw4 := Lib.hid (Below.chg Bw3.out Cw4 (by omega) (.inr rfl))
  have SMw4 := Lib.hid (SMw3.out.chg Cw4 (by omega) (.inr (by omega)))
  have SNw4 := Lib.hid (SNw3.out.chg Cw4 (by omega) (.inr (by omega)))
  have STw4 := Lib.hid (STw3.out.chg Cw4 (by omega) (.inr (by omega)))
  clear Cw4 Bw3 SMw3 SNw3 STw3 hbw4
  clear SMw4 SNw4 STw4
  go_wp2_with fail
  refine (copyM w4 v0 xss (HA0.out.below Bw4.out) hn0).mono ?_
  rintro e w5 ⟨XMu, rfl, hmw5, hbw5⟩
  have Cw5 := Chg.of_below hbw5
  have XM0 := Lib.hid hmw5
  have Zw5 := Cw5.size
  have Bw5 := Lib.hid (Below.chg Bw4.out Cw5 (by omega) (.inr rfl))
  clear Cw5 Bw4 hmw5 hbw5
  have XMw5 := XM0
  clear XM0
  go_wp2_with fail
  refine (copyI w5 v1 ys (HA1.out.below Bw5.out) hn1).mono ?_
  rintro e w6 ⟨XNu, rfl, hmw6, hbw6⟩
  have Cw6 := Chg.of_below hbw6
  have XN0 := Lib.hid hmw6
  have Zw6 := Cw6.size
  have Bw6 := Lib.hid (Below.chg Bw5.out Cw6 (by omega) (.inr rfl))
  have XMw6 := Lib.hid (XMw5.out.chg Cw6 (by omega) (.inr (by omega)))
  clear Cw6 Bw5 XMw5 hmw6 hbw6
  have XNw6 := XN0
  clear XN0
  go_wp2_with fail
  refine (copyS w6 v4 rs (HA4.out.below Bw6.out) hn4).mono ?_
  rintro e w7 ⟨XTu, rfl, hmw7, hbw7⟩
  have Cw7 := Chg.of_below hbw7
  have XT0 := Lib.hid hmw7
  have Zw7 := Cw7.size
  have Bw7 := Lib.hid (Below.chg Bw6.out Cw7 (by omega) (.inr rfl))
  have XMw7 := Lib.hid (XMw6.out.chg Cw7 (by omega) (.inr (by omega)))
  have XNw7 := Lib.hid (XNw6.out.chg Cw7 (by omega) (.inr (by omega)))
  clear Cw7 Bw6 XMw6 XNw6 hmw7 hbw7
  have XTw7 := XT0
  clear XT0
  go_wp2_with fail
  refine (HIM.out w7 XMu XNu XTu XMw7.out.rows XNw7.out.is XTw7.out.strs).mono ?_
  rintro e w8 ⟨rfl, hbw8⟩
  have Cw8 := Chg.of_below hbw8
  have Zw8 := Cw8.size
  have Bw8 := Lib.hid (Below.chg Bw7.out Cw8 (by omega) (.inr rfl))
  have XMw8 := Lib.hid (XMw7.out.chg Cw8 (by omega) (.inr (by omega)))
  have XNw8 := Lib.hid (XNw7.out.chg Cw8 (by omega) (.inr (by omega)))
  have XTw8 := Lib.hid (XTw7.out.chg Cw8 (by omega) (.inr (by omega)))
  clear Cw8 Bw7 XMw7 XNw7 XTw7 hbw8
  go_wp2_with fail
  refine (copyM w8 v0 xss (HA0.out.below Bw8.out) hn0).mono ?_
  rintro e w9 ⟨Yu, rfl, hmw9, hbw9⟩
  have Cw9 := Chg.of_below hbw9
  have Y0 := Lib.hid hmw9
  have Zw9 := Cw9.size
  have Bw9 := Lib.hid (Below.chg Bw8.out Cw9 (by omega) (.inr rfl))
  have XMw9 := Lib.hid (XMw8.out.chg Cw9 (by omega) (.inr (by omega)))
  have XNw9 := Lib.hid (XNw8.out.chg Cw9 (by omega) (.inr (by omega)))
  have XTw9 := Lib.hid (XTw8.out.chg Cw9 (by omega) (.inr (by omega)))
  clear Cw9 Bw8 XMw8 XNw8 XTw8 hmw9 hbw9
  have Yw9 := Y0
  clear Y0
  go_wp2_with fail
  refine (eq_c w9 XMu Yu xss XMw9.out.rows Yw9.out.rows).mono ?_
  rintro e w10 ⟨rfl, Cw10⟩
  have Zw10 := Cw10.size
  have Bw10 := Lib.hid (Below.chg Bw9.out Cw10 (by omega) (.inr rfl))
  have XMw10 := Lib.hid (XMw9.out.chg Cw10 (by omega) (.inr (by omega)))
  have XNw10 := Lib.hid (XNw9.out.chg Cw10 (by omega) (.inr (by omega)))
  have XTw10 := Lib.hid (XTw9.out.chg Cw10 (by omega) (.inr (by omega)))
  have Yw10 := Lib.hid (Yw9.out.chg Cw10 (by omega) (.inr (by omega)))
  clear Cw10 Bw9 XMw9 XNw9 XTw9 Yw9
  clear Yw10
  go_wp2_with fail
  refine (copyI w10 v1 ys (HA1.out.below Bw10.out) hn1).mono ?_
  rintro e w11 ⟨Yu, rfl, hmw11, hbw11⟩
  have Cw11 := Chg.of_below hbw11
  have Y0 := Lib.hid hmw11
  have Zw11 := Cw11.size
  have Bw11 := Lib.hid (Below.chg Bw10.out Cw11 (by omega) (.inr rfl))
  have XMw11 := Lib.hid (XMw10.out.chg Cw11 (by omega) (.inr (by omega)))
  have XNw11 := Lib.hid (XNw10.out.chg Cw11 (by omega) (.inr (by omega)))
  have XTw11 := Lib.hid (XTw10.out.chg Cw11 (by omega) (.inr (by omega)))
  clear Cw11 Bw10 XMw10 XNw10 XTw10 hmw11 hbw11
  have Yw11 := Y0
  clear Y0
  go_wp2_with fail
  refine (eqI_same w11 XNu Yu ys XNw11.out.is Yw11.out.is).mono ?_
  rintro e w12 ⟨rfl, Cw12⟩
  have Zw12 := Cw12.size
  have Bw12 := Lib.hid (Below.chg Bw11.out Cw12 (by omega) (.inr rfl))
  have XMw12 := Lib.hid (XMw11.out.chg Cw12 (by omega) (.inr (by omega)))
  have XNw12 := Lib.hid (XNw11.out.chg Cw12 (by omega) (.inr (by omega)))
  have XTw12 := Lib.hid (XTw11.out.chg Cw12 (by omega) (.inr (by omega)))
  have Yw12 := Lib.hid (Yw11.out.chg Cw12 (by omega) (.inr (by omega)))
  clear Cw12 Bw11 XMw11 XNw11 XTw11 Yw11
  clear Yw12
  go_wp2_with fail
  refine (copyS w12 v4 rs (HA4.out.below Bw12.out) hn4).mono ?_
  rintro e w13 ⟨Yu, rfl, hmw13, hbw13⟩
  have Cw13 := Chg.of_below hbw13
  have Y0 := Lib.hid hmw13
  have Zw13 := Cw13.size
  have Bw13 := Lib.hid (Below.chg Bw12.out Cw13 (by omega) (.inr rfl))
  have XMw13 := Lib.hid (XMw12.out.chg Cw13 (by omega) (.inr (by omega)))
  have XNw13 := Lib.hid (XNw12.out.chg Cw13 (by omega) (.inr (by omega)))
  have XTw13 := Lib.hid (XTw12.out.chg Cw13 (by omega) (.inr (by omega)))
  clear Cw13 Bw12 XMw12 XNw12 XTw12 hmw13 hbw13
  have Yw13 := Y0
  clear Y0
  go_wp2_with fail
  refine (eqS_same w13 XTu Yu rs XTw13.out.strs Yw13.out.strs).mono ?_
  rintro e w14 ⟨rfl, Cw14⟩
  have Zw14 := Cw14.size
  have Bw14 := Lib.hid (Below.chg Bw13.out Cw14 (by omega) (.inr rfl))
  have XMw14 := Lib.hid (XMw13.out.chg Cw14 (by omega) (.inr (by omega)))
  have XNw14 := Lib.hid (XNw13.out.chg Cw14 (by omega) (.inr (by omega)))
  have XTw14 := Lib.hid (XTw13.out.chg Cw14 (by omega) (.inr (by omega)))
  have Yw14 := Lib.hid (Yw13.out.chg Cw14 (by omega) (.inr (by omega)))
  clear Cw14 Bw13 XMw13 XNw13 XTw13 Yw13
  clear Yw14
  clear XMw14 XNw14 XTw14
  go_wp2_with fail
  go_ret
  exact ⟨rfl, Bw14.out⟩
set_option maxHeartbeats 4000000 in
theorem exTableCount_walk (hI : ITC) (W : World) (v0 : Value) (xss : List (List Int)) (v1 : Value) (ys : List IV) (h0 : Rows2 W v0 xss) (h1 : Is W v1 ys) (hf1 : FitI ys) :
    Calls Try.prog 17 #[v0, v1] W fun e w' => e = .returned (.bool true) ∧ Below W.heap.size W w' := by
  have HI := Lib.hid hI
  clear hI
  have HA0 := Lib.hid h0
  have HA1 := Lib.hid h1
  go_enter Try.func17, Try.ntmps17
  go_wp2_with fail
  refine (szIntSS_any W v0 xss 1048576 h0 (by omega) (by omega)).mono ?_
  clear h0
  rintro e w' ⟨r, hr, rfl, rfl⟩
  by_cases hr0 : r < 0
  · go_wp2_with fail
    go_ret
    exact ⟨rfl, Below.refl _ _⟩
  have hr1 : decide (r < 0) = false := by simpa using hr0
  have HZ0 : Hid (0 ≤ r ∧ r + xss.length + total xss = 1048576) := Lib.hid (by rcases hr with h | h <;> omega)
  clear hr hr0
  go_wp2_with fail
  refine (szInfoS_any W v1 ys r h1 hf1 (by have := HZ0.out; omega) (by have := HZ0.out; omega)).mono ?_
  clear h1
  rintro e w0 ⟨s, hs, rfl, hb0⟩
  have Bw0 := Lib.hid hb0
  have Zw0 : W.heap.size ≤ w0.heap.size := hb0.size
  clear hb0
  by_cases hs0 : s < 0
  · go_wp2_with fail
    go_ret
    exact ⟨rfl, Bw0.out⟩
  have hs1 : decide (s < 0) = false := by simpa using hs0
  have HZ1 : Hid (0 ≤ s ∧ s + ys.length + totalI ys = r) := Lib.hid (by rcases hs with h | h <;> omega)
  clear hs hs0
  have hn0 : xss.length + total xss ≤ 1048576 := by have := HZ0.out; omega
  have hn1 : ys.length ≤ 1048576 := by have := HZ0.out; have := HZ1.out; omega
  have HSY : Hid (ShortI ys) := Lib.hid (fun x hx => by have := totalI_mem hx; have := HZ0.out; have := HZ1.out; omega)
  obtain ⟨zs, hzs⟩ : ∃ zs, zs = tcnt xss ys := ⟨_, rfl⟩
  have hzl : zs.length ≤ 12 := by rw [hzs]; exact tcnt_len _ _
  have HV := Lib.hid hzs
  clear hzs
  have HSP : Hid (∀ (w : World) (a b : Value), Rows2 w a xss → Is w b ys → Calls Try.prog 33 #[a, b] w (NewR zs w)) := Lib.hid (fun w a b ha hb => by rw [HV.out]; exact sTableCount_any w a b xss ys ha hb HSY.out)
  have HIM : Hid (∀ (w : World) (a b : Value), Rows2 w a xss → Is w b ys → Calls Try.prog 32 #[a, b] w (NewR zs w)) := Lib.hid (fun w a b ha hb => by rw [HV.out]; exact HI.out w a b xss ys ha hb HSY.out)
  clear HI
  go_wp2_with fail
  refine (copyM w0 v0 xss (HA0.out.below Bw0.out) hn0).mono ?_
  rintro e w1 ⟨SMu, rfl, hmw1, hbw1⟩
  have Cw1 := Chg.of_below hbw1
  have SM0 := Lib.hid hmw1
  have Zw1 := Cw1.size
  have Bw1 := Lib.hid (Below.chg Bw0.out Cw1 (by omega) (.inr rfl))
  clear Cw1 Bw0 hmw1 hbw1
  have SMw1 := SM0
  clear SM0
  go_wp2_with fail
  refine (copyI w1 v1 ys (HA1.out.below Bw1.out) hn1).mono ?_
  rintro e w2 ⟨SNu, rfl, hmw2, hbw2⟩
  have Cw2 := Chg.of_below hbw2
  have SN0 := Lib.hid hmw2
  have Zw2 := Cw2.size
  have Bw2 := Lib.hid (Below.chg Bw1.out Cw2 (by omega) (.inr rfl))
  have SMw2 := Lib.hid (SMw1.out.chg Cw2 (by omega) (.inr (by omega)))
  clear Cw2 Bw1 SMw1 hmw2 hbw2
  have SNw2 := SN0
  clear SN0
  go_wp2_with fail
  refine (HSP.out w2 SMu SNu SMw2.out.rows SNw2.out.is).mono ?_
  rintro e w3 ⟨RSu, rfl, hmw3, hbw3⟩
  have Cw3 := Chg.of_below hbw3
  have RS0 := Lib.hid hmw3
  have Zw3 := Cw3.size
  have Bw3 := Lib.hid (Below.chg Bw2.out Cw3 (by omega) (.inr rfl))
  have SMw3 := Lib.hid (SMw2.out.chg Cw3 (by omega) (.inr (by omega)))
  have SNw3 := Lib.hid (SNw2.out.chg Cw3 (by omega) (.inr (by omega)))
  clear Cw3 Bw2 SMw2 SNw2 hmw3 hbw3
  have RSw3 := RS0
  clear RS0
  clear SMw3 SNw3
  go_wp2_with fail
  refine (copyM w3 v0 xss (HA0.out.below Bw3.out) hn0).mono ?_
  rintro e w4 ⟨XMu, rfl, hmw4, hbw4⟩
  have Cw4 := Chg.of_below hbw4
  have XM0 := Lib.hid hmw4
  have Zw4 := Cw4.size
  have Bw4 := Lib.hid (Below.chg Bw3.out Cw4 (by omega) (.inr rfl))
  have RSw4 := Lib.hid (RSw3.out.chg Cw4 (by omega) (.inr (by omega)))
  clear Cw4 Bw3 RSw3 hmw4 hbw4
  have XMw4 := XM0
  clear XM0
  go_wp2_with fail
  refine (copyI w4 v1 ys (HA1.out.below Bw4.out) hn1).mono ?_
  rintro e w5 ⟨XNu, rfl, hmw5, hbw5⟩
  have Cw5 := Chg.of_below hbw5
  have XN0 := Lib.hid hmw5
  have Zw5 := Cw5.size
  have Bw5 := Lib.hid (Below.chg Bw4.out Cw5 (by omega) (.inr rfl))
  have RSw5 := Lib.hid (RSw4.out.chg Cw5 (by omega) (.inr (by omega)))
  have XMw5 := Lib.hid (XMw4.out.chg Cw5 (by omega) (.inr (by omega)))
  clear Cw5 Bw4 RSw4 XMw4 hmw5 hbw5
  have XNw5 := XN0
  clear XN0
  go_wp2_with fail
  refine (HIM.out w5 XMu XNu XMw5.out.rows XNw5.out.is).mono ?_
  rintro e w6 ⟨RPu, rfl, hmw6, hbw6⟩
  have Cw6 := Chg.of_below hbw6
  have RP0 := Lib.hid hmw6
  have Zw6 := Cw6.size
  have Bw6 := Lib.hid (Below.chg Bw5.out Cw6 (by omega) (.inr rfl))
  have RSw6 := Lib.hid (RSw5.out.chg Cw6 (by omega) (.inr (by omega)))
  have XMw6 := Lib.hid (XMw5.out.chg Cw6 (by omega) (.inr (by omega)))
  have XNw6 := Lib.hid (XNw5.out.chg Cw6 (by omega) (.inr (by omega)))
  clear Cw6 Bw5 RSw5 XMw5 XNw5 hmw6 hbw6
  have RPw6 := RP0
  clear RP0
  go_wp2_with fail
  refine (eqs_c w6 RPu RSu zs RPw6.out.ints RSw6.out.ints).mono ?_
  rintro e w7 ⟨rfl, Cw7⟩
  have Zw7 := Cw7.size
  have Bw7 := Lib.hid (Below.chg Bw6.out Cw7 (by omega) (.inr rfl))
  have RSw7 := Lib.hid (RSw6.out.chg Cw7 (by omega) (.inr (by omega)))
  have XMw7 := Lib.hid (XMw6.out.chg Cw7 (by omega) (.inr (by omega)))
  have XNw7 := Lib.hid (XNw6.out.chg Cw7 (by omega) (.inr (by omega)))
  have RPw7 := Lib.hid (RPw6.out.chg Cw7 (by omega) (.inr (by omega)))
  clear Cw7 Bw6 RSw6 XMw6 XNw6 RPw6
  go_wp2_with fail
  refine (copyM w7 v0 xss (HA0.out.below Bw7.out) hn0).mono ?_
  rintro e w8 ⟨Yu, rfl, hmw8, hbw8⟩
  have Cw8 := Chg.of_below hbw8
  have Y0 := Lib.hid hmw8
  have Zw8 := Cw8.size
  have Bw8 := Lib.hid (Below.chg Bw7.out Cw8 (by omega) (.inr rfl))
  have RSw8 := Lib.hid (RSw7.out.chg Cw8 (by omega) (.inr (by omega)))
  have XMw8 := Lib.hid (XMw7.out.chg Cw8 (by omega) (.inr (by omega)))
  have XNw8 := Lib.hid (XNw7.out.chg Cw8 (by omega) (.inr (by omega)))
  have RPw8 := Lib.hid (RPw7.out.chg Cw8 (by omega) (.inr (by omega)))
  clear Cw8 Bw7 RSw7 XMw7 XNw7 RPw7 hmw8 hbw8
  have Yw8 := Y0
  clear Y0
  go_wp2_with fail
  refine (eq_c w8 XMu Yu xss XMw8.out.rows Yw8.out.rows).mono ?_
  rintro e w9 ⟨rfl, Cw9⟩
  have Zw9 := Cw9.size
  have Bw9 := Lib.hid (Below.chg Bw8.out Cw9 (by omega) (.inr rfl))
  have RSw9 := Lib.hid (RSw8.out.chg Cw9 (by omega) (.inr (by omega)))
  have XMw9 := Lib.hid (XMw8.out.chg Cw9 (by omega) (.inr (by omega)))
  have XNw9 := Lib.hid (XNw8.out.chg Cw9 (by omega) (.inr (by omega)))
  have RPw9 := Lib.hid (RPw8.out.chg Cw9 (by omega) (.inr (by omega)))
  have Yw9 := Lib.hid (Yw8.out.chg Cw9 (by omega) (.inr (by omega)))
  clear Cw9 Bw8 RSw8 XMw8 XNw8 RPw8 Yw8
  clear Yw9
  go_wp2_with fail
  refine (copyI w9 v1 ys (HA1.out.below Bw9.out) hn1).mono ?_
  rintro e w10 ⟨Yu, rfl, hmw10, hbw10⟩
  have Cw10 := Chg.of_below hbw10
  have Y0 := Lib.hid hmw10
  have Zw10 := Cw10.size
  have Bw10 := Lib.hid (Below.chg Bw9.out Cw10 (by omega) (.inr rfl))
  have RSw10 := Lib.hid (RSw9.out.chg Cw10 (by omega) (.inr (by omega)))
  have XMw10 := Lib.hid (XMw9.out.chg Cw10 (by omega) (.inr (by omega)))
  have XNw10 := Lib.hid (XNw9.out.chg Cw10 (by omega) (.inr (by omega)))
  have RPw10 := Lib.hid (RPw9.out.chg Cw10 (by omega) (.inr (by omega)))
  clear Cw10 Bw9 RSw9 XMw9 XNw9 RPw9 hmw10 hbw10
  have Yw10 := Y0
  clear Y0
  go_wp2_with fail
  refine (eqI_same w10 XNu Yu ys XNw10.out.is Yw10.out.is).mono ?_
  rintro e w11 ⟨rfl, Cw11⟩
  have Zw11 := Cw11.size
  have Bw11 := Lib.hid (Below.chg Bw10.out Cw11 (by omega) (.inr rfl))
  have RSw11 := Lib.hid (RSw10.out.chg Cw11 (by omega) (.inr (by omega)))
  have XMw11 := Lib.hid (XMw10.out.chg Cw11 (by omega) (.inr (by omega)))
  have XNw11 := Lib.hid (XNw10.out.chg Cw11 (by omega) (.inr (by omega)))
  have RPw11 := Lib.hid (RPw10.out.chg Cw11 (by omega) (.inr (by omega)))
  have Yw11 := Lib.hid (Yw10.out.chg Cw11 (by omega) (.inr (by omega)))
  clear Cw11 Bw10 RSw10 XMw10 XNw10 RPw10 Yw10
  clear Yw11
  obtain ⟨q1, hq1⟩ : ∃ q1, q1 = 1 + total xss := ⟨_, rfl⟩
  have HQ1 := Lib.hid hq1
  clear hq1
  have HMK := Lib.hid (markM_to XMw11.out hn0 HQ1.out)
  go_wp2_with fail
  refine HMK.out.mono ?_
  rintro e w12 ⟨rfl, Cw12⟩
  clear XMw11
  have Zw12 := Cw12.size
  have Bw12 := Lib.hid (Below.chg Bw11.out Cw12 (by omega) (.inl (by omega)))
  have RSw12 := Lib.hid (RSw11.out.chg Cw12 (by omega) (.inl (by omega)))
  have XNw12 := Lib.hid (XNw11.out.chg Cw12 (by omega) (.inr (by omega)))
  have RPw12 := Lib.hid (RPw11.out.chg Cw12 (by omega) (.inr (by omega)))
  clear Cw12 Bw11 RSw11 XNw11 RPw11 HMK
  obtain ⟨q2, hq2⟩ : ∃ q2, q2 = q1 + 3 * ys.length := ⟨_, rfl⟩
  have HQ2 := Lib.hid hq2
  clear hq2
  have HMK := Lib.hid (markI_to XNw12.out (by omega) (by have h1 := HZ0.out; have h2 := HZ1.out; have h3 := HQ1.out; omega) (by have h1 := HZ0.out; have h2 := HZ1.out; have h3 := HQ1.out; omega) HQ2.out)
  go_wp2_with fail
  refine HMK.out.mono ?_
  rintro e w13 ⟨rfl, Cw13⟩
  clear XNw12
  have Zw13 := Cw13.size
  have Bw13 := Lib.hid (Below.chg Bw12.out Cw13 (by omega) (.inl (by omega)))
  have RSw13 := Lib.hid (RSw12.out.chg Cw13 (by omega) (.inl (by omega)))
  have RPw13 := Lib.hid (RPw12.out.chg Cw13 (by omega) (.inr (by omega)))
  clear Cw13 Bw12 RSw12 RPw12 HMK
  have hlast : decide ((q2 : Int) < 0) = false := decide_eq_false (by omega)
  have hlast2 : ¬ (q2 : Int) < 0 := by omega
  go_wp2_with fail
  refine (eqs_c w13 RPu RSu zs RPw13.out.ints RSw13.out.ints).mono ?_
  rintro e w14 ⟨rfl, Cw14⟩
  have Zw14 := Cw14.size
  have Bw14 := Lib.hid (Below.chg Bw13.out Cw14 (by omega) (.inr rfl))
  have RSw14 := Lib.hid (RSw13.out.chg Cw14 (by omega) (.inr (by omega)))
  have RPw14 := Lib.hid (RPw13.out.chg Cw14 (by omega) (.inr (by omega)))
  clear Cw14 Bw13 RSw13 RPw13
  obtain ⟨nz, hnz⟩ : ∃ n, n = zs.length := ⟨_, rfl⟩
  have HNZ := Lib.hid hnz
  have hnz1 : nz ≤ 1048576 := by omega
  clear hnz
  have hge : decide (((1 + nz : Nat) : Int) < 0) = false := decide_eq_false (by omega)
  have hge2 : decide ((1 : Int) + (nz : Int) < 0) = false := by simp; omega
  have HMR := Lib.hid (markN_of RPw14.out HNZ.out hnz1)
  clear RPw14
  go_wp2_with fail
  refine HMR.out.mono ?_
  rintro e w15 ⟨rfl, hkw15, Cw15⟩
  have RP0 := Lib.hid hkw15
  have Zw15 := Cw15.size
  have Bw15 := Lib.hid (Below.chg Bw14.out Cw15 (by omega) (.inl (by omega)))
  have RSw15 := Lib.hid (RSw14.out.chg Cw15 (by omega) (.inl (by omega)))
  clear Cw15 Bw14 RSw14 HMR hkw15
  have RPw15 := RP0
  clear RP0
  have HD := Lib.hid (heldN_of RPw15.out hnz1)
  go_wp2_with fail
  refine HD.out.mono ?_
  rintro e w16 ⟨rfl, Cw16⟩
  have Zw16 := Cw16.size
  have Bw16 := Lib.hid (Below.chg Bw15.out Cw16 (by omega) (.inr rfl))
  have RSw16 := Lib.hid (RSw15.out.chg Cw16 (by omega) (.inr (by omega)))
  have RPw16 := Lib.hid (RPw15.out.chg Cw16 (by omega) (.inr (by omega)))
  clear Cw16 Bw15 RSw15 RPw15 HD
  go_wp2_with fail
  refine (copyM w16 v0 xss (HA0.out.below Bw16.out) hn0).mono ?_
  rintro e w17 ⟨VMu, rfl, hmw17, hbw17⟩
  have Cw17 := Chg.of_below hbw17
  have VM0 := Lib.hid hmw17
  have Zw17 := Cw17.size
  have Bw17 := Lib.hid (Below.chg Bw16.out Cw17 (by omega) (.inr rfl))
  have RSw17 := Lib.hid (RSw16.out.chg Cw17 (by omega) (.inr (by omega)))
  have RPw17 := Lib.hid (RPw16.out.chg Cw17 (by omega) (.inr (by omega)))
  clear Cw17 Bw16 RSw16 RPw16 hmw17 hbw17
  have VMw17 := VM0
  clear VM0
  go_wp2_with fail
  refine (copyI w17 v1 ys (HA1.out.below Bw17.out) hn1).mono ?_
  rintro e w18 ⟨VNu, rfl, hmw18, hbw18⟩
  have Cw18 := Chg.of_below hbw18
  have VN0 := Lib.hid hmw18
  have Zw18 := Cw18.size
  have Bw18 := Lib.hid (Below.chg Bw17.out Cw18 (by omega) (.inr rfl))
  have RSw18 := Lib.hid (RSw17.out.chg Cw18 (by omega) (.inr (by omega)))
  have RPw18 := Lib.hid (RPw17.out.chg Cw18 (by omega) (.inr (by omega)))
  have VMw18 := Lib.hid (VMw17.out.chg Cw18 (by omega) (.inr (by omega)))
  clear Cw18 Bw17 RSw17 RPw17 VMw17 hmw18 hbw18
  have VNw18 := VN0
  clear VN0
  go_wp2_with fail
  refine (HIM.out w18 VMu VNu VMw18.out.rows VNw18.out.is).mono ?_
  rintro e w19 ⟨RQu, rfl, hmw19, hbw19⟩
  have Cw19 := Chg.of_below hbw19
  have RQ0 := Lib.hid hmw19
  have Zw19 := Cw19.size
  have Bw19 := Lib.hid (Below.chg Bw18.out Cw19 (by omega) (.inr rfl))
  have RSw19 := Lib.hid (RSw18.out.chg Cw19 (by omega) (.inr (by omega)))
  have RPw19 := Lib.hid (RPw18.out.chg Cw19 (by omega) (.inr (by omega)))
  have VMw19 := Lib.hid (VMw18.out.chg Cw19 (by omega) (.inr (by omega)))
  have VNw19 := Lib.hid (VNw18.out.chg Cw19 (by omega) (.inr (by omega)))
  clear Cw19 Bw18 RSw18 RPw18 VMw18 VNw18 hmw19 hbw19
  have RQw19 := RQ0
  clear RQ0
  clear VMw19 VNw19
  go_wp2_with fail
  refine (eqs_c w19 RQu RSu zs RQw19.out.ints RSw19.out.ints).mono ?_
  rintro e w20 ⟨rfl, Cw20⟩
  have Zw20 := Cw20.size
  have Bw20 := Lib.hid (Below.chg Bw19.out Cw20 (by omega) (.inr rfl))
  have RSw20 := Lib.hid (RSw19.out.chg Cw20 (by omega) (.inr (by omega)))
  have RPw20 := Lib.hid (RPw19.out.chg Cw20 (by omega) (.inr (by omega)))
  have RQw20 := Lib.hid (RQw19.out.chg Cw20 (by omega) (.inr (by omega)))
  clear Cw20 Bw19 RSw19 RPw19 RQw19
  clear RQw20
  have HD := Lib.hid (heldN_of RPw20.out hnz1)
  go_wp2_with fail
  refine HD.out.mono ?_
  rintro e w21 ⟨rfl, Cw21⟩
  have Zw21 := Cw21.size
  have Bw21 := Lib.hid (Below.chg Bw20.out Cw21 (by omega) (.inr rfl))
  have RSw21 := Lib.hid (RSw20.out.chg Cw21 (by omega) (.inr (by omega)))
  have RPw21 := Lib.hid (RPw20.out.chg Cw21 (by omega) (.inr (by omega)))
  clear Cw21 Bw20 RSw20 RPw20 HD
  go_wp2_with fail
  go_ret
  exact ⟨rfl, Bw21.out⟩
set_option maxHeartbeats 4000000 in
theorem exTablePin_walk (hI : ITP) (W : World) (v0 : Value) (xss : List (List Int)) (v1 : Value) (ys : List IV) (f : Int) (k : Int) (v4 : Value) (rs : List Bs) (h0 : Rows2 W v0 xss) (h1 : Is W v1 ys) (hf1 : FitI ys) (h4 : Strs W v4 rs) (hf4 : Fit rs) :
    Calls Try.prog 18 #[v0, v1, .int .i64 f, .int .i64 k, v4] W fun e w' => e = .returned (.bool true) ∧ Below W.heap.size W w' := by
  have HI := Lib.hid hI
  clear hI
  have HA0 := Lib.hid h0
  have HA1 := Lib.hid h1
  have HA4 := Lib.hid h4
  go_enter Try.func18, Try.ntmps18
  go_wp2_with fail
  refine (szIntSS_any W v0 xss 1048576 h0 (by omega) (by omega)).mono ?_
  clear h0
  rintro e w' ⟨r, hr, rfl, rfl⟩
  by_cases hr0 : r < 0
  · go_wp2_with fail
    go_ret
    exact ⟨rfl, Below.refl _ _⟩
  have hr1 : decide (r < 0) = false := by simpa using hr0
  have HZ0 : Hid (0 ≤ r ∧ r + xss.length + total xss = 1048576) := Lib.hid (by rcases hr with h | h <;> omega)
  clear hr hr0
  go_wp2_with fail
  refine (szInfoS_any W v1 ys r h1 hf1 (by have := HZ0.out; omega) (by have := HZ0.out; omega)).mono ?_
  clear h1
  rintro e w0 ⟨s, hs, rfl, hb0⟩
  have Bw0 := Lib.hid hb0
  have Zw0 : W.heap.size ≤ w0.heap.size := hb0.size
  clear hb0
  by_cases hs0 : s < 0
  · go_wp2_with fail
    go_ret
    exact ⟨rfl, Bw0.out⟩
  have hs1 : decide (s < 0) = false := by simpa using hs0
  have HZ1 : Hid (0 ≤ s ∧ s + ys.length + totalI ys = r) := Lib.hid (by rcases hs with h | h <;> omega)
  clear hs hs0
  go_wp2_with fail
  refine (szStringS_any w0 v4 rs s (HA4.out.below Bw0.out) hf4 (by have := HZ1.out; omega) (by have := HZ1.out; have := HZ0.out; omega)).mono ?_
  clear h4
  rintro e w' ⟨q, hq, rfl, rfl⟩
  by_cases hq0 : q < 0
  · go_wp2_with fail
    go_ret
    exact ⟨rfl, Bw0.out⟩
  have hq1 : decide (q < 0) = false := by simpa using hq0
  have HZ4 : Hid (0 ≤ q ∧ q + rs.length + totalS rs = s) := Lib.hid (by rcases hq with h | h <;> omega)
  clear hq hq0
  have hn4 : rs.length ≤ 1048576 := by have := HZ0.out; have := HZ1.out; have := HZ4.out; omega
  have HSR : Hid (Short rs) := Lib.hid (fun x hx => by have := totalS_mem hx; have := HZ0.out; have := HZ1.out; have := HZ4.out; omega)
  have hn0 : xss.length + total xss ≤ 1048576 := by have := HZ0.out; omega
  have hn1 : ys.length ≤ 1048576 := by have := HZ0.out; have := HZ1.out; omega
  have HSY : Hid (ShortI ys) := Lib.hid (fun x hx => by have := totalI_mem hx; have := HZ0.out; have := HZ1.out; omega)
  obtain ⟨zs, hzs⟩ : ∃ zs, zs = (tpin xss ys f k rs).1 := ⟨_, rfl⟩
  obtain ⟨cn, hcn⟩ : ∃ cn, cn = (tpin xss ys f k rs).2 := ⟨_, rfl⟩
  have hzl : zs.length ≤ 1048576 := by rw [hzs]; exact Nat.le_trans (tpin_len _ _ _ _ _) hn1
  have HV := Lib.hid hzs
  have HVN := Lib.hid hcn
  clear hzs hcn
  have hnn := neI cn
  have HSP : Hid (∀ (w : World) (a b c : Value), Rows2 w a xss → Is w b ys → Strs w c rs → Calls Try.prog 38 #[a, b, .int .i64 f, .int .i64 k, c] w (NewVN zs cn w)) := Lib.hid (fun w a b c ha hb hc => by rw [HV.out, HVN.out]; exact sTablePin_any w a b c xss ys rs f k ha hb HSY.out hc HSR.out)
  have HIM : Hid (∀ (w : World) (a b c : Value), Rows2 w a xss → Is w b ys → Strs w c rs → Calls Try.prog 37 #[a, b, .int .i64 f, .int .i64 k, c] w (NewVN zs cn w)) := Lib.hid (fun w a b c ha hb hc => by rw [HV.out, HVN.out]; exact HI.out w a b c xss ys rs f k ha hb HSY.out hc HSR.out)
  clear HI
  go_wp2_with fail
  refine (copyM w0 v0 xss (HA0.out.below Bw0.out) hn0).mono ?_
  rintro e w1 ⟨SMu, rfl, hmw1, hbw1⟩
  have Cw1 := Chg.of_below hbw1
  have SM0 := Lib.hid hmw1
  have Zw1 := Cw1.size
  have Bw1 := Lib.hid (Below.chg Bw0.out Cw1 (by omega) (.inr rfl))
  clear Cw1 Bw0 hmw1 hbw1
  have SMw1 := SM0
  clear SM0
  go_wp2_with fail
  refine (copyI w1 v1 ys (HA1.out.below Bw1.out) hn1).mono ?_
  rintro e w2 ⟨SNu, rfl, hmw2, hbw2⟩
  have Cw2 := Chg.of_below hbw2
  have SN0 := Lib.hid hmw2
  have Zw2 := Cw2.size
  have Bw2 := Lib.hid (Below.chg Bw1.out Cw2 (by omega) (.inr rfl))
  have SMw2 := Lib.hid (SMw1.out.chg Cw2 (by omega) (.inr (by omega)))
  clear Cw2 Bw1 SMw1 hmw2 hbw2
  have SNw2 := SN0
  clear SN0
  go_wp2_with fail
  refine (copyS w2 v4 rs (HA4.out.below Bw2.out) hn4).mono ?_
  rintro e w3 ⟨STu, rfl, hmw3, hbw3⟩
  have Cw3 := Chg.of_below hbw3
  have ST0 := Lib.hid hmw3
  have Zw3 := Cw3.size
  have Bw3 := Lib.hid (Below.chg Bw2.out Cw3 (by omega) (.inr rfl))
  have SMw3 := Lib.hid (SMw2.out.chg Cw3 (by omega) (.inr (by omega)))
  have SNw3 := Lib.hid (SNw2.out.chg Cw3 (by omega) (.inr (by omega)))
  clear Cw3 Bw2 SMw2 SNw2 hmw3 hbw3
  have STw3 := ST0
  clear ST0
  go_wp2_with fail
  refine (HSP.out w3 SMu SNu STu SMw3.out.rows SNw3.out.is STw3.out.strs).mono ?_
  rintro e w4 ⟨RSu, rfl, hmw4, hbw4⟩
  have Cw4 := Chg.of_below hbw4
  have RS0 := Lib.hid hmw4
  have Zw4 := Cw4.size
  have Bw4 := Lib.hid (Below.chg Bw3.out Cw4 (by omega) (.inr rfl))
  have SMw4 := Lib.hid (SMw3.out.chg Cw4 (by omega) (.inr (by omega)))
  have SNw4 := Lib.hid (SNw3.out.chg Cw4 (by omega) (.inr (by omega)))
  have STw4 := Lib.hid (STw3.out.chg Cw4 (by omega) (.inr (by omega)))
  clear Cw4 Bw3 SMw3 SNw3 STw3 hmw4 hbw4
  have RSw4 := RS0
  clear RS0
  clear SMw4 SNw4 STw4
  go_wp2_with fail
  refine (copyM w4 v0 xss (HA0.out.below Bw4.out) hn0).mono ?_
  rintro e w5 ⟨XMu, rfl, hmw5, hbw5⟩
  have Cw5 := Chg.of_below hbw5
  have XM0 := Lib.hid hmw5
  have Zw5 := Cw5.size
  have Bw5 := Lib.hid (Below.chg Bw4.out Cw5 (by omega) (.inr rfl))
  have RSw5 := Lib.hid (RSw4.out.chg Cw5 (by omega) (.inr (by omega)))
  clear Cw5 Bw4 RSw4 hmw5 hbw5
  have XMw5 := XM0
  clear XM0
  go_wp2_with fail
  refine (copyI w5 v1 ys (HA1.out.below Bw5.out) hn1).mono ?_
  rintro e w6 ⟨XNu, rfl, hmw6, hbw6⟩
  have Cw6 := Chg.of_below hbw6
  have XN0 := Lib.hid hmw6
  have Zw6 := Cw6.size
  have Bw6 := Lib.hid (Below.chg Bw5.out Cw6 (by omega) (.inr rfl))
  have RSw6 := Lib.hid (RSw5.out.chg Cw6 (by omega) (.inr (by omega)))
  have XMw6 := Lib.hid (XMw5.out.chg Cw6 (by omega) (.inr (by omega)))
  clear Cw6 Bw5 RSw5 XMw5 hmw6 hbw6
  have XNw6 := XN0
  clear XN0
  go_wp2_with fail
  refine (copyS w6 v4 rs (HA4.out.below Bw6.out) hn4).mono ?_
  rintro e w7 ⟨XTu, rfl, hmw7, hbw7⟩
  have Cw7 := Chg.of_below hbw7
  have XT0 := Lib.hid hmw7
  have Zw7 := Cw7.size
  have Bw7 := Lib.hid (Below.chg Bw6.out Cw7 (by omega) (.inr rfl))
  have RSw7 := Lib.hid (RSw6.out.chg Cw7 (by omega) (.inr (by omega)))
  have XMw7 := Lib.hid (XMw6.out.chg Cw7 (by omega) (.inr (by omega)))
  have XNw7 := Lib.hid (XNw6.out.chg Cw7 (by omega) (.inr (by omega)))
  clear Cw7 Bw6 RSw6 XMw6 XNw6 hmw7 hbw7
  have XTw7 := XT0
  clear XT0
  go_wp2_with fail
  refine (HIM.out w7 XMu XNu XTu XMw7.out.rows XNw7.out.is XTw7.out.strs).mono ?_
  rintro e w8 ⟨RPu, rfl, hmw8, hbw8⟩
  have Cw8 := Chg.of_below hbw8
  have RP0 := Lib.hid hmw8
  have Zw8 := Cw8.size
  have Bw8 := Lib.hid (Below.chg Bw7.out Cw8 (by omega) (.inr rfl))
  have RSw8 := Lib.hid (RSw7.out.chg Cw8 (by omega) (.inr (by omega)))
  have XMw8 := Lib.hid (XMw7.out.chg Cw8 (by omega) (.inr (by omega)))
  have XNw8 := Lib.hid (XNw7.out.chg Cw8 (by omega) (.inr (by omega)))
  have XTw8 := Lib.hid (XTw7.out.chg Cw8 (by omega) (.inr (by omega)))
  clear Cw8 Bw7 RSw7 XMw7 XNw7 XTw7 hmw8 hbw8
  have RPw8 := RP0
  clear RP0
  go_wp2_with fail
  refine (eqI_same w8 RPu RSu zs RPw8.out.is RSw8.out.is).mono ?_
  rintro e w9 ⟨rfl, Cw9⟩
  have Zw9 := Cw9.size
  have Bw9 := Lib.hid (Below.chg Bw8.out Cw9 (by omega) (.inr rfl))
  have RSw9 := Lib.hid (RSw8.out.chg Cw9 (by omega) (.inr (by omega)))
  have XMw9 := Lib.hid (XMw8.out.chg Cw9 (by omega) (.inr (by omega)))
  have XNw9 := Lib.hid (XNw8.out.chg Cw9 (by omega) (.inr (by omega)))
  have XTw9 := Lib.hid (XTw8.out.chg Cw9 (by omega) (.inr (by omega)))
  have RPw9 := Lib.hid (RPw8.out.chg Cw9 (by omega) (.inr (by omega)))
  clear Cw9 Bw8 RSw8 XMw8 XNw8 XTw8 RPw8
  go_wp2_with fail
  refine (copyM w9 v0 xss (HA0.out.below Bw9.out) hn0).mono ?_
  rintro e w10 ⟨Yu, rfl, hmw10, hbw10⟩
  have Cw10 := Chg.of_below hbw10
  have Y0 := Lib.hid hmw10
  have Zw10 := Cw10.size
  have Bw10 := Lib.hid (Below.chg Bw9.out Cw10 (by omega) (.inr rfl))
  have RSw10 := Lib.hid (RSw9.out.chg Cw10 (by omega) (.inr (by omega)))
  have XMw10 := Lib.hid (XMw9.out.chg Cw10 (by omega) (.inr (by omega)))
  have XNw10 := Lib.hid (XNw9.out.chg Cw10 (by omega) (.inr (by omega)))
  have XTw10 := Lib.hid (XTw9.out.chg Cw10 (by omega) (.inr (by omega)))
  have RPw10 := Lib.hid (RPw9.out.chg Cw10 (by omega) (.inr (by omega)))
  clear Cw10 Bw9 RSw9 XMw9 XNw9 XTw9 RPw9 hmw10 hbw10
  have Yw10 := Y0
  clear Y0
  go_wp2_with fail
  refine (eq_c w10 XMu Yu xss XMw10.out.rows Yw10.out.rows).mono ?_
  rintro e w11 ⟨rfl, Cw11⟩
  have Zw11 := Cw11.size
  have Bw11 := Lib.hid (Below.chg Bw10.out Cw11 (by omega) (.inr rfl))
  have RSw11 := Lib.hid (RSw10.out.chg Cw11 (by omega) (.inr (by omega)))
  have XMw11 := Lib.hid (XMw10.out.chg Cw11 (by omega) (.inr (by omega)))
  have XNw11 := Lib.hid (XNw10.out.chg Cw11 (by omega) (.inr (by omega)))
  have XTw11 := Lib.hid (XTw10.out.chg Cw11 (by omega) (.inr (by omega)))
  have RPw11 := Lib.hid (RPw10.out.chg Cw11 (by omega) (.inr (by omega)))
  have Yw11 := Lib.hid (Yw10.out.chg Cw11 (by omega) (.inr (by omega)))
  clear Cw11 Bw10 RSw10 XMw10 XNw10 XTw10 RPw10 Yw10
  clear Yw11
  go_wp2_with fail
  refine (copyI w11 v1 ys (HA1.out.below Bw11.out) hn1).mono ?_
  rintro e w12 ⟨Yu, rfl, hmw12, hbw12⟩
  have Cw12 := Chg.of_below hbw12
  have Y0 := Lib.hid hmw12
  have Zw12 := Cw12.size
  have Bw12 := Lib.hid (Below.chg Bw11.out Cw12 (by omega) (.inr rfl))
  have RSw12 := Lib.hid (RSw11.out.chg Cw12 (by omega) (.inr (by omega)))
  have XMw12 := Lib.hid (XMw11.out.chg Cw12 (by omega) (.inr (by omega)))
  have XNw12 := Lib.hid (XNw11.out.chg Cw12 (by omega) (.inr (by omega)))
  have XTw12 := Lib.hid (XTw11.out.chg Cw12 (by omega) (.inr (by omega)))
  have RPw12 := Lib.hid (RPw11.out.chg Cw12 (by omega) (.inr (by omega)))
  clear Cw12 Bw11 RSw11 XMw11 XNw11 XTw11 RPw11 hmw12 hbw12
  have Yw12 := Y0
  clear Y0
  go_wp2_with fail
  refine (eqI_same w12 XNu Yu ys XNw12.out.is Yw12.out.is).mono ?_
  rintro e w13 ⟨rfl, Cw13⟩
  have Zw13 := Cw13.size
  have Bw13 := Lib.hid (Below.chg Bw12.out Cw13 (by omega) (.inr rfl))
  have RSw13 := Lib.hid (RSw12.out.chg Cw13 (by omega) (.inr (by omega)))
  have XMw13 := Lib.hid (XMw12.out.chg Cw13 (by omega) (.inr (by omega)))
  have XNw13 := Lib.hid (XNw12.out.chg Cw13 (by omega) (.inr (by omega)))
  have XTw13 := Lib.hid (XTw12.out.chg Cw13 (by omega) (.inr (by omega)))
  have RPw13 := Lib.hid (RPw12.out.chg Cw13 (by omega) (.inr (by omega)))
  have Yw13 := Lib.hid (Yw12.out.chg Cw13 (by omega) (.inr (by omega)))
  clear Cw13 Bw12 RSw12 XMw12 XNw12 XTw12 RPw12 Yw12
  clear Yw13
  go_wp2_with fail
  refine (copyS w13 v4 rs (HA4.out.below Bw13.out) hn4).mono ?_
  rintro e w14 ⟨Yu, rfl, hmw14, hbw14⟩
  have Cw14 := Chg.of_below hbw14
  have Y0 := Lib.hid hmw14
  have Zw14 := Cw14.size
  have Bw14 := Lib.hid (Below.chg Bw13.out Cw14 (by omega) (.inr rfl))
  have RSw14 := Lib.hid (RSw13.out.chg Cw14 (by omega) (.inr (by omega)))
  have XMw14 := Lib.hid (XMw13.out.chg Cw14 (by omega) (.inr (by omega)))
  have XNw14 := Lib.hid (XNw13.out.chg Cw14 (by omega) (.inr (by omega)))
  have XTw14 := Lib.hid (XTw13.out.chg Cw14 (by omega) (.inr (by omega)))
  have RPw14 := Lib.hid (RPw13.out.chg Cw14 (by omega) (.inr (by omega)))
  clear Cw14 Bw13 RSw13 XMw13 XNw13 XTw13 RPw13 hmw14 hbw14
  have Yw14 := Y0
  clear Y0
  go_wp2_with fail
  refine (eqS_same w14 XTu Yu rs XTw14.out.strs Yw14.out.strs).mono ?_
  rintro e w15 ⟨rfl, Cw15⟩
  have Zw15 := Cw15.size
  have Bw15 := Lib.hid (Below.chg Bw14.out Cw15 (by omega) (.inr rfl))
  have RSw15 := Lib.hid (RSw14.out.chg Cw15 (by omega) (.inr (by omega)))
  have XMw15 := Lib.hid (XMw14.out.chg Cw15 (by omega) (.inr (by omega)))
  have XNw15 := Lib.hid (XNw14.out.chg Cw15 (by omega) (.inr (by omega)))
  have XTw15 := Lib.hid (XTw14.out.chg Cw15 (by omega) (.inr (by omega)))
  have RPw15 := Lib.hid (RPw14.out.chg Cw15 (by omega) (.inr (by omega)))
  have Yw15 := Lib.hid (Yw14.out.chg Cw15 (by omega) (.inr (by omega)))
  clear Cw15 Bw14 RSw14 XMw14 XNw14 XTw14 RPw14 Yw14
  clear Yw15
  obtain ⟨q1, hq1⟩ : ∃ q1, q1 = 1 + total xss := ⟨_, rfl⟩
  have HQ1 := Lib.hid hq1
  clear hq1
  have HMK := Lib.hid (markM_to XMw15.out hn0 HQ1.out)
  go_wp2_with fail
  refine HMK.out.mono ?_
  rintro e w16 ⟨rfl, Cw16⟩
  clear XMw15
  have Zw16 := Cw16.size
  have Bw16 := Lib.hid (Below.chg Bw15.out Cw16 (by omega) (.inl (by omega)))
  have RSw16 := Lib.hid (RSw15.out.chg Cw16 (by omega) (.inl (by omega)))
  have XNw16 := Lib.hid (XNw15.out.chg Cw16 (by omega) (.inr (by omega)))
  have XTw16 := Lib.hid (XTw15.out.chg Cw16 (by omega) (.inr (by omega)))
  have RPw16 := Lib.hid (RPw15.out.chg Cw16 (by omega) (.inr (by omega)))
  clear Cw16 Bw15 RSw15 XNw15 XTw15 RPw15 HMK
  obtain ⟨q2, hq2⟩ : ∃ q2, q2 = q1 + 3 * ys.length := ⟨_, rfl⟩
  have HQ2 := Lib.hid hq2
  clear hq2
  have HMK := Lib.hid (markI_to XNw16.out (by omega) (by have h1 := HZ0.out; have h2 := HZ1.out; have h3 := HQ1.out; have h4 := HZ4.out; omega) (by have h1 := HZ0.out; have h2 := HZ1.out; have h3 := HQ1.out; have h4 := HZ4.out; omega) HQ2.out)
  go_wp2_with fail
  refine HMK.out.mono ?_
  rintro e w17 ⟨rfl, Cw17⟩
  clear XNw16
  have Zw17 := Cw17.size
  have Bw17 := Lib.hid (Below.chg Bw16.out Cw17 (by omega) (.inl (by omega)))
  have RSw17 := Lib.hid (RSw16.out.chg Cw17 (by omega) (.inl (by omega)))
  have XTw17 := Lib.hid (XTw16.out.chg Cw17 (by omega) (.inr (by omega)))
  have RPw17 := Lib.hid (RPw16.out.chg Cw17 (by omega) (.inr (by omega)))
  clear Cw17 Bw16 RSw16 XTw16 RPw16 HMK
  obtain ⟨q3, hq3⟩ : ∃ q3, q3 = q2 + rs.length := ⟨_, rfl⟩
  have HQ3 := Lib.hid hq3
  clear hq3
  have HMK := Lib.hid (markS_to XTw17.out (by omega) (by have h1 := HZ0.out; have h2 := HZ1.out; have h3 := HQ1.out; have h4 := HZ4.out; have := HQ2.out; omega) (by have h1 := HZ0.out; have h2 := HZ1.out; have h3 := HQ1.out; have h4 := HZ4.out; have := HQ2.out; omega) HQ3.out)
  go_wp2_with fail
  refine HMK.out.mono ?_
  rintro e w18 ⟨rfl, Cw18⟩
  clear XTw17
  have Zw18 := Cw18.size
  have Bw18 := Lib.hid (Below.chg Bw17.out Cw18 (by omega) (.inl (by omega)))
  have RSw18 := Lib.hid (RSw17.out.chg Cw18 (by omega) (.inl (by omega)))
  have RPw18 := Lib.hid (RPw17.out.chg Cw18 (by omega) (.inr (by omega)))
  clear Cw18 Bw17 RSw17 RPw17 HMK
  have hlast : decide ((q3 : Int) < 0) = false := decide_eq_false (by omega)
  have hlast2 : ¬ (q3 : Int) < 0 := by omega
  go_wp2_with fail
  refine (eqI_same w18 RPu RSu zs RPw18.out.is RSw18.out.is).mono ?_
  rintro e w19 ⟨rfl, Cw19⟩
  have Zw19 := Cw19.size
  have Bw19 := Lib.hid (Below.chg Bw18.out Cw19 (by omega) (.inr rfl))
  have RSw19 := Lib.hid (RSw18.out.chg Cw19 (by omega) (.inr (by omega)))
  have RPw19 := Lib.hid (RPw18.out.chg Cw19 (by omega) (.inr (by omega)))
  clear Cw19 Bw18 RSw18 RPw18
  obtain ⟨nz, hnz⟩ : ∃ n, n = zs.length := ⟨_, rfl⟩
  have HNZ := Lib.hid hnz
  have hnz1 : nz ≤ 1048576 := by omega
  clear hnz
  have hge : decide (((1 + 3 * nz : Nat) : Int) < 0) = false := decide_eq_false (by omega)
  have hge2 : decide ((1 : Int) + 3 * (nz : Int) < 0) = false := by simp; omega
  have HMR := Lib.hid (markI_of RPw19.out (by omega) HNZ.out hnz1)
  clear RPw19
  go_wp2_with fail
  refine HMR.out.mono ?_
  rintro e w20 ⟨rfl, hkw20, Cw20⟩
  have RP0 := Lib.hid hkw20
  have Zw20 := Cw20.size
  have Bw20 := Lib.hid (Below.chg Bw19.out Cw20 (by omega) (.inl (by omega)))
  have RSw20 := Lib.hid (RSw19.out.chg Cw20 (by omega) (.inl (by omega)))
  clear Cw20 Bw19 RSw19 HMR hkw20
  have RPw20 := RP0
  clear RP0
  have HD := Lib.hid (heldI_of RPw20.out.is hnz1)
  go_wp2_with fail
  refine HD.out.mono ?_
  rintro e w21 ⟨rfl, Cw21⟩
  have Zw21 := Cw21.size
  have Bw21 := Lib.hid (Below.chg Bw20.out Cw21 (by omega) (.inr rfl))
  have RSw21 := Lib.hid (RSw20.out.chg Cw21 (by omega) (.inr (by omega)))
  have RPw21 := Lib.hid (RPw20.out.chg Cw21 (by omega) (.inr (by omega)))
  clear Cw21 Bw20 RSw20 RPw20 HD
  go_wp2_with fail
  refine (copyM w21 v0 xss (HA0.out.below Bw21.out) hn0).mono ?_
  rintro e w22 ⟨VMu, rfl, hmw22, hbw22⟩
  have Cw22 := Chg.of_below hbw22
  have VM0 := Lib.hid hmw22
  have Zw22 := Cw22.size
  have Bw22 := Lib.hid (Below.chg Bw21.out Cw22 (by omega) (.inr rfl))
  have RSw22 := Lib.hid (RSw21.out.chg Cw22 (by omega) (.inr (by omega)))
  have RPw22 := Lib.hid (RPw21.out.chg Cw22 (by omega) (.inr (by omega)))
  clear Cw22 Bw21 RSw21 RPw21 hmw22 hbw22
  have VMw22 := VM0
  clear VM0
  go_wp2_with fail
  refine (copyI w22 v1 ys (HA1.out.below Bw22.out) hn1).mono ?_
  rintro e w23 ⟨VNu, rfl, hmw23, hbw23⟩
  have Cw23 := Chg.of_below hbw23
  have VN0 := Lib.hid hmw23
  have Zw23 := Cw23.size
  have Bw23 := Lib.hid (Below.chg Bw22.out Cw23 (by omega) (.inr rfl))
  have RSw23 := Lib.hid (RSw22.out.chg Cw23 (by omega) (.inr (by omega)))
  have RPw23 := Lib.hid (RPw22.out.chg Cw23 (by omega) (.inr (by omega)))
  have VMw23 := Lib.hid (VMw22.out.chg Cw23 (by omega) (.inr (by omega)))
  clear Cw23 Bw22 RSw22 RPw22 VMw22 hmw23 hbw23
  have VNw23 := VN0
  clear VN0
  go_wp2_with fail
  refine (copyS w23 v4 rs (HA4.out.below Bw23.out) hn4).mono ?_
  rintro e w24 ⟨VTu, rfl, hmw24, hbw24⟩
  have Cw24 := Chg.of_below hbw24
  have VT0 := Lib.hid hmw24
  have Zw24 := Cw24.size
  have Bw24 := Lib.hid (Below.chg Bw23.out Cw24 (by omega) (.inr rfl))
  have RSw24 := Lib.hid (RSw23.out.chg Cw24 (by omega) (.inr (by omega)))
  have RPw24 := Lib.hid (RPw23.out.chg Cw24 (by omega) (.inr (by omega)))
  have VMw24 := Lib.hid (VMw23.out.chg Cw24 (by omega) (.inr (by omega)))
  have VNw24 := Lib.hid (VNw23.out.chg Cw24 (by omega) (.inr (by omega)))
  clear Cw24 Bw23 RSw23 RPw23 VMw23 VNw23 hmw24 hbw24
  have VTw24 := VT0
  clear VT0
  go_wp2_with fail
  refine (HIM.out w24 VMu VNu VTu VMw24.out.rows VNw24.out.is VTw24.out.strs).mono ?_
  rintro e w25 ⟨RQu, rfl, hmw25, hbw25⟩
  have Cw25 := Chg.of_below hbw25
  have RQ0 := Lib.hid hmw25
  have Zw25 := Cw25.size
  have Bw25 := Lib.hid (Below.chg Bw24.out Cw25 (by omega) (.inr rfl))
  have RSw25 := Lib.hid (RSw24.out.chg Cw25 (by omega) (.inr (by omega)))
  have RPw25 := Lib.hid (RPw24.out.chg Cw25 (by omega) (.inr (by omega)))
  have VMw25 := Lib.hid (VMw24.out.chg Cw25 (by omega) (.inr (by omega)))
  have VNw25 := Lib.hid (VNw24.out.chg Cw25 (by omega) (.inr (by omega)))
  have VTw25 := Lib.hid (VTw24.out.chg Cw25 (by omega) (.inr (by omega)))
  clear Cw25 Bw24 RSw24 RPw24 VMw24 VNw24 VTw24 hmw25 hbw25
  have RQw25 := RQ0
  clear RQ0
  clear VMw25 VNw25 VTw25
  go_wp2_with fail
  refine (eqI_same w25 RQu RSu zs RQw25.out.is RSw25.out.is).mono ?_
  rintro e w26 ⟨rfl, Cw26⟩
  have Zw26 := Cw26.size
  have Bw26 := Lib.hid (Below.chg Bw25.out Cw26 (by omega) (.inr rfl))
  have RSw26 := Lib.hid (RSw25.out.chg Cw26 (by omega) (.inr (by omega)))
  have RPw26 := Lib.hid (RPw25.out.chg Cw26 (by omega) (.inr (by omega)))
  have RQw26 := Lib.hid (RQw25.out.chg Cw26 (by omega) (.inr (by omega)))
  clear Cw26 Bw25 RSw25 RPw25 RQw25
  clear RQw26
  have HD := Lib.hid (heldI_of RPw26.out.is hnz1)
  go_wp2_with fail
  refine HD.out.mono ?_
  rintro e w27 ⟨rfl, Cw27⟩
  have Zw27 := Cw27.size
  have Bw27 := Lib.hid (Below.chg Bw26.out Cw27 (by omega) (.inr rfl))
  have RSw27 := Lib.hid (RSw26.out.chg Cw27 (by omega) (.inr (by omega)))
  have RPw27 := Lib.hid (RPw26.out.chg Cw27 (by omega) (.inr (by omega)))
  clear Cw27 Bw26 RSw26 RPw26 HD
  go_wp2_with fail
  go_ret
  exact ⟨rfl, Bw27.out⟩
set_option maxHeartbeats 4000000 in
theorem exTableUnpin_walk (hI : ITU) (W : World) (v0 : Value) (xss : List (List Int)) (v1 : Value) (ys : List IV) (f : Int) (h0 : Rows2 W v0 xss) (h1 : Is W v1 ys) (hf1 : FitI ys) :
    Calls Try.prog 19 #[v0, v1, .int .i64 f] W fun e w' => e = .returned (.bool true) ∧ Below W.heap.size W w' := by
  have HI := Lib.hid hI
  clear hI
  have HA0 := Lib.hid h0
  have HA1 := Lib.hid h1
  go_enter Try.func19, Try.ntmps19
  go_wp2_with fail
  refine (szIntSS_any W v0 xss 1048576 h0 (by omega) (by omega)).mono ?_
  clear h0
  rintro e w' ⟨r, hr, rfl, rfl⟩
  by_cases hr0 : r < 0
  · go_wp2_with fail
    go_ret
    exact ⟨rfl, Below.refl _ _⟩
  have hr1 : decide (r < 0) = false := by simpa using hr0
  have HZ0 : Hid (0 ≤ r ∧ r + xss.length + total xss = 1048576) := Lib.hid (by rcases hr with h | h <;> omega)
  clear hr hr0
  go_wp2_with fail
  refine (szInfoS_any W v1 ys r h1 hf1 (by have := HZ0.out; omega) (by have := HZ0.out; omega)).mono ?_
  clear h1
  rintro e w0 ⟨s, hs, rfl, hb0⟩
  have Bw0 := Lib.hid hb0
  have Zw0 : W.heap.size ≤ w0.heap.size := hb0.size
  clear hb0
  by_cases hs0 : s < 0
  · go_wp2_with fail
    go_ret
    exact ⟨rfl, Bw0.out⟩
  have hs1 : decide (s < 0) = false := by simpa using hs0
  have HZ1 : Hid (0 ≤ s ∧ s + ys.length + totalI ys = r) := Lib.hid (by rcases hs with h | h <;> omega)
  clear hs hs0
  have hn0 : xss.length + total xss ≤ 1048576 := by have := HZ0.out; omega
  have hn1 : ys.length ≤ 1048576 := by have := HZ0.out; have := HZ1.out; omega
  have HSY : Hid (ShortI ys) := Lib.hid (fun x hx => by have := totalI_mem hx; have := HZ0.out; have := HZ1.out; omega)
  obtain ⟨zs, hzs⟩ : ∃ zs, zs = (tunp xss ys f).1 := ⟨_, rfl⟩
  obtain ⟨cn, hcn⟩ : ∃ cn, cn = (tunp xss ys f).2 := ⟨_, rfl⟩
  have hzl : zs.length ≤ 1048576 := by rw [hzs]; exact Nat.le_trans (tunp_len _ _ _) hn1
  have HV := Lib.hid hzs
  have HVN := Lib.hid hcn
  clear hzs hcn
  have hnn := neI cn
  have HSP : Hid (∀ (w : World) (a b : Value), Rows2 w a xss → Is w b ys → Calls Try.prog 43 #[a, b, .int .i64 f] w (NewVN zs cn w)) := Lib.hid (fun w a b ha hb => by rw [HV.out, HVN.out]; exact sTableUnpin_any w a b xss ys f ha hb HSY.out)
  have HIM : Hid (∀ (w : World) (a b : Value), Rows2 w a xss → Is w b ys → Calls Try.prog 41 #[a, b, .int .i64 f] w (NewVN zs cn w)) := Lib.hid (fun w a b ha hb => by rw [HV.out, HVN.out]; exact HI.out w a b xss ys f ha hb HSY.out)
  clear HI
  go_wp2_with fail
  refine (copyM w0 v0 xss (HA0.out.below Bw0.out) hn0).mono ?_
  rintro e w1 ⟨SMu, rfl, hmw1, hbw1⟩
  have Cw1 := Chg.of_below hbw1
  have SM0 := Lib.hid hmw1
  have Zw1 := Cw1.size
  have Bw1 := Lib.hid (Below.chg Bw0.out Cw1 (by omega) (.inr rfl))
  clear Cw1 Bw0 hmw1 hbw1
  have SMw1 := SM0
  clear SM0
  go_wp2_with fail
  refine (copyI w1 v1 ys (HA1.out.below Bw1.out) hn1).mono ?_
  rintro e w2 ⟨SNu, rfl, hmw2, hbw2⟩
  have Cw2 := Chg.of_below hbw2
  have SN0 := Lib.hid hmw2
  have Zw2 := Cw2.size
  have Bw2 := Lib.hid (Below.chg Bw1.out Cw2 (by omega) (.inr rfl))
  have SMw2 := Lib.hid (SMw1.out.chg Cw2 (by omega) (.inr (by omega)))
  clear Cw2 Bw1 SMw1 hmw2 hbw2
  have SNw2 := SN0
  clear SN0
  go_wp2_with fail
  refine (HSP.out w2 SMu SNu SMw2.out.rows SNw2.out.is).mono ?_
  rintro e w3 ⟨RSu, rfl, hmw3, hbw3⟩
  have Cw3 := Chg.of_below hbw3
  have RS0 := Lib.hid hmw3
  have Zw3 := Cw3.size
  have Bw3 := Lib.hid (Below.chg Bw2.out Cw3 (by omega) (.inr rfl))
  have SMw3 := Lib.hid (SMw2.out.chg Cw3 (by omega) (.inr (by omega)))
  have SNw3 := Lib.hid (SNw2.out.chg Cw3 (by omega) (.inr (by omega)))
  clear Cw3 Bw2 SMw2 SNw2 hmw3 hbw3
  have RSw3 := RS0
  clear RS0
  clear SMw3 SNw3
  go_wp2_with fail
  refine (copyM w3 v0 xss (HA0.out.below Bw3.out) hn0).mono ?_
  rintro e w4 ⟨XMu, rfl, hmw4, hbw4⟩
  have Cw4 := Chg.of_below hbw4
  have XM0 := Lib.hid hmw4
  have Zw4 := Cw4.size
  have Bw4 := Lib.hid (Below.chg Bw3.out Cw4 (by omega) (.inr rfl))
  have RSw4 := Lib.hid (RSw3.out.chg Cw4 (by omega) (.inr (by omega)))
  clear Cw4 Bw3 RSw3 hmw4 hbw4
  have XMw4 := XM0
  clear XM0
  go_wp2_with fail
  refine (copyI w4 v1 ys (HA1.out.below Bw4.out) hn1).mono ?_
  rintro e w5 ⟨XNu, rfl, hmw5, hbw5⟩
  have Cw5 := Chg.of_below hbw5
  have XN0 := Lib.hid hmw5
  have Zw5 := Cw5.size
  have Bw5 := Lib.hid (Below.chg Bw4.out Cw5 (by omega) (.inr rfl))
  have RSw5 := Lib.hid (RSw4.out.chg Cw5 (by omega) (.inr (by omega)))
  have XMw5 := Lib.hid (XMw4.out.chg Cw5 (by omega) (.inr (by omega)))
  clear Cw5 Bw4 RSw4 XMw4 hmw5 hbw5
  have XNw5 := XN0
  clear XN0
  go_wp2_with fail
  refine (HIM.out w5 XMu XNu XMw5.out.rows XNw5.out.is).mono ?_
  rintro e w6 ⟨RPu, rfl, hmw6, hbw6⟩
  have Cw6 := Chg.of_below hbw6
  have RP0 := Lib.hid hmw6
  have Zw6 := Cw6.size
  have Bw6 := Lib.hid (Below.chg Bw5.out Cw6 (by omega) (.inr rfl))
  have RSw6 := Lib.hid (RSw5.out.chg Cw6 (by omega) (.inr (by omega)))
  have XMw6 := Lib.hid (XMw5.out.chg Cw6 (by omega) (.inr (by omega)))
  have XNw6 := Lib.hid (XNw5.out.chg Cw6 (by omega) (.inr (by omega)))
  clear Cw6 Bw5 RSw5 XMw5 XNw5 hmw6 hbw6
  have RPw6 := RP0
  clear RP0
  go_wp2_with fail
  refine (eqI_same w6 RPu RSu zs RPw6.out.is RSw6.out.is).mono ?_
  rintro e w7 ⟨rfl, Cw7⟩
  have Zw7 := Cw7.size
  have Bw7 := Lib.hid (Below.chg Bw6.out Cw7 (by omega) (.inr rfl))
  have RSw7 := Lib.hid (RSw6.out.chg Cw7 (by omega) (.inr (by omega)))
  have XMw7 := Lib.hid (XMw6.out.chg Cw7 (by omega) (.inr (by omega)))
  have XNw7 := Lib.hid (XNw6.out.chg Cw7 (by omega) (.inr (by omega)))
  have RPw7 := Lib.hid (RPw6.out.chg Cw7 (by omega) (.inr (by omega)))
  clear Cw7 Bw6 RSw6 XMw6 XNw6 RPw6
  go_wp2_with fail
  refine (copyM w7 v0 xss (HA0.out.below Bw7.out) hn0).mono ?_
  rintro e w8 ⟨Yu, rfl, hmw8, hbw8⟩
  have Cw8 := Chg.of_below hbw8
  have Y0 := Lib.hid hmw8
  have Zw8 := Cw8.size
  have Bw8 := Lib.hid (Below.chg Bw7.out Cw8 (by omega) (.inr rfl))
  have RSw8 := Lib.hid (RSw7.out.chg Cw8 (by omega) (.inr (by omega)))
  have XMw8 := Lib.hid (XMw7.out.chg Cw8 (by omega) (.inr (by omega)))
  have XNw8 := Lib.hid (XNw7.out.chg Cw8 (by omega) (.inr (by omega)))
  have RPw8 := Lib.hid (RPw7.out.chg Cw8 (by omega) (.inr (by omega)))
  clear Cw8 Bw7 RSw7 XMw7 XNw7 RPw7 hmw8 hbw8
  have Yw8 := Y0
  clear Y0
  go_wp2_with fail
  refine (eq_c w8 XMu Yu xss XMw8.out.rows Yw8.out.rows).mono ?_
  rintro e w9 ⟨rfl, Cw9⟩
  have Zw9 := Cw9.size
  have Bw9 := Lib.hid (Below.chg Bw8.out Cw9 (by omega) (.inr rfl))
  have RSw9 := Lib.hid (RSw8.out.chg Cw9 (by omega) (.inr (by omega)))
  have XMw9 := Lib.hid (XMw8.out.chg Cw9 (by omega) (.inr (by omega)))
  have XNw9 := Lib.hid (XNw8.out.chg Cw9 (by omega) (.inr (by omega)))
  have RPw9 := Lib.hid (RPw8.out.chg Cw9 (by omega) (.inr (by omega)))
  have Yw9 := Lib.hid (Yw8.out.chg Cw9 (by omega) (.inr (by omega)))
  clear Cw9 Bw8 RSw8 XMw8 XNw8 RPw8 Yw8
  clear Yw9
  go_wp2_with fail
  refine (copyI w9 v1 ys (HA1.out.below Bw9.out) hn1).mono ?_
  rintro e w10 ⟨Yu, rfl, hmw10, hbw10⟩
  have Cw10 := Chg.of_below hbw10
  have Y0 := Lib.hid hmw10
  have Zw10 := Cw10.size
  have Bw10 := Lib.hid (Below.chg Bw9.out Cw10 (by omega) (.inr rfl))
  have RSw10 := Lib.hid (RSw9.out.chg Cw10 (by omega) (.inr (by omega)))
  have XMw10 := Lib.hid (XMw9.out.chg Cw10 (by omega) (.inr (by omega)))
  have XNw10 := Lib.hid (XNw9.out.chg Cw10 (by omega) (.inr (by omega)))
  have RPw10 := Lib.hid (RPw9.out.chg Cw10 (by omega) (.inr (by omega)))
  clear Cw10 Bw9 RSw9 XMw9 XNw9 RPw9 hmw10 hbw10
  have Yw10 := Y0
  clear Y0
  go_wp2_with fail
  refine (eqI_same w10 XNu Yu ys XNw10.out.is Yw10.out.is).mono ?_
  rintro e w11 ⟨rfl, Cw11⟩
  have Zw11 := Cw11.size
  have Bw11 := Lib.hid (Below.chg Bw10.out Cw11 (by omega) (.inr rfl))
  have RSw11 := Lib.hid (RSw10.out.chg Cw11 (by omega) (.inr (by omega)))
  have XMw11 := Lib.hid (XMw10.out.chg Cw11 (by omega) (.inr (by omega)))
  have XNw11 := Lib.hid (XNw10.out.chg Cw11 (by omega) (.inr (by omega)))
  have RPw11 := Lib.hid (RPw10.out.chg Cw11 (by omega) (.inr (by omega)))
  have Yw11 := Lib.hid (Yw10.out.chg Cw11 (by omega) (.inr (by omega)))
  clear Cw11 Bw10 RSw10 XMw10 XNw10 RPw10 Yw10
  clear Yw11
  obtain ⟨q1, hq1⟩ : ∃ q1, q1 = 1 + total xss := ⟨_, rfl⟩
  have HQ1 := Lib.hid hq1
  clear hq1
  have HMK := Lib.hid (markM_to XMw11.out hn0 HQ1.out)
  go_wp2_with fail
  refine HMK.out.mono ?_
  rintro e w12 ⟨rfl, Cw12⟩
  clear XMw11
  have Zw12 := Cw12.size
  have Bw12 := Lib.hid (Below.chg Bw11.out Cw12 (by omega) (.inl (by omega)))
  have RSw12 := Lib.hid (RSw11.out.chg Cw12 (by omega) (.inl (by omega)))
  have XNw12 := Lib.hid (XNw11.out.chg Cw12 (by omega) (.inr (by omega)))
  have RPw12 := Lib.hid (RPw11.out.chg Cw12 (by omega) (.inr (by omega)))
  clear Cw12 Bw11 RSw11 XNw11 RPw11 HMK
  obtain ⟨q2, hq2⟩ : ∃ q2, q2 = q1 + 3 * ys.length := ⟨_, rfl⟩
  have HQ2 := Lib.hid hq2
  clear hq2
  have HMK := Lib.hid (markI_to XNw12.out (by omega) (by have h1 := HZ0.out; have h2 := HZ1.out; have h3 := HQ1.out; omega) (by have h1 := HZ0.out; have h2 := HZ1.out; have h3 := HQ1.out; omega) HQ2.out)
  go_wp2_with fail
  refine HMK.out.mono ?_
  rintro e w13 ⟨rfl, Cw13⟩
  clear XNw12
  have Zw13 := Cw13.size
  have Bw13 := Lib.hid (Below.chg Bw12.out Cw13 (by omega) (.inl (by omega)))
  have RSw13 := Lib.hid (RSw12.out.chg Cw13 (by omega) (.inl (by omega)))
  have RPw13 := Lib.hid (RPw12.out.chg Cw13 (by omega) (.inr (by omega)))
  clear Cw13 Bw12 RSw12 RPw12 HMK
  have hlast : decide ((q2 : Int) < 0) = false := decide_eq_false (by omega)
  have hlast2 : ¬ (q2 : Int) < 0 := by omega
  go_wp2_with fail
  refine (eqI_same w13 RPu RSu zs RPw13.out.is RSw13.out.is).mono ?_
  rintro e w14 ⟨rfl, Cw14⟩
  have Zw14 := Cw14.size
  have Bw14 := Lib.hid (Below.chg Bw13.out Cw14 (by omega) (.inr rfl))
  have RSw14 := Lib.hid (RSw13.out.chg Cw14 (by omega) (.inr (by omega)))
  have RPw14 := Lib.hid (RPw13.out.chg Cw14 (by omega) (.inr (by omega)))
  clear Cw14 Bw13 RSw13 RPw13
  obtain ⟨nz, hnz⟩ : ∃ n, n = zs.length := ⟨_, rfl⟩
  have HNZ := Lib.hid hnz
  have hnz1 : nz ≤ 1048576 := by omega
  clear hnz
  have hge : decide (((1 + 3 * nz : Nat) : Int) < 0) = false := decide_eq_false (by omega)
  have hge2 : decide ((1 : Int) + 3 * (nz : Int) < 0) = false := by simp; omega
  have HMR := Lib.hid (markI_of RPw14.out (by omega) HNZ.out hnz1)
  clear RPw14
  go_wp2_with fail
  refine HMR.out.mono ?_
  rintro e w15 ⟨rfl, hkw15, Cw15⟩
  have RP0 := Lib.hid hkw15
  have Zw15 := Cw15.size
  have Bw15 := Lib.hid (Below.chg Bw14.out Cw15 (by omega) (.inl (by omega)))
  have RSw15 := Lib.hid (RSw14.out.chg Cw15 (by omega) (.inl (by omega)))
  clear Cw15 Bw14 RSw14 HMR hkw15
  have RPw15 := RP0
  clear RP0
  have HD := Lib.hid (heldI_of RPw15.out.is hnz1)
  go_wp2_with fail
  refine HD.out.mono ?_
  rintro e w16 ⟨rfl, Cw16⟩
  have Zw16 := Cw16.size
  have Bw16 := Lib.hid (Below.chg Bw15.out Cw16 (by omega) (.inr rfl))
  have RSw16 := Lib.hid (RSw15.out.chg Cw16 (by omega) (.inr (by omega)))
  have RPw16 := Lib.hid (RPw15.out.chg Cw16 (by omega) (.inr (by omega)))
  clear Cw16 Bw15 RSw15 RPw15 HD
  go_wp2_with fail
  refine (copyM w16 v0 xss (HA0.out.below Bw16.out) hn0).mono ?_
  rintro e w17 ⟨VMu, rfl, hmw17, hbw17⟩
  have Cw17 := Chg.of_below hbw17
  have VM0 := Lib.hid hmw17
  have Zw17 := Cw17.size
  have Bw17 := Lib.hid (Below.chg Bw16.out Cw17 (by omega) (.inr rfl))
  have RSw17 := Lib.hid (RSw16.out.chg Cw17 (by omega) (.inr (by omega)))
  have RPw17 := Lib.hid (RPw16.out.chg Cw17 (by omega) (.inr (by omega)))
  clear Cw17 Bw16 RSw16 RPw16 hmw17 hbw17
  have VMw17 := VM0
  clear VM0
  go_wp2_with fail
  refine (copyI w17 v1 ys (HA1.out.below Bw17.out) hn1).mono ?_
  rintro e w18 ⟨VNu, rfl, hmw18, hbw18⟩
  have Cw18 := Chg.of_below hbw18
  have VN0 := Lib.hid hmw18
  have Zw18 := Cw18.size
  have Bw18 := Lib.hid (Below.chg Bw17.out Cw18 (by omega) (.inr rfl))
  have RSw18 := Lib.hid (RSw17.out.chg Cw18 (by omega) (.inr (by omega)))
  have RPw18 := Lib.hid (RPw17.out.chg Cw18 (by omega) (.inr (by omega)))
  have VMw18 := Lib.hid (VMw17.out.chg Cw18 (by omega) (.inr (by omega)))
  clear Cw18 Bw17 RSw17 RPw17 VMw17 hmw18 hbw18
  have VNw18 := VN0
  clear VN0
  go_wp2_with fail
  refine (HIM.out w18 VMu VNu VMw18.out.rows VNw18.out.is).mono ?_
  rintro e w19 ⟨RQu, rfl, hmw19, hbw19⟩
  have Cw19 := Chg.of_below hbw19
  have RQ0 := Lib.hid hmw19
  have Zw19 := Cw19.size
  have Bw19 := Lib.hid (Below.chg Bw18.out Cw19 (by omega) (.inr rfl))
  have RSw19 := Lib.hid (RSw18.out.chg Cw19 (by omega) (.inr (by omega)))
  have RPw19 := Lib.hid (RPw18.out.chg Cw19 (by omega) (.inr (by omega)))
  have VMw19 := Lib.hid (VMw18.out.chg Cw19 (by omega) (.inr (by omega)))
  have VNw19 := Lib.hid (VNw18.out.chg Cw19 (by omega) (.inr (by omega)))
  clear Cw19 Bw18 RSw18 RPw18 VMw18 VNw18 hmw19 hbw19
  have RQw19 := RQ0
  clear RQ0
  clear VMw19 VNw19
  go_wp2_with fail
  refine (eqI_same w19 RQu RSu zs RQw19.out.is RSw19.out.is).mono ?_
  rintro e w20 ⟨rfl, Cw20⟩
  have Zw20 := Cw20.size
  have Bw20 := Lib.hid (Below.chg Bw19.out Cw20 (by omega) (.inr rfl))
  have RSw20 := Lib.hid (RSw19.out.chg Cw20 (by omega) (.inr (by omega)))
  have RPw20 := Lib.hid (RPw19.out.chg Cw20 (by omega) (.inr (by omega)))
  have RQw20 := Lib.hid (RQw19.out.chg Cw20 (by omega) (.inr (by omega)))
  clear Cw20 Bw19 RSw19 RPw19 RQw19
  clear RQw20
  have HD := Lib.hid (heldI_of RPw20.out.is hnz1)
  go_wp2_with fail
  refine HD.out.mono ?_
  rintro e w21 ⟨rfl, Cw21⟩
  have Zw21 := Cw21.size
  have Bw21 := Lib.hid (Below.chg Bw20.out Cw21 (by omega) (.inr rfl))
  have RSw21 := Lib.hid (RSw20.out.chg Cw21 (by omega) (.inr (by omega)))
  have RPw21 := Lib.hid (RPw20.out.chg Cw21 (by omega) (.inr (by omega)))
  clear Cw21 Bw20 RSw20 RPw20 HD
  go_wp2_with fail
  go_ret
  exact ⟨rfl, Bw21.out⟩
end Go.Proofs.Yticnfekjbknomaa
