/- What the draws of numbers of sets give; nothing that was there before the call changes. -/
import Derived.Test.YtijgpimjmphaoaaBSpec4
import Derived.Test.YtijgpimjmphaoaaDraws
import Derived.Deep.RegionHeld
namespace Go.Proofs.Ytijgpimjmphaoaa
open Go.ChangeShapes Go.WideShapes Go.ChangeAt Go.RowKit
set_option linter.unusedVariables false

def setP (n : Int) : Prop := -1 ≤ n ∧ n ≤ 4096
set_option maxRecDepth 100000 in
theorem set_any (w0 w : World) (B k : Nat) (hR : Rdr w0 w B k) (hk : k ≤ 900000) :
    Calls Try.prog 38 #[.pointer (some ⟨B, 0, none⟩)] w (Drew setP w0 B (k + 3) w) := by
  go_enter Try.func38, Try.ntmps38
  go_wp2_with fail
  refine (pick_any w0 _ B k _ hR (by omega) (by omega)).mono ?_
  rintro e w1 ⟨m, h0, h1, rfl, hR1, hO1⟩
  by_cases hm : m = 0
  · subst hm
    have hB1 := rdr_lt hR1
    go_wp2_with fail
    refine (pick_any w0 _ B _ _ (rdr_alloc hR1 _) (by omega) (by omega)).mono ?_
    rintro e w2 ⟨m2, h20, h21, rfl, hR2, hO2⟩
    have hc : ∀ o, w2.cell? ⟨w1.heap.size, o, none⟩ = (w1.alloc (.cells #[.int .i64 (-1), .int .i64 0, .int .i64 4095, .int .i64 4096] 3)).cell? ⟨w1.heap.size, o, none⟩ := fun o => hO2.cell (by omega)
    have hg := gtrans hO1.grown (gtrans (galloc _ _ _) hO2.grown)
    have hmm : m2 = 0 ∨ m2 = 1 ∨ m2 = 2 ∨ m2 = 3 := by omega
    rcases hmm with rfl | rfl | rfl | rfl
    · have hc0 : w2.cell? ⟨w1.heap.size, 0, none⟩ = some (.int .i64 (-1)) := (hc 0).trans (new_cell rfl)
      clear hc
      go_wp2_with fail
      go_ret
      exact drew_mk (by unfold setP; omega) hR2 (by omega) hg
    · have hc1 : w2.cell? ⟨w1.heap.size, 1, none⟩ = some (.int .i64 0) := (hc 1).trans (new_cell rfl)
      clear hc
      go_wp2_with fail
      go_ret
      exact drew_mk (by unfold setP; omega) hR2 (by omega) hg
    · have hc2 : w2.cell? ⟨w1.heap.size, 2, none⟩ = some (.int .i64 4095) := (hc 2).trans (new_cell rfl)
      clear hc
      go_wp2_with fail
      go_ret
      exact drew_mk (by unfold setP; omega) hR2 (by omega) hg
    · have hc3 : w2.cell? ⟨w1.heap.size, 3, none⟩ = some (.int .i64 4096) := (hc 3).trans (new_cell rfl)
      clear hc
      go_wp2_with fail
      go_ret
      exact drew_mk (by unfold setP; omega) hR2 (by omega) hg
  · have hm' : (m == 0) = false := by simpa using hm
    go_wp2_with fail
    refine (pick_any w0 _ B _ _ hR1 (by omega) (by omega)).mono ?_
    rintro e w2 ⟨m2, h20, h21, rfl, hR2, hO2⟩
    have hw1 : IntKind.i64.wrap (m2 * 16) = m2 * 16 := by rw [IntKind.wrap_i64]; omega
    go_wp2_with fail
    refine (pick_any w0 _ B _ _ hR2 (by omega) (by omega)).mono ?_
    rintro e w3 ⟨m3, h30, h31, rfl, hR3, hO3⟩
    have hw2 : IntKind.i64.wrap (m2 * 16 + m3) = m2 * 16 + m3 := by rw [IntKind.wrap_i64]; omega
    go_wp2_with fail
    go_ret
    exact drew_mk (by unfold setP; omega) hR3 (by omega) (gtrans hO1.grown (gtrans hO2.grown hO3.grown))
def DrewN (W : World) (e : Ending) (w' : World) : Prop := ∃ n, setP n ∧ e = .returned (.int .i64 n) ∧ Below W.heap.size W w'
def DrewNN (W : World) (e : Ending) (w' : World) : Prop := ∃ n m, (-1 ≤ n ∧ n ≤ 4096) ∧ (-1 ≤ m ∧ m ≤ 4096) ∧ e = .returned (.tuple #[.int .i64 n, .int .i64 m]) ∧ Below W.heap.size W w'
theorem drawBitsList_any (W : World) (a : Option Addr) (len cap : Nat) (zs : List Int) (hr : Row .u8 W a len cap zs) :
    Calls Try.prog 21 #[.slice a len cap] W (DrewN W) := by
  go_enter Try.func21, Try.ntmps21
  go_wp2_with fail
  refine (open_any W a len cap zs hr).mono ?_
  clear hr
  rintro e w1 ⟨rfl, hR1⟩
  go_wp2_with fail
  refine (set_any W _ _ _ hR1 (by omega)).mono ?_
  rintro e w2 ⟨n, hn, rfl, hR2, hg⟩
  have HB := Lib.hid (rdr_below hR2)
  clear hR2 hR1 hg
  go_wp2_with fail
  go_ret
  exact ⟨n, hn, rfl, HB.out⟩
theorem drawBitsHas_any (W : World) (a : Option Addr) (len cap : Nat) (zs : List Int) (hr : Row .u8 W a len cap zs) :
    Calls Try.prog 24 #[.slice a len cap] W (DrewNN W) := by
  go_enter Try.func24, Try.ntmps24
  go_wp2_with fail
  refine (open_any W a len cap zs hr).mono ?_
  clear hr
  rintro e w1 ⟨rfl, hR1⟩
  go_wp2_with fail
  refine (set_any W _ _ _ hR1 (by omega)).mono ?_
  rintro e w2 ⟨n, hn, rfl, hR2, hg⟩
  clear hR1 hg
  go_wp2_with fail
  refine (pick_any W _ _ _ _ hR2 (by omega) (by omega)).mono ?_
  rintro e w3 ⟨m, h0, h1, rfl, hR3, hO3⟩
  have HB := Lib.hid (rdr_below hR3)
  have hw : IntKind.i64.wrap (m - 1) = m - 1 := by rw [IntKind.wrap_i64]; omega
  clear hR2 hR3 hO3
  go_wp2_with fail
  go_ret2
  exact ⟨n, m - 1, hn, by omega, rfl, HB.out⟩
theorem drawBitsJoin_any (W : World) (a : Option Addr) (len cap : Nat) (zs : List Int) (hr : Row .u8 W a len cap zs) :
    Calls Try.prog 27 #[.slice a len cap] W (DrewNN W) := by
  go_enter Try.func27, Try.ntmps27
  go_wp2_with fail
  refine (open_any W a len cap zs hr).mono ?_
  clear hr
  rintro e w1 ⟨rfl, hR1⟩
  go_wp2_with fail
  refine (set_any W _ _ _ hR1 (by omega)).mono ?_
  rintro e w2 ⟨n, hn, rfl, hR2, hg⟩
  clear hR1 hg
  go_wp2_with fail
  refine (set_any W _ _ _ hR2 (by omega)).mono ?_
  rintro e w3 ⟨m, hm, rfl, hR3, hg⟩
  have HB := Lib.hid (rdr_below hR3)
  clear hR2 hR3 hg
  go_wp2_with fail
  go_ret2
  exact ⟨n, m, hn, hm, rfl, HB.out⟩
theorem drawBitsWithout_any (W : World) (a : Option Addr) (len cap : Nat) (zs : List Int) (hr : Row .u8 W a len cap zs) :
    Calls Try.prog 30 #[.slice a len cap] W (DrewNN W) := by
  go_enter Try.func30, Try.ntmps30
  go_wp2_with fail
  refine (drawBitsJoin_any W a len cap zs hr).mono ?_
  clear hr
  rintro e w1 ⟨n, m, hn, hm, rfl, hb⟩
  have HB := Lib.hid hb
  clear hb
  go_wp2_with fail
  go_ret2
  exact ⟨n, m, hn, hm, rfl, HB.out⟩
end Go.Proofs.Ytijgpimjmphaoaa
