/- The walk of 'much', and what it says of lists of parts. -/
import Derived.Test.YtfjjpepnadcaaaaJoin
namespace Go.Proofs.Ytfjjpepnadcaaaa
set_option linter.unusedVariables false
open Go.RowKit

def MuchPost (L : List (List UInt8)) (w : World) (e : Ending) (w' : World) : Prop :=
  ∃ b : Bool, e = .returned (.bool b) ∧ (b = false → L.length ≤ 3000 ∧ L.flatten.length ≤ 3000) ∧ w = w'
set_option maxRecDepth 100000 in
set_option maxHeartbeats 1000000 in
theorem much_any (A : Option Addr) (n c B : Nat) (L : List (List UInt8)) (w : World) (hL : RS w B A n c L) (hn : n ≤ 9223372036854775807) :
    Calls Try.prog 15 #[.slice A n c] w (MuchPost L w) := by
  go_enter Try.func15, Try.ntmps15
  go_wp2_with (fail)
  go_loop [3, 4] (fun a i => ∃ k m : Nat, k ≤ n ∧ k ≤ 3001 ∧ i = .int .i64 k ∧ a = .int .i64 m ∧ m ≤ 3000 ∧ Hid (m = (flat L k).length)) (fun _ i => n - (intOf i).toNat)
  case atStart => exact ⟨0, 0, Nat.zero_le _, Nat.zero_le _, rfl, rfl, Nat.zero_le _, Lib.hid rfl⟩
  case round =>
    obtain ⟨k, m, hk, hk2, rfl, rfl, hm, hmf⟩ := hrel
    by_cases hlt : k < n
    · by_cases h3 : k ≤ 3000
      · obtain ⟨b, o, l, Aj, nj, cj, rfl, hb, hx, hc, hr⟩ := hL.at' hlt
        have hs := flat_step hx
        have hrl := hr.len
        have HS := Lib.hid hs
        have HX := Lib.hid hx
        have HR := Lib.hid hrl
        clear hs hx hrl
        by_cases hj : nj ≤ 3001
        · by_cases hj2 : m + nj ≤ 3000
          · go_wp2_with (fail)
            go_round
            case rel => exact ⟨k + 1, m + nj, by omega, by omega, by go_num, by go_num, hj2, Lib.hid (by rw [HS.out, List.length_append, HR.out, hmf.out])⟩
            case measure => simp [intOf]; omega
          · go_wp2_with (fail)
            go_ret
            exact ⟨true, rfl, (fun h => by cases h), rfl⟩
        · go_wp2_with (fail)
          go_ret
          exact ⟨true, rfl, (fun h => by cases h), rfl⟩
      · have hn3 : decide ((3000 : Int) < (n : Int)) = true := by simp; omega
        go_wp2_with (fail)
        go_ret
        exact ⟨true, rfl, (fun h => by cases h), rfl⟩
    · obtain rfl : k = n := by omega
      by_cases h3 : k ≤ 3000
      · have hn3 : decide ((3000 : Int) < (k : Int)) = false := by simp; omega
        have hfin : L.length ≤ 3000 ∧ L.flatten.length ≤ 3000 := by
          have e := flat_all hL.len
          have h1 := hmf.out
          rw [e] at h1
          exact ⟨by rw [hL.len]; exact h3, by omega⟩
        have HFN := Lib.hid hfin
        clear hfin
        go_wp2_with (fail)
        go_ret
        exact ⟨false, rfl, fun _ => HFN.out, rfl⟩
      · have hn3 : decide ((3000 : Int) < (k : Int)) = true := by simp; omega
        go_wp2_with (fail)
        go_ret
        exact ⟨true, rfl, (fun h => by cases h), rfl⟩
end Go.Proofs.Ytfjjpepnadcaaaa
