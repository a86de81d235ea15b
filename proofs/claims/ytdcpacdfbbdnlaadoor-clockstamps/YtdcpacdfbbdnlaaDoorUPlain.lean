/-
  Plain mathematics for layer 14: a clock as three numbers. No condition.
-/
import Derived.WalkKit
namespace Go.Proofs.YtdcpacdfbbdnlaaDoor.T14

def cap (t : Nat) : Nat := min t 60000
def far (a b : Nat) : Nat := max a b - min a b
/-- Behind one more time: how many, the smoothed time, the smoothed deviation. -/
def S2 (n S t : Nat) : Nat := if n = 0 then 8 * cap t else S - S / 8 + cap t
def V2 (n S V t : Nat) : Nat := if n = 0 then 2 * cap t else V - V / 4 + far (cap t) (S / 8)
/-- How long to wait. -/
def wait (n S V : Nat) : Nat := if n = 0 then 1000 else min (max (S / 8 + V) 50) 60000
/-- What a clock may be. -/
structure Ok (n S V : Nat) : Prop where
  s : S ≤ 480000
  v : V ≤ 240000
  z : S = 0 → V = 0
  n0 : n = 0 → S = 0
theorem Ok.zero : Ok 0 0 0 := ⟨by omega, by omega, fun _ => rfl, fun _ => rfl⟩
theorem cap_le (t : Nat) : cap t ≤ 60000 := by unfold cap; omega
theorem Ok.told {n S V : Nat} (h : Ok n S V) (t : Nat) : Ok (n + 1) (S2 n S t) (V2 n S V t) := by
  have hs := h.s
  have hv := h.v
  have hz := h.z
  have hc := cap_le t
  unfold S2 V2 far
  by_cases h0 : n = 0
  · rw [if_pos h0, if_pos h0]; exact ⟨by omega, by omega, fun _ => by omega, fun _ => by omega⟩
  · rw [if_neg h0, if_neg h0]
    exact ⟨by omega, by omega, fun hh => by
      have e1 : S = 0 := by omega
      have e2 := hz e1
      subst e1; subst e2
      have : cap t = 0 := by omega
      rw [this]; omega, fun _ => by omega⟩
theorem wait_range (n S V : Nat) : 50 ≤ wait n S V ∧ wait n S V ≤ 60000 := by
  unfold wait; split <;> omega

end Go.Proofs.YtdcpacdfbbdnlaaDoor.T14
