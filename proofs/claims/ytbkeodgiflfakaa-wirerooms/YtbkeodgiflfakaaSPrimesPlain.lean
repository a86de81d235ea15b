/-
  Plain mathematics for layer 3: the first primes, and roots, bit by bit. No condition.
-/
import Derived.Test.YtbkeodgiflfakaaSPlain
namespace Go.Proofs.Ytbkeodgiflfakaa.S
set_option linter.unusedVariables false
set_option maxRecDepth 20000

/-- Does none of the list divide c, up to the first whose square is greater? -/
def sieve : List Nat → Nat → Bool
  | [], _ => true
  | p :: l, c => if c < p * p then true else if c % p = 0 then false else sieve l c
/-- What was found when k + 2 is looked at. -/
def prs : Nat → List Nat
  | 0 => []
  | k + 1 => if sieve (prs k) (k + 2) then prs k ++ [k + 2] else prs k

theorem prs_mem : ∀ (k x : Nat), x ∈ prs k → 2 ≤ x ∧ x ≤ k + 1
  | 0, x, h => by simp [prs] at h
  | k + 1, x, h => by
    unfold prs at h
    split at h
    · rcases List.mem_append.1 h with h | h
      · have := prs_mem k x h; omega
      · simp at h; omega
    · have := prs_mem k x h; omega

/-- The greatest r below 2^k whose fit holds, bit by bit. -/
def rootN (fit : Nat → Bool) : Nat → Nat
  | 0 => 0
  | k + 1 => let r := rootN fit k; if fit (r + 2 ^ (35 - k)) then r + 2 ^ (35 - k) else r
def fitS (p r : Nat) : Bool := decide (r * r ≤ p * 18446744073709551616)
def fitC (p r : Nat) : Bool := decide (r * r * r ≤ p * 79228162514264337593543950336)

theorem rootN_lt (fit : Nat → Bool) : ∀ k, k ≤ 36 → rootN fit k % 2 ^ (36 - k) = 0 ∧ rootN fit k ≤ 68719476736 - 2 ^ (36 - k)
  | 0, _ => by simp [rootN]
  | k + 1, h => by
    obtain ⟨h1, h2⟩ := rootN_lt fit k (by omega)
    have e : (2 : Nat) ^ (36 - k) = 2 ^ (35 - k) * 2 := by rw [← Nat.pow_succ]; congr 1; omega
    have e' : 36 - (k + 1) = 35 - k := by omega
    have hp : 0 < 2 ^ (35 - k) := Nat.pow_pos (by decide)
    rw [e] at h1 h2
    have h3 : rootN fit k % 2 ^ (35 - k) = 0 := Nat.mod_eq_zero_of_dvd (Nat.dvd_trans (Nat.dvd_mul_right _ 2) (Nat.dvd_of_mod_eq_zero h1))
    have hle : 2 ^ (35 - k) * 2 ≤ 68719476736 := by rw [← e]; exact Nat.pow_le_pow_right (n := 2) (by decide) (show 36 - k ≤ 36 by omega)
    rw [e']
    unfold rootN
    dsimp only
    split
    · exact ⟨by rw [Nat.add_mod, h3]; simp, by omega⟩
    · exact ⟨h3, by omega⟩

theorem primes64 : prs 310 = [2, 3, 5, 7, 11, 13, 17, 19, 23, 29, 31, 37, 41, 43, 47, 53, 59, 61, 67, 71, 73, 79, 83, 89, 97, 101, 103, 107, 109, 113, 127, 131, 137, 139, 149, 151, 157, 163, 167, 173, 179, 181, 191, 193, 197, 199, 211, 223, 227, 229, 233, 239, 241, 251, 257, 263, 269, 271, 277, 281, 283, 293, 307, 311] := by decide +kernel
theorem primes8 : prs 18 = [2, 3, 5, 7, 11, 13, 17, 19] := by decide +kernel
theorem before64 : ∀ k : Fin 310, (prs k.val).length < 64 := by decide +kernel
theorem before8 : ∀ k : Fin 18, (prs k.val).length < 8 := by decide +kernel
theorem keys_is : (prs 310).map (fun p => rootN (fitC p) 36 % 4294967296) = keys := by decide +kernel
theorem start_is : (prs 18).map (fun p => rootN (fitS p) 36 % 4294967296) = start := by decide +kernel

end Go.Proofs.Ytbkeodgiflfakaa.S
