/-
  Layer 15: instructions as texts, and back; the document's.
-/
import Derived.Test.YtglfbmgnndebiaaVRule
import Derived.Test.YtglfbmgnndebiaaGet
import Derived.Test.YtglfbmgnndebiaaCut
import Derived.Test.YtglfbmgnndebiaaRefPut
import Derived.Test.YtglfbmgnndebiaaRefGet
import Derived.Deep.Cut
import Derived.Deep.CutBlock
namespace Go.Proofs.Ytglfbmgnndebiaa
open Go.RowKit
set_option linter.unusedVariables false
set_option linter.unusedSimpArgs false
set_option maxRecDepth 20000

theorem infoRI : (Try.prog.info? 30).map (·.size) = some 5 := by kernel_rfl
namespace S15
theorem foldl_from (l : List UInt8) (x : Nat) : l.foldl (fun n b => n * 256 + b.toNat) x = x * 256 ^ l.length + W.getN l := by
  induction l generalizing x with
  | nil => simp [W.getN]
  | cons b l ih =>
    have h1 := ih (x * 256 + b.toNat)
    have h2 := ih b.toNat
    simp only [W.getN, List.foldl_cons, List.length_cons, Nat.zero_mul, Nat.zero_add] at *
    rw [h1, h2, Nat.pow_succ, Nat.add_mul, Nat.mul_assoc, Nat.mul_comm 256, Nat.add_assoc]
theorem getN_cons (b : UInt8) (l : List UInt8) : W.getN (b :: l) = b.toNat * 256 ^ l.length + W.getN l := by
  have := foldl_from l b.toNat
  simp only [W.getN, List.foldl_cons, Nat.zero_mul, Nat.zero_add] at *
  exact this
theorem putL_mod (a b : Nat) : ∀ k, a % 256 ^ k = b % 256 ^ k → W.putL a k = W.putL b k
  | 0, _ => rfl
  | k + 1, h => by
    have hM : 0 < 256 ^ k := Nat.pow_pos (by decide)
    rw [Nat.mod_pow_succ, Nat.mod_pow_succ] at h
    have ha := Nat.mod_lt a hM
    have hb := Nat.mod_lt b hM
    have h1 : a / 256 ^ k % 256 = b / 256 ^ k % 256 := by
      have e1 := congrArg (· / 256 ^ k) h
      simp only [Nat.add_mul_div_left _ _ hM, Nat.div_eq_of_lt ha, Nat.div_eq_of_lt hb, Nat.zero_add] at e1
      exact e1
    have h2 : a % 256 ^ k = b % 256 ^ k := by rw [h1] at h; omega
    simp only [W.putL, putL_mod a b k h2]
    congr 1
    rw [← UInt8.toNat_inj]; simpa using h1
theorem put_get : ∀ l : List UInt8, W.putL (W.getN l) l.length = l
  | [] => rfl
  | b :: l => by
    have hl := W.getN_lt l
    have hM : 0 < 256 ^ l.length := Nat.pow_pos (by decide)
    rw [getN_cons, List.length_cons]
    simp only [W.putL]
    congr 1
    · rw [Nat.mul_comm, Nat.mul_add_div hM, Nat.div_eq_of_lt hl, Nat.add_zero]; simp
    · rw [putL_mod _ (W.getN l) l.length (by rw [Nat.mul_comm, Nat.mul_add_mod]), put_get l]
theorem get_put (a : Nat) : ∀ k, W.getN (W.putL a k) = a % 256 ^ k
  | 0 => by simp [W.putL, W.getN, Nat.mod_one]
  | k + 1 => by
    have h : W.getN (W.putL a (k + 1)) = (UInt8.ofNat (a / 256 ^ k)).toNat * 256 ^ k + W.getN (W.putL a k) := by
      simp only [W.putL]; rw [getN_cons, W.putL_length]
    rw [h, get_put a k, Nat.mod_pow_succ]
    simp
    rw [Nat.mul_comm, Nat.add_comm]
/-- Eight bytes of a number. -/
def P8 (n : Nat) : ByteArray := ⟨(W.putL n 8).toArray⟩
theorem P8_list (n : Nat) : (P8 n).data.toList = W.putL n 8 := by simp [P8]
theorem P8_size (n : Nat) : (P8 n).size = 8 := by show (W.putL n 8).toArray.size = 8; simp [W.putL_length]
theorem list_size (s : ByteArray) : s.data.toList.length = s.size := by simp
theorem eqOf {s t : ByteArray} (h : s.data.toList = t.data.toList) : s = t := by apply ByteArray.ext; apply Array.ext'; exact h
theorem appL (s t : ByteArray) : (s ++ t).data.toList = s.data.toList ++ t.data.toList := by simp [ByteArray.data_append]
/-- An instruction's text. -/
def TX (o n a t : Nat) (d : ByteArray) : ByteArray := P8 o ++ P8 n ++ P8 a ++ P8 t ++ d
theorem TX_list (o n a t : Nat) (d : ByteArray) : (TX o n a t d).data.toList = W.putL o 8 ++ (W.putL n 8 ++ (W.putL a 8 ++ (W.putL t 8 ++ d.data.toList))) := by
  unfold TX; rw [appL, appL, appL, appL, P8_list, P8_list, P8_list, P8_list]; simp [List.append_assoc]
theorem TX_size (o n a t : Nat) (d : ByteArray) : (TX o n a t d).size = 32 + d.size := by rw [← list_size, TX_list]; simp [W.putL_length]; omega
/-- What stands in a text. -/
def p0 (s : ByteArray) : List UInt8 := s.data.toList.take 8
def p1 (s : ByteArray) : List UInt8 := (s.data.toList.drop 8).take 8
def p2 (s : ByteArray) : List UInt8 := ((s.data.toList.drop 8).drop 8).take 8
def p3 (s : ByteArray) : List UInt8 := (((s.data.toList.drop 8).drop 8).drop 8).take 8
def p4 (s : ByteArray) : List UInt8 := (((s.data.toList.drop 8).drop 8).drop 8).drop 8
theorem p_len {s : ByteArray} (h : 32 ≤ s.size) : (p0 s).length = 8 ∧ (p1 s).length = 8 ∧ (p2 s).length = 8 ∧ (p3 s).length = 8 := by
  have hl := list_size s
  unfold p0 p1 p2 p3
  simp only [List.length_take, List.length_drop]
  omega
theorem getN8 {l : List UInt8} (h : l.length = 8) : W.getN l ≤ 18446744073709551615 := by have := W.getN_lt l; rw [h] at this; omega
theorem TX_of {s : ByteArray} (h : 32 ≤ s.size) : TX (W.getN (p0 s)) (W.getN (p1 s)) (W.getN (p2 s)) (W.getN (p3 s)) ⟨(p4 s).toArray⟩ = s := by
  obtain ⟨h0, h1, h2, h3⟩ := p_len h
  apply eqOf
  rw [TX_list]
  have e0 := put_get (p0 s); rw [h0] at e0
  have e1 := put_get (p1 s); rw [h1] at e1
  have e2 := put_get (p2 s); rw [h2] at e2
  have e3 := put_get (p3 s); rw [h3] at e3
  rw [e0, e1, e2, e3]
  show p0 s ++ (p1 s ++ (p2 s ++ (p3 s ++ p4 s))) = _
  unfold p0 p1 p2 p3 p4
  rw [List.take_append_drop, List.take_append_drop, List.take_append_drop, List.take_append_drop]
theorem g8 (x : Nat) (h : x ≤ 18446744073709551615) : W.getN (W.putL x 8) = x := by rw [get_put, Nat.mod_eq_of_lt (by omega)]
theorem of_TX {o n a t : Nat} {d : ByteArray} (ho : o ≤ 18446744073709551615) (hn : n ≤ 18446744073709551615) (ha : a ≤ 18446744073709551615) (ht : t ≤ 18446744073709551615) :
    W.getN (p0 (TX o n a t d)) = o ∧ W.getN (p1 (TX o n a t d)) = n ∧ W.getN (p2 (TX o n a t d)) = a ∧ W.getN (p3 (TX o n a t d)) = t ∧ (⟨(p4 (TX o n a t d)).toArray⟩ : ByteArray) = d := by
  have tk : ∀ (x : Nat) (r : List UInt8), (W.putL x 8 ++ r).take 8 = W.putL x 8 := fun x r => by rw [List.take_append_of_le_length (by rw [W.putL_length]; exact Nat.le_refl _), List.take_of_length_le (by rw [W.putL_length]; exact Nat.le_refl _)]
  have dr : ∀ (x : Nat) (r : List UInt8), (W.putL x 8 ++ r).drop 8 = r := fun x r => by rw [List.drop_append, List.drop_of_length_le (by rw [W.putL_length]; exact Nat.le_refl _), W.putL_length]; rfl
  unfold p0 p1 p2 p3 p4
  rw [TX_list, dr, dr, dr, dr, tk, tk, tk, tk, g8 o ho, g8 n hn, g8 a ha, g8 t ht]
  exact ⟨rfl, rfl, rfl, rfl, rfl⟩
theorem cutE_yes {s : List UInt8} {z : Nat} {zs : List Int} {r : List (List UInt8)} (hl : z ≤ s.length) (h : W.cutE (s.drop z) zs = (r, 0)) : W.cutE s ((z : Int) :: zs) = (s.take z :: r, 0) := by
  rw [W.cutE, if_neg (by omega), if_neg (by omega), Int.toNat_natCast, h]; rfl
theorem cutE_bad {s : List UInt8} {z : Nat} {zs : List Int} {e : Int} (hl : z ≤ s.length) (h : (W.cutE (s.drop z) zs).2 = e) (he : e ≠ 0) : (W.cutE s ((z : Int) :: zs)).2 = e := by
  rw [W.cutE, if_neg (by omega), if_neg (by omega), Int.toNat_natCast, if_neg (by rw [h]; exact he)]; exact h
theorem cutE_short {s : List UInt8} {z : Nat} {zs : List Int} (hl : s.length < z) : (W.cutE s ((z : Int) :: zs)).2 = 3 := by
  rw [W.cutE, if_neg (by omega), if_pos (by omega)]
theorem cut8 (s : ByteArray) (h : 32 ≤ s.size) : W.cutE s.data.toList [8, 8, 8, 8] = ([p0 s, p1 s, p2 s, p3 s, p4 s], 0) := by
  have hl := list_size s
  exact cutE_yes (z := 8) (by omega) (cutE_yes (z := 8) (by simp only [List.length_drop]; omega) (cutE_yes (z := 8) (by simp only [List.length_drop]; omega) (cutE_yes (z := 8) (by simp only [List.length_drop]; omega) rfl)))
theorem cut8_short (s : List UInt8) (h : s.length < 32) : (W.cutE s [8, 8, 8, 8]).2 = 3 := by
  by_cases a : s.length < 8
  · exact cutE_short (z := 8) a
  · refine cutE_bad (z := 8) (by omega) ?_ (by decide)
    by_cases b : (s.drop 8).length < 8
    · exact cutE_short (z := 8) b
    · refine cutE_bad (z := 8) (by omega) ?_ (by decide)
      by_cases c : ((s.drop 8).drop 8).length < 8
      · exact cutE_short (z := 8) c
      · refine cutE_bad (z := 8) (by omega) ?_ (by decide)
        exact cutE_short (z := 8) (by simp only [List.length_drop] at *; omega)
theorem ext_list (s : ByteArray) (a b : Nat) : (s.extract a b).data.toList = (s.data.toList.drop a).take (b - a) := by
  rw [ByteArray.data_extract, Array.toList_extract]
end S15

theorem own_setRow' {w : World} {B e size n gq cap m g : Nat} {xs : List Value} (h : w.ownsRow B e size (.slice (some ⟨gq, 0, none⟩) m cap) n xs) (hg : gq ≠ g) (cs : Array Value) : (w.setRow g cs).ownsRow B e size (.slice (some ⟨gq, 0, none⟩) m cap) n xs :=
  h.kept (row := some g) ⟨rfl, rfl, rfl, by simp [World.setRow], fun k _ hk => Go.setRow_other w g k cs (fun e => hk (by simp [e]))⟩ (.inr (fun hh => hg (by simpa [Value.ownBlock] using hh)))
theorem number15_any (s : ByteArray) (h1 : 1 ≤ s.size) (h2 : s.size ≤ 8) (w : World) : Calls Try.prog 30 #[.string s] w fun e w' => e = .returned (.int .u64 (W.getN s.data.toList : Int)) ∧ w' = w := by
  go_enter Try.func30, Try.ntmps30
  go_wp2_with fail
  refine (get_mid s h1 h2 _).mono ?_
  rintro e w1 ⟨rfl, rfl⟩
  go_wp2
  go_ret
  exact ⟨rfl, rfl⟩
theorem put8_any (n : Nat) (h : n ≤ 18446744073709551615) (w : World) : Calls Try.prog 31 #[.int .u64 (n : Int), .int .i64 8] w fun e w' => e = .returned (.string (S15.P8 n)) ∧ Below w.heap.size w w' := put_mid n 8 h (by decide) w
theorem refPut8_any (n : Nat) (h : n ≤ 18446744073709551615) (w : World) : Calls Try.prog 33 #[.int .u64 (n : Int), .int .i64 8] w fun e w' => e = .returned (.string (S15.P8 n)) ∧ Below w.heap.size w w' := by
  have := refPut_any (n : Int) 8 (by omega) (by omega) w
  rw [Int.toNat_natCast, show W.clamp 8 = 8 from rfl] at this
  exact this

set_option maxHeartbeats 4000000 in
theorem text15_any (o n a t : Nat) (d : ByteArray) (ho : o ≤ 18446744073709551615) (hn : n ≤ 18446744073709551615) (ha : a ≤ 18446744073709551615) (ht : t ≤ 18446744073709551615) (hd : d.size ≤ 1099511627776) (w : World) :
    Calls Try.prog 10 #[.agg #[.int .u64 (o : Int), .int .u64 (n : Int), .int .u64 (a : Int), .int .u64 (t : Int), .string d]] w fun e w' => e = .returned (.string (S15.TX o n a t d)) ∧ Below w.heap.size w w' := by
  obtain ⟨A, hA⟩ : ∃ x, x = S15.P8 o := ⟨_, rfl⟩
  obtain ⟨B, hB⟩ : ∃ x, x = S15.P8 n := ⟨_, rfl⟩
  obtain ⟨C, hC⟩ : ∃ x, x = S15.P8 a := ⟨_, rfl⟩
  obtain ⟨D, hD⟩ : ∃ x, x = S15.P8 t := ⟨_, rfl⟩
  have sA : A.size = 8 := by rw [hA]; exact S15.P8_size _
  have sB : B.size = 8 := by rw [hB]; exact S15.P8_size _
  have sC : C.size = 8 := by rw [hC]; exact S15.P8_size _
  have sD : D.size = 8 := by rw [hD]; exact S15.P8_size _
  have CA : Hid (∀ wx, Calls Try.prog 31 #[.int .u64 (o : Int), .int .i64 8] wx fun e w' => e = .returned (.string A) ∧ Below wx.heap.size wx w') := fun wx => by rw [hA]; exact put8_any o ho wx
  have CB : Hid (∀ wx, Calls Try.prog 31 #[.int .u64 (n : Int), .int .i64 8] wx fun e w' => e = .returned (.string B) ∧ Below wx.heap.size wx w') := fun wx => by rw [hB]; exact put8_any n hn wx
  have CC : Hid (∀ wx, Calls Try.prog 31 #[.int .u64 (a : Int), .int .i64 8] wx fun e w' => e = .returned (.string C) ∧ Below wx.heap.size wx w') := fun wx => by rw [hC]; exact put8_any a ha wx
  have CD : Hid (∀ wx, Calls Try.prog 31 #[.int .u64 (t : Int), .int .i64 8] wx fun e w' => e = .returned (.string D) ∧ Below wx.heap.size wx w') := fun wx => by rw [hD]; exact put8_any t ht wx
  obtain ⟨X1, hX1⟩ : ∃ x, x = A ++ B := ⟨_, rfl⟩
  have sX1 : X1.size = A.size + B.size := by rw [hX1, ByteArray.size_append]
  have HX1 : Hid (A ++ B = X1) := hX1.symm
  obtain ⟨X2, hX2⟩ : ∃ x, x = X1 ++ C := ⟨_, rfl⟩
  have sX2 : X2.size = X1.size + C.size := by rw [hX2, ByteArray.size_append]
  have HX2 : Hid (X1 ++ C = X2) := hX2.symm
  obtain ⟨X3, hX3⟩ : ∃ x, x = X2 ++ D := ⟨_, rfl⟩
  have sX3 : X3.size = X2.size + D.size := by rw [hX3, ByteArray.size_append]
  have HX3 : Hid (X2 ++ D = X3) := hX3.symm
  obtain ⟨X4, hX4⟩ : ∃ x, x = X3 ++ d := ⟨_, rfl⟩
  have sX4 : X4.size = X3.size + d.size := by rw [hX4, ByteArray.size_append]
  have HX4 : Hid (X3 ++ d = X4) := hX4.symm
  have hTX : S15.TX o n a t d = X4 := by unfold S15.TX; rw [hX4, hX3, hX2, hX1, hA, hB, hC, hD]
  rw [hTX]
  clear hTX hX1 hX2 hX3 hX4 hA hB hC hD
  have r1 : Row (w.alloc (.cells #[.int .u64 (o : Int), .int .u64 (n : Int), .int .u64 (a : Int), .int .u64 (t : Int), .string d] 24 (0, 0))) w.heap.size 24 [.int .u64 (o : Int), .int .u64 (n : Int), .int .u64 (a : Int), .int .u64 (t : Int), .string d] := Row.new' rfl rfl
  have bb : Below w.heap.size w (w.alloc (.cells #[.int .u64 (o : Int), .int .u64 (n : Int), .int .u64 (a : Int), .int .u64 (t : Int), .string d] 24 (0, 0))) := (Below.refl _ _).alloc (Nat.le_refl _) _
  go_enter Try.func10, Try.ntmps10
  go_wp2_with fail
  generalize w.alloc (.cells #[.int .u64 (o : Int), .int .u64 (n : Int), .int .u64 (a : Int), .int .u64 (t : Int), .string d] 24 (0, 0)) = w1 at *
  refine wp_region_held_drew (S := fun w' => Row w' w.heap.size 24 [.int .u64 (o : Int), .int .u64 (n : Int), .int .u64 (a : Int), .int .u64 (t : Int), .string d] ∧ Below w.heap.size w w') (by kernel_rfl) (⟨r1.drew, bb.drew⟩) (fun hHeld => ?_)
  refine take_d 0 (some 3) (.pointer (some ⟨w.heap.size, 0, none⟩)) rfl (by kernel_rfl) (by kernel_rfl) (by kernel_rfl) (fun _ _ _ h => h) (fun oi h => by cases h; exact Or.inl ⟨by rfl, fun w' hS' => by go_simp⟩) hHeld ?_
  try simp only [Act.put, List.setIfInBounds_toArray, List.set_cons_zero, List.set_cons_succ]
  refine take_d 1 (some 4) (.int .u64 (o : Int)) rfl (by kernel_rfl) (by kernel_rfl) (by kernel_rfl) (fun _ _ _ h => h) (fun oi h => by cases h; exact Or.inl ⟨by rfl, fun w' hS' => by have c : w'.cell? ⟨w.heap.size, 0, none⟩ = some (.int .u64 (o : Int)) := hS'.1.cell 0; go_simp⟩) hHeld ?_
  try simp only [Act.put, List.setIfInBounds_toArray, List.set_cons_zero, List.set_cons_succ]
  refine take_d 3 (some 6) (.pointer (some ⟨w.heap.size, 1, none⟩)) rfl (by kernel_rfl) (by kernel_rfl) (by kernel_rfl) (fun _ _ _ h => h) (fun oi h => by cases h; exact Or.inl ⟨by rfl, fun w' hS' => by go_simp⟩) hHeld ?_
  try simp only [Act.put, List.setIfInBounds_toArray, List.set_cons_zero, List.set_cons_succ]
  refine take_d 4 (some 7) (.int .u64 (n : Int)) rfl (by kernel_rfl) (by kernel_rfl) (by kernel_rfl) (fun _ _ _ h => h) (fun oi h => by cases h; exact Or.inl ⟨by rfl, fun w' hS' => by have c : w'.cell? ⟨w.heap.size, 1, none⟩ = some (.int .u64 (n : Int)) := hS'.1.cell 1; go_simp⟩) hHeld ?_
  try simp only [Act.put, List.setIfInBounds_toArray, List.set_cons_zero, List.set_cons_succ]
  refine take_d 7 (some 10) (.pointer (some ⟨w.heap.size, 2, none⟩)) rfl (by kernel_rfl) (by kernel_rfl) (by kernel_rfl) (fun _ _ _ h => h) (fun oi h => by cases h; exact Or.inl ⟨by rfl, fun w' hS' => by go_simp⟩) hHeld ?_
  try simp only [Act.put, List.setIfInBounds_toArray, List.set_cons_zero, List.set_cons_succ]
  refine take_d 8 (some 11) (.int .u64 (a : Int)) rfl (by kernel_rfl) (by kernel_rfl) (by kernel_rfl) (fun _ _ _ h => h) (fun oi h => by cases h; exact Or.inl ⟨by rfl, fun w' hS' => by have c : w'.cell? ⟨w.heap.size, 2, none⟩ = some (.int .u64 (a : Int)) := hS'.1.cell 2; go_simp⟩) hHeld ?_
  try simp only [Act.put, List.setIfInBounds_toArray, List.set_cons_zero, List.set_cons_succ]
  refine take_d 11 (some 14) (.pointer (some ⟨w.heap.size, 3, none⟩)) rfl (by kernel_rfl) (by kernel_rfl) (by kernel_rfl) (fun _ _ _ h => h) (fun oi h => by cases h; exact Or.inl ⟨by rfl, fun w' hS' => by go_simp⟩) hHeld ?_
  try simp only [Act.put, List.setIfInBounds_toArray, List.set_cons_zero, List.set_cons_succ]
  refine take_d 12 (some 15) (.int .u64 (t : Int)) rfl (by kernel_rfl) (by kernel_rfl) (by kernel_rfl) (fun _ _ _ h => h) (fun oi h => by cases h; exact Or.inl ⟨by rfl, fun w' hS' => by have c : w'.cell? ⟨w.heap.size, 3, none⟩ = some (.int .u64 (t : Int)) := hS'.1.cell 3; go_simp⟩) hHeld ?_
  try simp only [Act.put, List.setIfInBounds_toArray, List.set_cons_zero, List.set_cons_succ]
  refine take_d 15 (some 18) (.pointer (some ⟨w.heap.size, 4, none⟩)) rfl (by kernel_rfl) (by kernel_rfl) (by kernel_rfl) (fun _ _ _ h => h) (fun oi h => by cases h; exact Or.inl ⟨by rfl, fun w' hS' => by go_simp⟩) hHeld ?_
  try simp only [Act.put, List.setIfInBounds_toArray, List.set_cons_zero, List.set_cons_succ]
  refine take_d 16 (some 19) (.string d) rfl (by kernel_rfl) (by kernel_rfl) (by kernel_rfl) (fun _ _ _ h => h) (fun oi h => by cases h; exact Or.inl ⟨by rfl, fun w' hS' => by have c : w'.cell? ⟨w.heap.size, 4, none⟩ = some (.string d) := hS'.1.cell 4; go_simp⟩) hHeld ?_
  try simp only [Act.put, List.setIfInBounds_toArray, List.set_cons_zero, List.set_cons_succ]
  refine one_d 2 (some 5) rfl (by kernel_rfl) ?_
  intro o ho hd K hK
  cases ho
  go_simp
  refine (CA.out _).mono ?_
  rintro e v1 ⟨rfl, bb⟩
  have hHeld' := hHeld
  clear hHeld
  have hHeld := hHeld'
  clear hHeld'
  refine hK.out _ _ (⟨hHeld.1.below bb hHeld.1.lt, hHeld.2.trans (bb.mono hHeld.2.size)⟩) (fun hHeld => ?_)
  clear hK K hd bb
  try simp only [Act.put, List.setIfInBounds_toArray, List.set_cons_zero, List.set_cons_succ]
  refine one_d 5 (some 8) rfl (by kernel_rfl) ?_
  intro o ho hd K hK
  cases ho
  go_simp
  refine (CB.out _).mono ?_
  rintro e v2 ⟨rfl, bb⟩
  have hHeld' := hHeld
  clear hHeld
  have hHeld := hHeld'
  clear hHeld'
  refine hK.out _ _ (⟨hHeld.1.below bb hHeld.1.lt, hHeld.2.trans (bb.mono hHeld.2.size)⟩) (fun hHeld => ?_)
  clear hK K hd bb
  try simp only [Act.put, List.setIfInBounds_toArray, List.set_cons_zero, List.set_cons_succ]
  refine take_d 6 (some 9) (.string X1) rfl (by kernel_rfl) (by kernel_rfl) (by kernel_rfl) (fun _ _ _ h => h) (fun oi h => by cases h; exact Or.inl ⟨by rfl, fun w' hS' => by have hx := HX1.out; have hz9 : A.size + B.size ≤ 9223372036854775807 := (by omega); have hz8 : 32 + d.size ≤ 9223372036854775807 := (by omega); go_simp⟩) hHeld ?_
  try simp only [Act.put, List.setIfInBounds_toArray, List.set_cons_zero, List.set_cons_succ]
  refine one_d 9 (some 12) rfl (by kernel_rfl) ?_
  intro o ho hd K hK
  cases ho
  go_simp
  refine (CC.out _).mono ?_
  rintro e v3 ⟨rfl, bb⟩
  have hHeld' := hHeld
  clear hHeld
  have hHeld := hHeld'
  clear hHeld'
  refine hK.out _ _ (⟨hHeld.1.below bb hHeld.1.lt, hHeld.2.trans (bb.mono hHeld.2.size)⟩) (fun hHeld => ?_)
  clear hK K hd bb
  try simp only [Act.put, List.setIfInBounds_toArray, List.set_cons_zero, List.set_cons_succ]
  refine take_d 10 (some 13) (.string X2) rfl (by kernel_rfl) (by kernel_rfl) (by kernel_rfl) (fun _ _ _ h => h) (fun oi h => by cases h; exact Or.inl ⟨by rfl, fun w' hS' => by have hx := HX2.out; have hz9 : X1.size + C.size ≤ 9223372036854775807 := (by omega); have hz8 : 32 + d.size ≤ 9223372036854775807 := (by omega); go_simp⟩) hHeld ?_
  try simp only [Act.put, List.setIfInBounds_toArray, List.set_cons_zero, List.set_cons_succ]
  refine one_d 13 (some 16) rfl (by kernel_rfl) ?_
  intro o ho hd K hK
  cases ho
  go_simp
  refine (CD.out _).mono ?_
  rintro e v4 ⟨rfl, bb⟩
  have hHeld' := hHeld
  clear hHeld
  have hHeld := hHeld'
  clear hHeld'
  refine hK.out _ _ (⟨hHeld.1.below bb hHeld.1.lt, hHeld.2.trans (bb.mono hHeld.2.size)⟩) (fun hHeld => ?_)
  clear hK K hd bb
  try simp only [Act.put, List.setIfInBounds_toArray, List.set_cons_zero, List.set_cons_succ]
  refine take_d 14 (some 17) (.string X3) rfl (by kernel_rfl) (by kernel_rfl) (by kernel_rfl) (fun _ _ _ h => h) (fun oi h => by cases h; exact Or.inl ⟨by rfl, fun w' hS' => by have hx := HX3.out; have hz9 : X2.size + D.size ≤ 9223372036854775807 := (by omega); have hz8 : 32 + d.size ≤ 9223372036854775807 := (by omega); go_simp⟩) hHeld ?_
  try simp only [Act.put, List.setIfInBounds_toArray, List.set_cons_zero, List.set_cons_succ]
  refine take_d 17 (some 20) (.string X4) rfl (by kernel_rfl) (by kernel_rfl) (by kernel_rfl) (fun _ _ _ h => h) (fun oi h => by cases h; exact Or.inl ⟨by rfl, fun w' hS' => by have hx := HX4.out; have hz9 : X3.size + d.size ≤ 9223372036854775807 := (by omega); have hz8 : 32 + d.size ≤ 9223372036854775807 := (by omega); go_simp⟩) hHeld ?_
  try simp only [Act.put, List.setIfInBounds_toArray, List.set_cons_zero, List.set_cons_succ]
  refine take_d 18 (some 2) (.string X4) rfl (by kernel_rfl) (by kernel_rfl) (by kernel_rfl) (fun _ _ _ h => h) (fun oi h => by cases h; exact Or.inl ⟨by rfl, fun w' hS' => by go_simp⟩) hHeld ?_
  try simp only [Act.put, List.setIfInBounds_toArray, List.set_cons_zero, List.set_cons_succ]
  refine wpAnyH_done (by kernel_rfl) ?_ _
  try simp only [Act.put]
  have hb := hHeld.2
  go_wp2
  go_ret
  exact ⟨rfl, hb⟩

set_option maxHeartbeats 4000000 in
theorem refText15_any (o n a t : Nat) (d : ByteArray) (ho : o ≤ 18446744073709551615) (hn : n ≤ 18446744073709551615) (ha : a ≤ 18446744073709551615) (ht : t ≤ 18446744073709551615) (hd : d.size ≤ 1099511627776) (w : World) :
    Calls Try.prog 12 #[.agg #[.int .u64 (o : Int), .int .u64 (n : Int), .int .u64 (a : Int), .int .u64 (t : Int), .string d]] w fun e w' => e = .returned (.string (S15.TX o n a t d)) ∧ Below w.heap.size w w' := by
  obtain ⟨A, hA⟩ : ∃ x, x = S15.P8 o := ⟨_, rfl⟩
  obtain ⟨B, hB⟩ : ∃ x, x = S15.P8 n := ⟨_, rfl⟩
  obtain ⟨C, hC⟩ : ∃ x, x = S15.P8 a := ⟨_, rfl⟩
  obtain ⟨D, hD⟩ : ∃ x, x = S15.P8 t := ⟨_, rfl⟩
  have sA : A.size = 8 := by rw [hA]; exact S15.P8_size _
  have sB : B.size = 8 := by rw [hB]; exact S15.P8_size _
  have sC : C.size = 8 := by rw [hC]; exact S15.P8_size _
  have sD : D.size = 8 := by rw [hD]; exact S15.P8_size _
  have CA : Hid (∀ wx, Calls Try.prog 33 #[.int .u64 (o : Int), .int .i64 8] wx fun e w' => e = .returned (.string A) ∧ Below wx.heap.size wx w') := fun wx => by rw [hA]; exact refPut8_any o ho wx
  have CB : Hid (∀ wx, Calls Try.prog 33 #[.int .u64 (n : Int), .int .i64 8] wx fun e w' => e = .returned (.string B) ∧ Below wx.heap.size wx w') := fun wx => by rw [hB]; exact refPut8_any n hn wx
  have CC : Hid (∀ wx, Calls Try.prog 33 #[.int .u64 (a : Int), .int .i64 8] wx fun e w' => e = .returned (.string C) ∧ Below wx.heap.size wx w') := fun wx => by rw [hC]; exact refPut8_any a ha wx
  have CD : Hid (∀ wx, Calls Try.prog 33 #[.int .u64 (t : Int), .int .i64 8] wx fun e w' => e = .returned (.string D) ∧ Below wx.heap.size wx w') := fun wx => by rw [hD]; exact refPut8_any t ht wx
  obtain ⟨X1, hX1⟩ : ∃ x, x = A ++ B := ⟨_, rfl⟩
  have sX1 : X1.size = A.size + B.size := by rw [hX1, ByteArray.size_append]
  have HX1 : Hid (A ++ B = X1) := hX1.symm
  obtain ⟨X2, hX2⟩ : ∃ x, x = X1 ++ C := ⟨_, rfl⟩
  have sX2 : X2.size = X1.size + C.size := by rw [hX2, ByteArray.size_append]
  have HX2 : Hid (X1 ++ C = X2) := hX2.symm
  obtain ⟨X3, hX3⟩ : ∃ x, x = X2 ++ D := ⟨_, rfl⟩
  have sX3 : X3.size = X2.size + D.size := by rw [hX3, ByteArray.size_append]
  have HX3 : Hid (X2 ++ D = X3) := hX3.symm
  obtain ⟨X4, hX4⟩ : ∃ x, x = X3 ++ d := ⟨_, rfl⟩
  have sX4 : X4.size = X3.size + d.size := by rw [hX4, ByteArray.size_append]
  have HX4 : Hid (X3 ++ d = X4) := hX4.symm
  have hTX : S15.TX o n a t d = X4 := by unfold S15.TX; rw [hX4, hX3, hX2, hX1, hA, hB, hC, hD]
  rw [hTX]
  clear hTX hX1 hX2 hX3 hX4 hA hB hC hD
  have r1 : Row (w.alloc (.cells #[.int .u64 (o : Int), .int .u64 (n : Int), .int .u64 (a : Int), .int .u64 (t : Int), .string d] 30 (0, 0))) w.heap.size 30 [.int .u64 (o : Int), .int .u64 (n : Int), .int .u64 (a : Int), .int .u64 (t : Int), .string d] := Row.new' rfl rfl
  have bb : Below w.heap.size w (w.alloc (.cells #[.int .u64 (o : Int), .int .u64 (n : Int), .int .u64 (a : Int), .int .u64 (t : Int), .string d] 30 (0, 0))) := (Below.refl _ _).alloc (Nat.le_refl _) _
  go_enter Try.func12, Try.ntmps12
  go_wp2_with fail
  generalize w.alloc (.cells #[.int .u64 (o : Int), .int .u64 (n : Int), .int .u64 (a : Int), .int .u64 (t : Int), .string d] 30 (0, 0)) = w1 at *
  refine wp_region_held_drew (S := fun w' => Row w' w.heap.size 30 [.int .u64 (o : Int), .int .u64 (n : Int), .int .u64 (a : Int), .int .u64 (t : Int), .string d] ∧ Below w.heap.size w w') (by kernel_rfl) (⟨r1.drew, bb.drew⟩) (fun hHeld => ?_)
  refine take_d 0 (some 3) (.pointer (some ⟨w.heap.size, 0, none⟩)) rfl (by kernel_rfl) (by kernel_rfl) (by kernel_rfl) (fun _ _ _ h => h) (fun oi h => by cases h; exact Or.inl ⟨by rfl, fun w' hS' => by go_simp⟩) hHeld ?_
  try simp only [Act.put, List.setIfInBounds_toArray, List.set_cons_zero, List.set_cons_succ]
  refine take_d 1 (some 4) (.int .u64 (o : Int)) rfl (by kernel_rfl) (by kernel_rfl) (by kernel_rfl) (fun _ _ _ h => h) (fun oi h => by cases h; exact Or.inl ⟨by rfl, fun w' hS' => by have c : w'.cell? ⟨w.heap.size, 0, none⟩ = some (.int .u64 (o : Int)) := hS'.1.cell 0; go_simp⟩) hHeld ?_
  try simp only [Act.put, List.setIfInBounds_toArray, List.set_cons_zero, List.set_cons_succ]
  refine take_d 3 (some 6) (.pointer (some ⟨w.heap.size, 1, none⟩)) rfl (by kernel_rfl) (by kernel_rfl) (by kernel_rfl) (fun _ _ _ h => h) (fun oi h => by cases h; exact Or.inl ⟨by rfl, fun w' hS' => by go_simp⟩) hHeld ?_
  try simp only [Act.put, List.setIfInBounds_toArray, List.set_cons_zero, List.set_cons_succ]
  refine take_d 4 (some 7) (.int .u64 (n : Int)) rfl (by kernel_rfl) (by kernel_rfl) (by kernel_rfl) (fun _ _ _ h => h) (fun oi h => by cases h; exact Or.inl ⟨by rfl, fun w' hS' => by have c : w'.cell? ⟨w.heap.size, 1, none⟩ = some (.int .u64 (n : Int)) := hS'.1.cell 1; go_simp⟩) hHeld ?_
  try simp only [Act.put, List.setIfInBounds_toArray, List.set_cons_zero, List.set_cons_succ]
  refine take_d 7 (some 10) (.pointer (some ⟨w.heap.size, 2, none⟩)) rfl (by kernel_rfl) (by kernel_rfl) (by kernel_rfl) (fun _ _ _ h => h) (fun oi h => by cases h; exact Or.inl ⟨by rfl, fun w' hS' => by go_simp⟩) hHeld ?_
  try simp only [Act.put, List.setIfInBounds_toArray, List.set_cons_zero, List.set_cons_succ]
  refine take_d 8 (some 11) (.int .u64 (a : Int)) rfl (by kernel_rfl) (by kernel_rfl) (by kernel_rfl) (fun _ _ _ h => h) (fun oi h => by cases h; exact Or.inl ⟨by rfl, fun w' hS' => by have c : w'.cell? ⟨w.heap.size, 2, none⟩ = some (.int .u64 (a : Int)) := hS'.1.cell 2; go_simp⟩) hHeld ?_
  try simp only [Act.put, List.setIfInBounds_toArray, List.set_cons_zero, List.set_cons_succ]
  refine take_d 11 (some 14) (.pointer (some ⟨w.heap.size, 3, none⟩)) rfl (by kernel_rfl) (by kernel_rfl) (by kernel_rfl) (fun _ _ _ h => h) (fun oi h => by cases h; exact Or.inl ⟨by rfl, fun w' hS' => by go_simp⟩) hHeld ?_
  try simp only [Act.put, List.setIfInBounds_toArray, List.set_cons_zero, List.set_cons_succ]
  refine take_d 12 (some 15) (.int .u64 (t : Int)) rfl (by kernel_rfl) (by kernel_rfl) (by kernel_rfl) (fun _ _ _ h => h) (fun oi h => by cases h; exact Or.inl ⟨by rfl, fun w' hS' => by have c : w'.cell? ⟨w.heap.size, 3, none⟩ = some (.int .u64 (t : Int)) := hS'.1.cell 3; go_simp⟩) hHeld ?_
  try simp only [Act.put, List.setIfInBounds_toArray, List.set_cons_zero, List.set_cons_succ]
  refine take_d 15 (some 18) (.pointer (some ⟨w.heap.size, 4, none⟩)) rfl (by kernel_rfl) (by kernel_rfl) (by kernel_rfl) (fun _ _ _ h => h) (fun oi h => by cases h; exact Or.inl ⟨by rfl, fun w' hS' => by go_simp⟩) hHeld ?_
  try simp only [Act.put, List.setIfInBounds_toArray, List.set_cons_zero, List.set_cons_succ]
  refine take_d 16 (some 19) (.string d) rfl (by kernel_rfl) (by kernel_rfl) (by kernel_rfl) (fun _ _ _ h => h) (fun oi h => by cases h; exact Or.inl ⟨by rfl, fun w' hS' => by have c : w'.cell? ⟨w.heap.size, 4, none⟩ = some (.string d) := hS'.1.cell 4; go_simp⟩) hHeld ?_
  try simp only [Act.put, List.setIfInBounds_toArray, List.set_cons_zero, List.set_cons_succ]
  refine one_d 2 (some 5) rfl (by kernel_rfl) ?_
  intro o ho hd K hK
  cases ho
  go_simp
  refine (CA.out _).mono ?_
  rintro e v1 ⟨rfl, bb⟩
  have hHeld' := hHeld
  clear hHeld
  have hHeld := hHeld'
  clear hHeld'
  refine hK.out _ _ (⟨hHeld.1.below bb hHeld.1.lt, hHeld.2.trans (bb.mono hHeld.2.size)⟩) (fun hHeld => ?_)
  clear hK K hd bb
  try simp only [Act.put, List.setIfInBounds_toArray, List.set_cons_zero, List.set_cons_succ]
  refine one_d 5 (some 8) rfl (by kernel_rfl) ?_
  intro o ho hd K hK
  cases ho
  go_simp
  refine (CB.out _).mono ?_
  rintro e v2 ⟨rfl, bb⟩
  have hHeld' := hHeld
  clear hHeld
  have hHeld := hHeld'
  clear hHeld'
  refine hK.out _ _ (⟨hHeld.1.below bb hHeld.1.lt, hHeld.2.trans (bb.mono hHeld.2.size)⟩) (fun hHeld => ?_)
  clear hK K hd bb
  try simp only [Act.put, List.setIfInBounds_toArray, List.set_cons_zero, List.set_cons_succ]
  refine take_d 6 (some 9) (.string X1) rfl (by kernel_rfl) (by kernel_rfl) (by kernel_rfl) (fun _ _ _ h => h) (fun oi h => by cases h; exact Or.inl ⟨by rfl, fun w' hS' => by have hx := HX1.out; have hz9 : A.size + B.size ≤ 9223372036854775807 := (by omega); have hz8 : 32 + d.size ≤ 9223372036854775807 := (by omega); go_simp⟩) hHeld ?_
  try simp only [Act.put, List.setIfInBounds_toArray, List.set_cons_zero, List.set_cons_succ]
  refine one_d 9 (some 12) rfl (by kernel_rfl) ?_
  intro o ho hd K hK
  cases ho
  go_simp
  refine (CC.out _).mono ?_
  rintro e v3 ⟨rfl, bb⟩
  have hHeld' := hHeld
  clear hHeld
  have hHeld := hHeld'
  clear hHeld'
  refine hK.out _ _ (⟨hHeld.1.below bb hHeld.1.lt, hHeld.2.trans (bb.mono hHeld.2.size)⟩) (fun hHeld => ?_)
  clear hK K hd bb
  try simp only [Act.put, List.setIfInBounds_toArray, List.set_cons_zero, List.set_cons_succ]
  refine take_d 10 (some 13) (.string X2) rfl (by kernel_rfl) (by kernel_rfl) (by kernel_rfl) (fun _ _ _ h => h) (fun oi h => by cases h; exact Or.inl ⟨by rfl, fun w' hS' => by have hx := HX2.out; have hz9 : X1.size + C.size ≤ 9223372036854775807 := (by omega); have hz8 : 32 + d.size ≤ 9223372036854775807 := (by omega); go_simp⟩) hHeld ?_
  try simp only [Act.put, List.setIfInBounds_toArray, List.set_cons_zero, List.set_cons_succ]
  refine one_d 13 (some 16) rfl (by kernel_rfl) ?_
  intro o ho hd K hK
  cases ho
  go_simp
  refine (CD.out _).mono ?_
  rintro e v4 ⟨rfl, bb⟩
  have hHeld' := hHeld
  clear hHeld
  have hHeld := hHeld'
  clear hHeld'
  refine hK.out _ _ (⟨hHeld.1.below bb hHeld.1.lt, hHeld.2.trans (bb.mono hHeld.2.size)⟩) (fun hHeld => ?_)
  clear hK K hd bb
  try simp only [Act.put, List.setIfInBounds_toArray, List.set_cons_zero, List.set_cons_succ]
  refine take_d 14 (some 17) (.string X3) rfl (by kernel_rfl) (by kernel_rfl) (by kernel_rfl) (fun _ _ _ h => h) (fun oi h => by cases h; exact Or.inl ⟨by rfl, fun w' hS' => by have hx := HX3.out; have hz9 : X2.size + D.size ≤ 9223372036854775807 := (by omega); have hz8 : 32 + d.size ≤ 9223372036854775807 := (by omega); go_simp⟩) hHeld ?_
  try simp only [Act.put, List.setIfInBounds_toArray, List.set_cons_zero, List.set_cons_succ]
  refine take_d 17 (some 20) (.string X4) rfl (by kernel_rfl) (by kernel_rfl) (by kernel_rfl) (fun _ _ _ h => h) (fun oi h => by cases h; exact Or.inl ⟨by rfl, fun w' hS' => by have hx := HX4.out; have hz9 : X3.size + d.size ≤ 9223372036854775807 := (by omega); have hz8 : 32 + d.size ≤ 9223372036854775807 := (by omega); go_simp⟩) hHeld ?_
  try simp only [Act.put, List.setIfInBounds_toArray, List.set_cons_zero, List.set_cons_succ]
  refine take_d 18 (some 2) (.string X4) rfl (by kernel_rfl) (by kernel_rfl) (by kernel_rfl) (fun _ _ _ h => h) (fun oi h => by cases h; exact Or.inl ⟨by rfl, fun w' hS' => by go_simp⟩) hHeld ?_
  try simp only [Act.put, List.setIfInBounds_toArray, List.set_cons_zero, List.set_cons_succ]
  refine wpAnyH_done (by kernel_rfl) ?_ _
  try simp only [Act.put]
  have hb := hHeld.2
  go_wp2
  go_ret
  exact ⟨rfl, hb⟩

set_option maxHeartbeats 4000000 in
/-- Parse of 32 bytes and more. -/
theorem parse15_yes (s : ByteArray) (hs : 32 ≤ s.size) (hs' : s.size ≤ 281474976710656) (w : World) :
    Calls Try.prog 9 #[.string s] w fun e w' => e = .returned (.tuple #[.agg #[.int .u64 (W.getN (S15.p0 s) : Int), .int .u64 (W.getN (S15.p1 s) : Int), .int .u64 (W.getN (S15.p2 s) : Int), .int .u64 (W.getN (S15.p3 s) : Int), .string ⟨(S15.p4 s).toArray⟩], .int .i64 0]) ∧ Below w.heap.size w w' := by
  obtain ⟨h0, h1, h2, h3⟩ := S15.p_len hs
  have hcut := S15.cut8 s hs
  generalize S15.p0 s = l0 at *
  generalize S15.p1 s = l1 at *
  generalize S15.p2 s = l2 at *
  generalize S15.p3 s = l3 at *
  generalize S15.p4 s = l4 at *
  have CN : Hid (∀ (l : List UInt8) (wx : World), l.length = 8 → Calls Try.prog 30 #[.string ⟨l.toArray⟩] wx fun e w' => e = .returned (.int .u64 (W.getN l : Int)) ∧ w' = wx) := fun l wx hl => by
    have := number15_any ⟨l.toArray⟩ (by show 1 ≤ l.toArray.size; simp [hl]) (by show l.toArray.size ≤ 8; simp [hl]) wx
    simpa using this
  have C0 : Hid (∀ wx, Calls Try.prog 30 #[.string ⟨l0.toArray⟩] wx fun e w' => e = .returned (.int .u64 (W.getN l0 : Int)) ∧ w' = wx) := fun wx => CN.out l0 wx h0
  have C1 : Hid (∀ wx, Calls Try.prog 30 #[.string ⟨l1.toArray⟩] wx fun e w' => e = .returned (.int .u64 (W.getN l1 : Int)) ∧ w' = wx) := fun wx => CN.out l1 wx h1
  have C2 : Hid (∀ wx, Calls Try.prog 30 #[.string ⟨l2.toArray⟩] wx fun e w' => e = .returned (.int .u64 (W.getN l2 : Int)) ∧ w' = wx) := fun wx => CN.out l2 wx h2
  have C3 : Hid (∀ wx, Calls Try.prog 30 #[.string ⟨l3.toArray⟩] wx fun e w' => e = .returned (.int .u64 (W.getN l3 : Int)) ∧ w' = wx) := fun wx => CN.out l3 wx h3
  have CC : Hid (∀ (b : Nat) (wx : World), b < wx.heap.size → Row wx b 3 [.int .i64 8, .int .i64 8, .int .i64 8, .int .i64 8] → Calls Try.prog 29 #[.string s, .slice (some ⟨b, 0, none⟩) 4 4] wx fun e w' => ∃ gq, e = .returned (.tuple #[.slice (some ⟨gq, 0, none⟩) 5 5, .int .i64 0]) ∧
      w'.ownsRow wx.heap.size 9 1 (.slice (some ⟨gq, 0, none⟩) 5 5) 5 [.string ⟨l0.toArray⟩, .string ⟨l1.toArray⟩, .string ⟨l2.toArray⟩, .string ⟨l3.toArray⟩, .string ⟨l4.toArray⟩] ∧ Below wx.heap.size wx w') := fun b wx hb hr => by
    have := cut_any s.data.toList (some ⟨b, 0, none⟩) 4 [8, 8, 8, 8] wx (by simpa using hs') (by decide) (fun _ => ⟨b, 0, rfl, hb, fun i hi => by
      rw [Nat.zero_add, hr.cell i]
      match i, hi with
      | 0, _ => rfl
      | 1, _ => rfl
      | 2, _ => rfl
      | 3, _ => rfl⟩)
    rw [hcut] at this
    refine this.mono ?_
    rintro e w' ⟨v, rfl, h | h, hbel⟩
    · obtain ⟨_, rfl, _, ho⟩ := h
      exact ⟨_, rfl, ho, hbel⟩
    · exact absurd rfl h.1
  clear hcut CN h0 h1 h2 h3
  generalize W.getN l0 = n0 at *
  generalize W.getN l1 = n1 at *
  generalize W.getN l2 = n2 at *
  generalize W.getN l3 = n3 at *
  generalize (⟨l0.toArray⟩ : ByteArray) = f0 at *
  generalize (⟨l1.toArray⟩ : ByteArray) = f1 at *
  generalize (⟨l2.toArray⟩ : ByteArray) = f2 at *
  generalize (⟨l3.toArray⟩ : ByteArray) = f3 at *
  generalize (⟨l4.toArray⟩ : ByteArray) = f4 at *
  have r0 : Row ((w.alloc (.cells #[.int .u64 0, .int .u64 0, .int .u64 0, .int .u64 0, .string ⟨#[]⟩] 24 (0, 0))).alloc (.cells #[.int .i64 8, .int .i64 8, .int .i64 8, .int .i64 8] 3 (0, 0))) w.heap.size 24 [.int .u64 0, .int .u64 0, .int .u64 0, .int .u64 0, .string ⟨#[]⟩] := (Row.new' rfl rfl).alloc _
  have r8 : Row ((w.alloc (.cells #[.int .u64 0, .int .u64 0, .int .u64 0, .int .u64 0, .string ⟨#[]⟩] 24 (0, 0))).alloc (.cells #[.int .i64 8, .int .i64 8, .int .i64 8, .int .i64 8] 3 (0, 0))) (w.heap.size + 1) 3 [.int .i64 8, .int .i64 8, .int .i64 8, .int .i64 8] := Row.new' rfl (by simp)
  have bb : Below w.heap.size w ((w.alloc (.cells #[.int .u64 0, .int .u64 0, .int .u64 0, .int .u64 0, .string ⟨#[]⟩] 24 (0, 0))).alloc (.cells #[.int .i64 8, .int .i64 8, .int .i64 8, .int .i64 8] 3 (0, 0))) := ((Below.refl _ _).alloc (Nat.le_refl _) _).alloc (by simp) _
  go_enter Try.func9, Try.ntmps9
  go_wp2_with fail
  generalize (w.alloc (.cells #[.int .u64 0, .int .u64 0, .int .u64 0, .int .u64 0, .string ⟨#[]⟩] 24 (0, 0))).alloc (.cells #[.int .i64 8, .int .i64 8, .int .i64 8, .int .i64 8] 3 (0, 0)) = w1 at *
  have CC1 := CC.out (w.heap.size + 1) w1 r8.lt r8
  refine CC1.mono ?_
  rintro e w2 ⟨gq, rfl, hov, b2⟩
  have r2 := r0.below b2 r0.lt
  have q2 : Has w2 w.heap.size 24 5 := ⟨_, rfl, r2⟩
  have hgq := hov.lt gq rfl
  have hsz := b2.size
  have bb2 := bb.trans (b2.mono bb.size)
  have hne : w.heap.size ≠ gq := by have := r0.lt; omega
  obtain ⟨B1, hB1⟩ : ∃ B, B = w1.heap.size := ⟨_, rfl⟩
  rw [← hB1] at hov
  clear r0 r8 CC CC1 bb r2 b2 hB1 hgq hsz
  go_wp2
  refine wp_region_held_drew (S := fun w' => Has w' w.heap.size 24 5 ∧ w'.ownsRow B1 9 1 (.slice (some ⟨gq, 0, none⟩) 5 5) 5 ([.string f0, .string f1, .string f2, .string f3, .string f4]) ∧ Below w.heap.size w w') (by kernel_rfl) (⟨q2.drew, hov.drew, bb2.drew⟩) (fun hHeld => ?_)
  refine take_d 0 (some 16) (.slice (some ⟨gq, 0, none⟩) 5 5) rfl (by kernel_rfl) (by kernel_rfl) (by kernel_rfl) (fun _ _ _ h => h) (fun oi h => by cases h; exact Or.inl ⟨by rfl, fun w' hS' => by go_simp⟩) hHeld ?_
  try simp only [Act.put, List.setIfInBounds_toArray, List.set_cons_zero, List.set_cons_succ]
  refine take_d 1 (some 17) (.pointer (some ⟨gq, 0, none⟩)) rfl (by kernel_rfl) (by kernel_rfl) (by kernel_rfl) (fun _ _ _ h => h) (fun oi h => by cases h; exact Or.inl ⟨by rfl, fun w' hS' => by go_simp⟩) hHeld ?_
  try simp only [Act.put, List.setIfInBounds_toArray, List.set_cons_zero, List.set_cons_succ]
  refine take_d 2 (some 18) (.string f0) rfl (by kernel_rfl) (by kernel_rfl) (by kernel_rfl) (fun _ _ _ h => h) (fun oi h => by cases h; exact Or.inl ⟨by rfl, fun w' hS' => by have c : w'.cell? ⟨gq, 0, none⟩ = some (.string f0) := (hS'.2.1.cellAt 0 (by decide)).trans rfl; go_simp⟩) hHeld ?_
  try simp only [Act.put, List.setIfInBounds_toArray, List.set_cons_zero, List.set_cons_succ]
  refine take_d 4 (some 20) (.slice (some ⟨gq, 0, none⟩) 5 5) rfl (by kernel_rfl) (by kernel_rfl) (by kernel_rfl) (fun _ _ _ h => h) (fun oi h => by cases h; exact Or.inl ⟨by rfl, fun w' hS' => by go_simp⟩) hHeld ?_
  try simp only [Act.put, List.setIfInBounds_toArray, List.set_cons_zero, List.set_cons_succ]
  refine take_d 5 (some 21) (.pointer (some ⟨gq, 1, none⟩)) rfl (by kernel_rfl) (by kernel_rfl) (by kernel_rfl) (fun _ _ _ h => h) (fun oi h => by cases h; exact Or.inl ⟨by rfl, fun w' hS' => by go_simp⟩) hHeld ?_
  try simp only [Act.put, List.setIfInBounds_toArray, List.set_cons_zero, List.set_cons_succ]
  refine take_d 6 (some 22) (.string f1) rfl (by kernel_rfl) (by kernel_rfl) (by kernel_rfl) (fun _ _ _ h => h) (fun oi h => by cases h; exact Or.inl ⟨by rfl, fun w' hS' => by have c : w'.cell? ⟨gq, 1, none⟩ = some (.string f1) := (hS'.2.1.cellAt 1 (by decide)).trans rfl; go_simp⟩) hHeld ?_
  try simp only [Act.put, List.setIfInBounds_toArray, List.set_cons_zero, List.set_cons_succ]
  refine take_d 8 (some 24) (.slice (some ⟨gq, 0, none⟩) 5 5) rfl (by kernel_rfl) (by kernel_rfl) (by kernel_rfl) (fun _ _ _ h => h) (fun oi h => by cases h; exact Or.inl ⟨by rfl, fun w' hS' => by go_simp⟩) hHeld ?_
  try simp only [Act.put, List.setIfInBounds_toArray, List.set_cons_zero, List.set_cons_succ]
  refine take_d 9 (some 25) (.pointer (some ⟨gq, 2, none⟩)) rfl (by kernel_rfl) (by kernel_rfl) (by kernel_rfl) (fun _ _ _ h => h) (fun oi h => by cases h; exact Or.inl ⟨by rfl, fun w' hS' => by go_simp⟩) hHeld ?_
  try simp only [Act.put, List.setIfInBounds_toArray, List.set_cons_zero, List.set_cons_succ]
  refine take_d 10 (some 26) (.string f2) rfl (by kernel_rfl) (by kernel_rfl) (by kernel_rfl) (fun _ _ _ h => h) (fun oi h => by cases h; exact Or.inl ⟨by rfl, fun w' hS' => by have c : w'.cell? ⟨gq, 2, none⟩ = some (.string f2) := (hS'.2.1.cellAt 2 (by decide)).trans rfl; go_simp⟩) hHeld ?_
  try simp only [Act.put, List.setIfInBounds_toArray, List.set_cons_zero, List.set_cons_succ]
  refine take_d 12 (some 28) (.slice (some ⟨gq, 0, none⟩) 5 5) rfl (by kernel_rfl) (by kernel_rfl) (by kernel_rfl) (fun _ _ _ h => h) (fun oi h => by cases h; exact Or.inl ⟨by rfl, fun w' hS' => by go_simp⟩) hHeld ?_
  try simp only [Act.put, List.setIfInBounds_toArray, List.set_cons_zero, List.set_cons_succ]
  refine take_d 13 (some 29) (.pointer (some ⟨gq, 3, none⟩)) rfl (by kernel_rfl) (by kernel_rfl) (by kernel_rfl) (fun _ _ _ h => h) (fun oi h => by cases h; exact Or.inl ⟨by rfl, fun w' hS' => by go_simp⟩) hHeld ?_
  try simp only [Act.put, List.setIfInBounds_toArray, List.set_cons_zero, List.set_cons_succ]
  refine take_d 14 (some 30) (.string f3) rfl (by kernel_rfl) (by kernel_rfl) (by kernel_rfl) (fun _ _ _ h => h) (fun oi h => by cases h; exact Or.inl ⟨by rfl, fun w' hS' => by have c : w'.cell? ⟨gq, 3, none⟩ = some (.string f3) := (hS'.2.1.cellAt 3 (by decide)).trans rfl; go_simp⟩) hHeld ?_
  try simp only [Act.put, List.setIfInBounds_toArray, List.set_cons_zero, List.set_cons_succ]
  refine take_d 16 (some 32) (.slice (some ⟨gq, 0, none⟩) 5 5) rfl (by kernel_rfl) (by kernel_rfl) (by kernel_rfl) (fun _ _ _ h => h) (fun oi h => by cases h; exact Or.inl ⟨by rfl, fun w' hS' => by go_simp⟩) hHeld ?_
  try simp only [Act.put, List.setIfInBounds_toArray, List.set_cons_zero, List.set_cons_succ]
  refine take_d 17 (some 33) (.pointer (some ⟨gq, 4, none⟩)) rfl (by kernel_rfl) (by kernel_rfl) (by kernel_rfl) (fun _ _ _ h => h) (fun oi h => by cases h; exact Or.inl ⟨by rfl, fun w' hS' => by go_simp⟩) hHeld ?_
  try simp only [Act.put, List.setIfInBounds_toArray, List.set_cons_zero, List.set_cons_succ]
  refine take_d 18 (some 34) (.string f4) rfl (by kernel_rfl) (by kernel_rfl) (by kernel_rfl) (fun _ _ _ h => h) (fun oi h => by cases h; exact Or.inl ⟨by rfl, fun w' hS' => by have c : w'.cell? ⟨gq, 4, none⟩ = some (.string f4) := (hS'.2.1.cellAt 4 (by decide)).trans rfl; go_simp⟩) hHeld ?_
  try simp only [Act.put, List.setIfInBounds_toArray, List.set_cons_zero, List.set_cons_succ]
  refine one_d 3 (some 19) rfl (by kernel_rfl) ?_
  intro o ho hd K hK
  cases ho
  go_simp
  refine (C0.out _).mono ?_
  rintro e wq ⟨rfl, rfl⟩
  refine hK.out _ _ hHeld (fun hHeld => ?_)
  clear hK K hd
  try simp only [Act.put, List.setIfInBounds_toArray, List.set_cons_zero, List.set_cons_succ]
  refine one_d 7 (some 23) rfl (by kernel_rfl) ?_
  intro o ho hd K hK
  cases ho
  go_simp
  refine (C1.out _).mono ?_
  rintro e wq ⟨rfl, rfl⟩
  refine hK.out _ _ hHeld (fun hHeld => ?_)
  clear hK K hd
  try simp only [Act.put, List.setIfInBounds_toArray, List.set_cons_zero, List.set_cons_succ]
  refine one_d 11 (some 27) rfl (by kernel_rfl) ?_
  intro o ho hd K hK
  cases ho
  go_simp
  refine (C2.out _).mono ?_
  rintro e wq ⟨rfl, rfl⟩
  refine hK.out _ _ hHeld (fun hHeld => ?_)
  clear hK K hd
  try simp only [Act.put, List.setIfInBounds_toArray, List.set_cons_zero, List.set_cons_succ]
  refine one_d 15 (some 31) rfl (by kernel_rfl) ?_
  intro o ho hd K hK
  cases ho
  go_simp
  refine (C3.out _).mono ?_
  rintro e wq ⟨rfl, rfl⟩
  refine hK.out _ _ hHeld (fun hHeld => ?_)
  clear hK K hd
  try simp only [Act.put, List.setIfInBounds_toArray, List.set_cons_zero, List.set_cons_succ]
  refine take_d 19 (some 35) (.agg #[.int .u64 (n0 : Int), .int .u64 (n1 : Int), .int .u64 (n2 : Int), .int .u64 (n3 : Int), .string f4]) rfl (by kernel_rfl) (by kernel_rfl) (by kernel_rfl) (fun _ _ _ h => h) (fun oi h => by cases h; exact Or.inl ⟨by rfl, fun w' hS' => by go_simp⟩) hHeld ?_
  try simp only [Act.put, List.setIfInBounds_toArray, List.set_cons_zero, List.set_cons_succ]
  refine one_d 20 none rfl (by kernel_rfl) ?_
  intro o ho1 hd K hK
  cases ho1
  obtain ⟨lz, hlz, rp⟩ := hHeld.1
  refine step_store_row rfl 24 (.tmp 2) (.tmp 35) rfl (w.heap.size) [.int .u64 (n0 : Int), .int .u64 (n1 : Int), .int .u64 (n2 : Int), .int .u64 (n3 : Int), .string f4] rfl rfl _ _ rp infoIn hlz (by simp [Value.oneCell']) ?_
  rw [hd]
  have rp2 := rp.setRow [.int .u64 (n0 : Int), .int .u64 (n1 : Int), .int .u64 (n2 : Int), .int .u64 (n3 : Int), .string f4]
  refine hK.out _ _ ⟨⟨_, rfl, rp2⟩, own_setRow' hHeld.2.1 (by omega) _, below_row hHeld.2.2 (by omega) _⟩ (fun hHeld => ?_)
  clear hK K hd rp
  try simp only [Act.put]
  refine take_d 21 (some 3) (.int .i64 0) rfl (by kernel_rfl) (by kernel_rfl) (by kernel_rfl) (fun _ _ _ h => h) (fun oi h => by cases h; exact Or.inl ⟨by rfl, fun w' hS' => by go_simp⟩) hHeld ?_
  try simp only [Act.put, List.setIfInBounds_toArray, List.set_cons_zero, List.set_cons_succ]
  refine wpAnyH_done (by kernel_rfl) ?_ _
  try simp only [Act.put]
  go_wp2
  exact bodyPost_ret (results_row_tmp rfl _ _ w.heap.size 24 [.int .u64 (n0 : Int), .int .u64 (n1 : Int), .int .u64 (n2 : Int), .int .u64 (n3 : Int), .string f4] _ rfl rp2 Try.underlying24 rfl infoIn) rfl ⟨rfl, hHeld.2.2⟩

set_option maxHeartbeats 2000000 in
theorem parse15_no (s : ByteArray) (hs : s.size < 32) (w : World) :
    Calls Try.prog 9 #[.string s] w fun e w' => e = .returned (.tuple #[.agg #[.int .u64 0, .int .u64 0, .int .u64 0, .int .u64 0, .string ⟨#[]⟩], .int .i64 3]) ∧ Below w.heap.size w w' := by
  have hcut := S15.cut8_short s.data.toList (by simpa using hs)
  have CC : Hid (∀ (b : Nat) (wx : World), b < wx.heap.size → Row wx b 3 [.int .i64 8, .int .i64 8, .int .i64 8, .int .i64 8] → Calls Try.prog 29 #[.string s, .slice (some ⟨b, 0, none⟩) 4 4] wx fun e w' => e = .returned (.tuple #[.slice none 0 0, .int .i64 3]) ∧ Below wx.heap.size wx w') := fun b wx hb hr => by
    have := cut_any s.data.toList (some ⟨b, 0, none⟩) 4 [8, 8, 8, 8] wx (by have := S15.list_size s; omega) (by decide) (fun _ => ⟨b, 0, rfl, hb, fun i hi => by
      rw [Nat.zero_add, hr.cell i]
      match i, hi with
      | 0, _ => rfl
      | 1, _ => rfl
      | 2, _ => rfl
      | 3, _ => rfl⟩)
    rw [hcut] at this
    refine this.mono ?_
    rintro e w' ⟨v, rfl, h | h, hbel⟩
    · exact absurd h.1 (by decide)
    · obtain ⟨_, rfl⟩ := h
      exact ⟨rfl, hbel⟩
  have r0 : Row ((w.alloc (.cells #[.int .u64 0, .int .u64 0, .int .u64 0, .int .u64 0, .string ⟨#[]⟩] 24 (0, 0))).alloc (.cells #[.int .i64 8, .int .i64 8, .int .i64 8, .int .i64 8] 3 (0, 0))) w.heap.size 24 [.int .u64 0, .int .u64 0, .int .u64 0, .int .u64 0, .string ⟨#[]⟩] := (Row.new' rfl rfl).alloc _
  have r8 : Row ((w.alloc (.cells #[.int .u64 0, .int .u64 0, .int .u64 0, .int .u64 0, .string ⟨#[]⟩] 24 (0, 0))).alloc (.cells #[.int .i64 8, .int .i64 8, .int .i64 8, .int .i64 8] 3 (0, 0))) (w.heap.size + 1) 3 [.int .i64 8, .int .i64 8, .int .i64 8, .int .i64 8] := Row.new' rfl (by simp)
  have bb : Below w.heap.size w ((w.alloc (.cells #[.int .u64 0, .int .u64 0, .int .u64 0, .int .u64 0, .string ⟨#[]⟩] 24 (0, 0))).alloc (.cells #[.int .i64 8, .int .i64 8, .int .i64 8, .int .i64 8] 3 (0, 0))) := ((Below.refl _ _).alloc (Nat.le_refl _) _).alloc (by simp) _
  clear hcut
  go_enter Try.func9, Try.ntmps9
  go_wp2_with fail
  generalize (w.alloc (.cells #[.int .u64 0, .int .u64 0, .int .u64 0, .int .u64 0, .string ⟨#[]⟩] 24 (0, 0))).alloc (.cells #[.int .i64 8, .int .i64 8, .int .i64 8, .int .i64 8] 3 (0, 0)) = w1 at *
  refine (CC.out _ _ r8.lt r8).mono ?_
  rintro e w2 ⟨rfl, b2⟩
  have r2 := r0.below b2 r0.lt
  have bb2 := bb.trans (b2.mono bb.size)
  clear r0 r8 bb b2
  go_wp2_with (refine wpList_store_row rfl 24 (.tmp 2) (.tmp 14) rfl w.heap.size _ rfl rfl _ _ r2 infoIn rfl (by simp [Value.oneCell']) ?_)
  exact bodyPost_ret (results_row_tmp rfl _ _ w.heap.size 24 [.int .u64 0, .int .u64 0, .int .u64 0, .int .u64 0, .string ⟨#[]⟩] _ rfl (r2.setRow [.int .u64 0, .int .u64 0, .int .u64 0, .int .u64 0, .string ⟨#[]⟩]) Try.underlying24 rfl infoIn) rfl ⟨rfl, below_row bb2 (Nat.le_refl _) _⟩

set_option maxHeartbeats 4000000 in
theorem refParse15_yes (s : ByteArray) (hs : 32 ≤ s.size) (hs' : s.size ≤ 281474976710656) (w : World) :
    Calls Try.prog 11 #[.string s] w fun e w' => e = .returned (.tuple #[.agg #[.int .u64 (W.getN (S15.p0 s) : Int), .int .u64 (W.getN (S15.p1 s) : Int), .int .u64 (W.getN (S15.p2 s) : Int), .int .u64 (W.getN (S15.p3 s) : Int), .string ⟨(S15.p4 s).toArray⟩], .bool true]) ∧ Below w.heap.size w w' := by
  obtain ⟨h0, h1, h2, h3⟩ := S15.p_len hs
  have e0 : (s.extract 0 8).data.toList = S15.p0 s := by rw [S15.ext_list]; rfl
  have e1 : (s.extract 8 16).data.toList = S15.p1 s := by rw [S15.ext_list]; rfl
  have e2 : (s.extract 16 24).data.toList = S15.p2 s := by rw [S15.ext_list]; unfold S15.p2; rw [List.drop_drop]
  have e3 : (s.extract 24 32).data.toList = S15.p3 s := by rw [S15.ext_list]; unfold S15.p3; rw [List.drop_drop, List.drop_drop]
  have e4 : s.extract 32 s.size = ⟨(S15.p4 s).toArray⟩ := S15.eqOf (by rw [S15.ext_list]; unfold S15.p4; rw [List.drop_drop, List.drop_drop, List.drop_drop, List.take_of_length_le (by simp)])
  have CG : Hid (∀ (x : ByteArray) (l : List UInt8) (wx : World), x.data.toList = l → l.length = 8 → Calls Try.prog 32 #[.string x] wx fun e w' => e = .returned (.int .u64 (W.getN l : Int)) ∧ w' = wx) := fun x l wx hx hl => by
    have := refGet_any x (by rw [← S15.list_size, hx, hl]; exact Nat.le_refl _) wx
    rw [hx] at this
    exact this
  have C0 : Hid (∀ wx, Calls Try.prog 32 #[.string (s.extract 0 8)] wx fun e w' => e = .returned (.int .u64 (W.getN (S15.p0 s) : Int)) ∧ w' = wx) := fun wx => CG.out _ _ wx e0 h0
  have C1 : Hid (∀ wx, Calls Try.prog 32 #[.string (s.extract 8 16)] wx fun e w' => e = .returned (.int .u64 (W.getN (S15.p1 s) : Int)) ∧ w' = wx) := fun wx => CG.out _ _ wx e1 h1
  have C2 : Hid (∀ wx, Calls Try.prog 32 #[.string (s.extract 16 24)] wx fun e w' => e = .returned (.int .u64 (W.getN (S15.p2 s) : Int)) ∧ w' = wx) := fun wx => CG.out _ _ wx e2 h2
  have C3 : Hid (∀ wx, Calls Try.prog 32 #[.string (s.extract 24 32)] wx fun e w' => e = .returned (.int .u64 (W.getN (S15.p3 s) : Int)) ∧ w' = wx) := fun wx => CG.out _ _ wx e3 h3
  clear e0 e1 e2 e3 CG h0 h1 h2 h3
  generalize W.getN (S15.p0 s) = n0 at *
  generalize W.getN (S15.p1 s) = n1 at *
  generalize W.getN (S15.p2 s) = n2 at *
  generalize W.getN (S15.p3 s) = n3 at *
  obtain ⟨f0, hf0⟩ : ∃ x, x = s.extract 0 8 := ⟨_, rfl⟩
  obtain ⟨f1, hf1⟩ : ∃ x, x = s.extract 8 16 := ⟨_, rfl⟩
  obtain ⟨f2, hf2⟩ : ∃ x, x = s.extract 16 24 := ⟨_, rfl⟩
  obtain ⟨f3, hf3⟩ : ∃ x, x = s.extract 24 32 := ⟨_, rfl⟩
  obtain ⟨f4, hf4⟩ : ∃ x : ByteArray, x = ⟨(S15.p4 s).toArray⟩ := ⟨_, rfl⟩
  rw [← hf4] at e4 ⊢
  rw [← hf0] at C0
  rw [← hf1] at C1
  rw [← hf2] at C2
  rw [← hf3] at C3
  have F0 : Hid (s.extract 0 8 = f0) := hf0.symm
  have F1 : Hid (s.extract 8 16 = f1) := hf1.symm
  have F2 : Hid (s.extract 16 24 = f2) := hf2.symm
  have F3 : Hid (s.extract 24 32 = f3) := hf3.symm
  have F4 : Hid (s.extract 32 s.size = f4) := e4
  have g1 : ¬ (s.size : Int) < 32 := by omega
  clear hf0 hf1 hf2 hf3 hf4 e4
  have r0 : Row (w.alloc (.cells #[.int .u64 0, .int .u64 0, .int .u64 0, .int .u64 0, .string ⟨#[]⟩] 30 (0, 0))) w.heap.size 30 [.int .u64 0, .int .u64 0, .int .u64 0, .int .u64 0, .string ⟨#[]⟩] := Row.new' rfl rfl
  have q2 : Has (w.alloc (.cells #[.int .u64 0, .int .u64 0, .int .u64 0, .int .u64 0, .string ⟨#[]⟩] 30 (0, 0))) w.heap.size 30 5 := ⟨_, rfl, r0⟩
  have bb : Below w.heap.size w (w.alloc (.cells #[.int .u64 0, .int .u64 0, .int .u64 0, .int .u64 0, .string ⟨#[]⟩] 30 (0, 0))) := (Below.refl _ _).alloc (Nat.le_refl _) _
  clear r0
  go_enter Try.func11, Try.ntmps11
  go_wp2
  generalize w.alloc (.cells #[.int .u64 0, .int .u64 0, .int .u64 0, .int .u64 0, .string ⟨#[]⟩] 30 (0, 0)) = w1 at *
  refine wp_region_held_drew (S := fun w' => Has w' w.heap.size 30 5 ∧ Below w.heap.size w w') (by kernel_rfl) (⟨q2.drew, bb.drew⟩) (fun hHeld => ?_)
  refine take_d 0 (some 8) (.string s) rfl (by kernel_rfl) (by kernel_rfl) (by kernel_rfl) (fun _ _ _ h => h) (fun oi h => by cases h; exact Or.inl ⟨by rfl, fun w' hS' => by go_simp⟩) hHeld ?_
  try simp only [Act.put, List.setIfInBounds_toArray, List.set_cons_zero, List.set_cons_succ]
  refine take_d 1 (some 9) (.string f0) rfl (by kernel_rfl) (by kernel_rfl) (by kernel_rfl) (fun _ _ _ h => h) (fun oi h => by cases h; exact Or.inl ⟨by rfl, fun w' hS' => by have hx := F0.out; have y1 : ¬ (s.size : Int) < 8 := (by omega); have y2 : ¬ (s.size : Int) < 16 := (by omega); have y3 : ¬ (s.size : Int) < 24 := (by omega); have y4 : ¬ (s.size : Int) < 32 := (by omega); go_simp⟩) hHeld ?_
  try simp only [Act.put, List.setIfInBounds_toArray, List.set_cons_zero, List.set_cons_succ]
  refine take_d 3 (some 11) (.string s) rfl (by kernel_rfl) (by kernel_rfl) (by kernel_rfl) (fun _ _ _ h => h) (fun oi h => by cases h; exact Or.inl ⟨by rfl, fun w' hS' => by go_simp⟩) hHeld ?_
  try simp only [Act.put, List.setIfInBounds_toArray, List.set_cons_zero, List.set_cons_succ]
  refine take_d 4 (some 12) (.string f1) rfl (by kernel_rfl) (by kernel_rfl) (by kernel_rfl) (fun _ _ _ h => h) (fun oi h => by cases h; exact Or.inl ⟨by rfl, fun w' hS' => by have hx := F1.out; have y1 : ¬ (s.size : Int) < 8 := (by omega); have y2 : ¬ (s.size : Int) < 16 := (by omega); have y3 : ¬ (s.size : Int) < 24 := (by omega); have y4 : ¬ (s.size : Int) < 32 := (by omega); go_simp⟩) hHeld ?_
  try simp only [Act.put, List.setIfInBounds_toArray, List.set_cons_zero, List.set_cons_succ]
  refine take_d 6 (some 14) (.string s) rfl (by kernel_rfl) (by kernel_rfl) (by kernel_rfl) (fun _ _ _ h => h) (fun oi h => by cases h; exact Or.inl ⟨by rfl, fun w' hS' => by go_simp⟩) hHeld ?_
  try simp only [Act.put, List.setIfInBounds_toArray, List.set_cons_zero, List.set_cons_succ]
  refine take_d 7 (some 15) (.string f2) rfl (by kernel_rfl) (by kernel_rfl) (by kernel_rfl) (fun _ _ _ h => h) (fun oi h => by cases h; exact Or.inl ⟨by rfl, fun w' hS' => by have hx := F2.out; have y1 : ¬ (s.size : Int) < 8 := (by omega); have y2 : ¬ (s.size : Int) < 16 := (by omega); have y3 : ¬ (s.size : Int) < 24 := (by omega); have y4 : ¬ (s.size : Int) < 32 := (by omega); go_simp⟩) hHeld ?_
  try simp only [Act.put, List.setIfInBounds_toArray, List.set_cons_zero, List.set_cons_succ]
  refine take_d 9 (some 17) (.string s) rfl (by kernel_rfl) (by kernel_rfl) (by kernel_rfl) (fun _ _ _ h => h) (fun oi h => by cases h; exact Or.inl ⟨by rfl, fun w' hS' => by go_simp⟩) hHeld ?_
  try simp only [Act.put, List.setIfInBounds_toArray, List.set_cons_zero, List.set_cons_succ]
  refine take_d 10 (some 18) (.string f3) rfl (by kernel_rfl) (by kernel_rfl) (by kernel_rfl) (fun _ _ _ h => h) (fun oi h => by cases h; exact Or.inl ⟨by rfl, fun w' hS' => by have hx := F3.out; have y1 : ¬ (s.size : Int) < 8 := (by omega); have y2 : ¬ (s.size : Int) < 16 := (by omega); have y3 : ¬ (s.size : Int) < 24 := (by omega); have y4 : ¬ (s.size : Int) < 32 := (by omega); go_simp⟩) hHeld ?_
  try simp only [Act.put, List.setIfInBounds_toArray, List.set_cons_zero, List.set_cons_succ]
  refine take_d 12 (some 20) (.string s) rfl (by kernel_rfl) (by kernel_rfl) (by kernel_rfl) (fun _ _ _ h => h) (fun oi h => by cases h; exact Or.inl ⟨by rfl, fun w' hS' => by go_simp⟩) hHeld ?_
  try simp only [Act.put, List.setIfInBounds_toArray, List.set_cons_zero, List.set_cons_succ]
  refine take_d 13 (some 21) (.string f4) rfl (by kernel_rfl) (by kernel_rfl) (by kernel_rfl) (fun _ _ _ h => h) (fun oi h => by cases h; exact Or.inl ⟨by rfl, fun w' hS' => by have hx := F4.out; have y1 : ¬ (s.size : Int) < 8 := (by omega); have y2 : ¬ (s.size : Int) < 16 := (by omega); have y3 : ¬ (s.size : Int) < 24 := (by omega); have y4 : ¬ (s.size : Int) < 32 := (by omega); go_simp⟩) hHeld ?_
  try simp only [Act.put, List.setIfInBounds_toArray, List.set_cons_zero, List.set_cons_succ]
  refine one_d 2 (some 10) rfl (by kernel_rfl) ?_
  intro o ho hd K hK
  cases ho
  go_simp
  refine (C0.out _).mono ?_
  rintro e wq ⟨rfl, rfl⟩
  refine hK.out _ _ hHeld (fun hHeld => ?_)
  clear hK K hd
  try simp only [Act.put, List.setIfInBounds_toArray, List.set_cons_zero, List.set_cons_succ]
  refine one_d 5 (some 13) rfl (by kernel_rfl) ?_
  intro o ho hd K hK
  cases ho
  go_simp
  refine (C1.out _).mono ?_
  rintro e wq ⟨rfl, rfl⟩
  refine hK.out _ _ hHeld (fun hHeld => ?_)
  clear hK K hd
  try simp only [Act.put, List.setIfInBounds_toArray, List.set_cons_zero, List.set_cons_succ]
  refine one_d 8 (some 16) rfl (by kernel_rfl) ?_
  intro o ho hd K hK
  cases ho
  go_simp
  refine (C2.out _).mono ?_
  rintro e wq ⟨rfl, rfl⟩
  refine hK.out _ _ hHeld (fun hHeld => ?_)
  clear hK K hd
  try simp only [Act.put, List.setIfInBounds_toArray, List.set_cons_zero, List.set_cons_succ]
  refine one_d 11 (some 19) rfl (by kernel_rfl) ?_
  intro o ho hd K hK
  cases ho
  go_simp
  refine (C3.out _).mono ?_
  rintro e wq ⟨rfl, rfl⟩
  refine hK.out _ _ hHeld (fun hHeld => ?_)
  clear hK K hd
  try simp only [Act.put, List.setIfInBounds_toArray, List.set_cons_zero, List.set_cons_succ]
  refine take_d 14 (some 22) (.agg #[.int .u64 (n0 : Int), .int .u64 (n1 : Int), .int .u64 (n2 : Int), .int .u64 (n3 : Int), .string f4]) rfl (by kernel_rfl) (by kernel_rfl) (by kernel_rfl) (fun _ _ _ h => h) (fun oi h => by cases h; exact Or.inl ⟨by rfl, fun w' hS' => by go_simp⟩) hHeld ?_
  try simp only [Act.put, List.setIfInBounds_toArray, List.set_cons_zero, List.set_cons_succ]
  refine one_d 15 none rfl (by kernel_rfl) ?_
  intro o ho1 hd K hK
  cases ho1
  obtain ⟨lz, hlz, rp⟩ := hHeld.1
  refine step_store_row rfl 30 (.tmp 2) (.tmp 22) rfl (w.heap.size) [.int .u64 (n0 : Int), .int .u64 (n1 : Int), .int .u64 (n2 : Int), .int .u64 (n3 : Int), .string f4] rfl rfl _ _ rp infoRI hlz (by simp [Value.oneCell']) ?_
  rw [hd]
  have rp2 := rp.setRow [.int .u64 (n0 : Int), .int .u64 (n1 : Int), .int .u64 (n2 : Int), .int .u64 (n3 : Int), .string f4]
  refine hK.out _ _ ⟨⟨_, rfl, rp2⟩, below_row hHeld.2 (by omega) _⟩ (fun hHeld => ?_)
  clear hK K hd rp
  try simp only [Act.put]
  refine take_d 16 (some 3) (.bool true) rfl (by kernel_rfl) (by kernel_rfl) (by kernel_rfl) (fun _ _ _ h => h) (fun oi h => by cases h; exact Or.inl ⟨by rfl, fun w' hS' => by go_simp⟩) hHeld ?_
  try simp only [Act.put, List.setIfInBounds_toArray, List.set_cons_zero, List.set_cons_succ]
  refine wpAnyH_done (by kernel_rfl) ?_ _
  try simp only [Act.put]
  go_wp2
  exact bodyPost_ret (results_row_tmp rfl _ _ w.heap.size 30 [.int .u64 (n0 : Int), .int .u64 (n1 : Int), .int .u64 (n2 : Int), .int .u64 (n3 : Int), .string f4] _ rfl rp2 Try.underlying30 rfl infoRI) rfl ⟨rfl, hHeld.2⟩

set_option maxHeartbeats 2000000 in
theorem refParse15_no (s : ByteArray) (hs : s.size < 32) (w : World) :
    Calls Try.prog 11 #[.string s] w fun e w' => e = .returned (.tuple #[.agg #[.int .u64 0, .int .u64 0, .int .u64 0, .int .u64 0, .string ⟨#[]⟩], .bool false]) ∧ Below w.heap.size w w' := by
  have g1 : (s.size : Int) < 32 := by omega
  have r2 : Row (w.alloc (.cells #[.int .u64 0, .int .u64 0, .int .u64 0, .int .u64 0, .string ⟨#[]⟩] 30 (0, 0))) w.heap.size 30 [.int .u64 0, .int .u64 0, .int .u64 0, .int .u64 0, .string ⟨#[]⟩] := Row.new' rfl rfl
  have bb : Below w.heap.size w (w.alloc (.cells #[.int .u64 0, .int .u64 0, .int .u64 0, .int .u64 0, .string ⟨#[]⟩] 30 (0, 0))) := (Below.refl _ _).alloc (Nat.le_refl _) _
  go_enter Try.func11, Try.ntmps11
  go_wp2_with (refine wpList_store_row rfl 30 (.tmp 2) (.tmp 7) rfl w.heap.size _ rfl rfl _ _ r2 infoRI rfl (by simp [Value.oneCell']) ?_)
  exact bodyPost_ret (results_row_tmp rfl _ _ w.heap.size 30 [.int .u64 0, .int .u64 0, .int .u64 0, .int .u64 0, .string ⟨#[]⟩] _ rfl (r2.setRow [.int .u64 0, .int .u64 0, .int .u64 0, .int .u64 0, .string ⟨#[]⟩]) Try.underlying30 rfl infoRI) rfl ⟨rfl, below_row bb (Nat.le_refl _) _⟩

end Go.Proofs.Ytglfbmgnndebiaa
