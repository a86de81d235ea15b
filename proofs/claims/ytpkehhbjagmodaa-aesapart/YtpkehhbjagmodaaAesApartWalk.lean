/-
  Layer 5: the walk of AesApart: it answers true at every key and every two blocks.
-/
import Derived.Test.YtpkehhbjagmodaaAAwake
import Derived.Test.YtpkehhbjagmodaaAConv
import Derived.Test.YtpkehhbjagmodaaAInj
import Derived.Test.YtpkehhbjagmodaaIArr
namespace Go.Proofs.Ytpkehhbjagmodaa.AesApartW
open Go.RowKit
set_option linter.unusedVariables false

theorem first_key (k : List UInt8) (hk : k.length = 16) (w : World) : (Instr.index 34 (.agg (W.cellsOf (E.rks k 11)).toArray) (.int .i64 0)).run Try.prog w = .ok (.agg (W.cellsOf k).toArray) w := by
  have hs : ∀ wx, (sizeOf 23).run Try.prog wx = .ok 16 wx := fun wx => by kernel_rfl
  have e : List.take 16 (W.cellsOf (E.rks k 11)) = W.cellsOf k := by
    have := rks_part hk (i := 0) (by decide)
    simp only [Nat.mul_zero, List.drop_zero] at this
    rw [show List.take 16 (W.cellsOf (E.rks k 11)) = W.cellsOf ((E.rks k 11).take 16) from by simp [W.cellsOf, List.map_take], this]; rfl
  simp [Instr.index, run_underlying Try.underlying34, asIntOf, go_sem, part, hs, isAgg, run_underlying Try.underlying23, e]
theorem same_eq (k a b : List UInt8) (ha : a.length = 16) (hb : b.length = 16) : (E.enc k a == E.enc k b) = (a == b) := by
  rw [Bool.eq_iff_iff, beq_iff_eq, beq_iff_eq]
  exact ⟨E.enc_inj ha hb, fun h => by rw [h]⟩

theorem rangeAt_lt {w : World} {g : Nat} {cs : List Value} (h : w.rangeAt g 0 cs) (hl : 0 < cs.length) : g < w.heap.size := by
  have := h 0 cs[0] (by simp)
  by_cases hg : g < w.heap.size
  · exact hg
  · exfalso
    simp [World.cell?, Array.getElem?_eq_none (show w.heap.size ≤ g by omega)] at this
theorem rangeAt_below {w w' : World} {g B : Nat} {cs : List Value} (h : w.rangeAt g 0 cs) (hb : Below B w w') (hg : g < B) : w'.rangeAt g 0 cs := by
  intro j v hj
  rw [hb.cell (p := ⟨g, 0 + j, none⟩) hg]
  exact h j v hj

set_option maxHeartbeats 4000000 in
theorem core (a0 : ByteArray) (a b : List UInt8) (w : World) (w0 : a0.size ≤ maxLen) (ha : a.length = 16) (hb : b.length = 16) :
    Calls Try.prog 5 #[.string a0, .agg (W.cellsOf a).toArray, .agg (W.cellsOf b).toArray] w fun e w' => e = .returned (.bool true) ∧ Below w.heap.size w w' := by
  unfold maxLen at w0
  have HA := Lib.hid ha
  have HB := Lib.hid hb
  clear ha hb
  go_enter Try.func5, Try.ntmps5
  go_wp2_with fail
  refine (awake5_any _).mono ?_
  rintro e w1 ⟨rfl, hb1⟩
  have ra1 : Row w1 w.heap.size 23 (W.cellsOf a) := Row.below (Row.alloc (Row.new' rfl rfl) _) hb1 (by simp; omega)
  have rb1 : Row w1 (w.heap.size + 1) 23 (W.cellsOf b) := Row.below (Row.new' rfl (by simp)) hb1 (by simp)
  have hw1 : Below w.heap.size w w1 := (((Below.refl _ _).alloc (Nat.le_refl _) _).alloc (by simp) _).trans (hb1.mono (by simp; omega))
  clear hb1
  by_cases hL : a0.size = 16
  case neg =>
    go_wp2_with fail
    refine (new_no a0 hL _).mono ?_
    rintro e w2 ⟨rfl, b2⟩
    have hb2 := hw1.trans (b2.mono hw1.size)
    have hiz := info16k (b := List.replicate 16 0) rfl
    have hbz := hb2.alloc hb2.size (.cells (W.cellsOf (List.replicate 16 0)).toArray 26 (0, 0))
    generalize hcz : W.cellsOf (List.replicate 16 0) = cz at *
    have haz : cz.toArray.all (·.oneCell') = true := by rw [← hcz]; exact c8_all _
    have hsz : ∀ z : Array Value, z = (W.cellsOf (List.replicate 16 0)).toArray → z.size = cz.toArray.size := fun z hz => by rw [hz, hcz]
    go_wp2_with (first | refine wpList_store_new rfl 26 (.tmp 7) (.tmp 14) rfl w2 _ _ _ _ rfl rfl rfl hiz (hsz _ rfl) haz ?_)
    go_ret
    exact ⟨rfl, hbz⟩
  case pos =>
  have CN : Hid (∀ wx, Calls Try.prog 12 #[.string a0] wx fun e w' => e = .returned (.tuple #[.agg (W.cellsOf a0.data.toList).toArray, .int .i64 0]) ∧ Below wx.heap.size wx w') := fun wx => new_yes a0 hL wx
  have HK : Hid (a0.data.toList.length = 16) := by simpa [Hid] using hL
  have HCV : Hid (∀ wx, ∃ cap wc, (convert 9 30 (.string a0)).run Try.prog wx = .ok (.slice (some ⟨wx.heap.size, 0, none⟩) 16 cap) wc ∧ 16 ≤ cap ∧ wc.rangeAt wx.heap.size 0 (W.cellsOf a0.data.toList) ∧ Below wx.heap.size wx wc) := fun wx => conv16 a0 hL wx
  obtain ⟨k, hk⟩ : ∃ k, k = a0.data.toList := ⟨_, rfl⟩
  rw [← hk] at CN HK HCV
  have HKE := Lib.hid hk
  clear hk
  have CRS : Hid (∀ wx, Calls Try.prog 15 #[.agg (W.cellsOf k).toArray] wx fun e w' => e = .returned (.agg (W.cellsOf (E.rks k 11)).toArray) ∧ Below wx.heap.size wx w') := fun wx => rounds_any k HK.out wx
  have CEA : Hid (∀ wx, Calls Try.prog 16 #[.agg (W.cellsOf k).toArray, .agg (W.cellsOf a).toArray] wx fun e w' => e = .returned (.agg (W.cellsOf (E.enc k a)).toArray) ∧ Below wx.heap.size wx w') := fun wx => enc_any k a HK.out HA.out wx
  have CEB : Hid (∀ wx, Calls Try.prog 16 #[.agg (W.cellsOf k).toArray, .agg (W.cellsOf b).toArray] wx fun e w' => e = .returned (.agg (W.cellsOf (E.enc k b)).toArray) ∧ Below wx.heap.size wx w') := fun wx => enc_any k b HK.out HB.out wx
  have hik := info16k HK.out
  have hik' : (Try.prog.info? 26).map (·.size) = some (W.cellsOf k).length := by simpa using hik
  have huk : Try.prog.underlying 26 = some _ := Try.underlying26
  have hu1 : Try.prog.underlying 23 = some (.array 16 5) := Try.underlying23
  have hia := info16' HA.out
  have hib := info16' HB.out
  have hi1 := info16' HK.out
  have HFK := Lib.hid (first_key k HK.out)
  have HEQ1 := Lib.hid (equal16 (E.enc k a) (E.enc k b) (E.enc_length _ _) (E.enc_length _ _))
  rw [same_eq k a b HA.out HB.out] at HEQ1
  have HEQ2 := Lib.hid (equal16 a b HA.out HB.out)
  have HEQ3 := Lib.hid (equal16 k k HK.out HK.out)
  rw [show (k == k) = true by simp] at HEQ3
  obtain ⟨q, hq⟩ : ∃ q : Bool, q = (a == b) := ⟨_, rfl⟩
  rw [← hq] at HEQ1 HEQ2
  clear hq
  have HO0 : Hid ((W.cellsOf (List.replicate 16 0)).toArray.size = (W.cellsOf k).toArray.size) := by rw [List.size_toArray, List.size_toArray, c8_len, c8_len, HK.out]; rfl
  generalize E.enc k a = ea at *
  generalize E.enc k b = eb at *
  generalize E.rks k 11 = ks at *
  clear hL
  go_wp2_with fail
  refine (CN.out _).mono ?_
  rintro e w2 ⟨rfl, b2⟩
  have hb2 : Below w.heap.size w w2 := hw1.trans (b2.mono hw1.size)
  have ra2 := Row.below ra1 b2 ra1.lt
  have rb2 := Row.below rb1 b2 rb1.lt
  clear b2 hw1 ra1 rb1
  have rk : Row (w2.alloc (.cells (W.cellsOf k).toArray 26 (0, 0))) w2.heap.size 26 (W.cellsOf k) := Row.new' rfl rfl
  have ra := ra2.alloc (.cells (W.cellsOf k).toArray 26 (0, 0))
  have rb := rb2.alloc (.cells (W.cellsOf k).toArray 26 (0, 0))
  have rz := hb2.alloc hb2.size (.cells (W.cellsOf k).toArray 26 (0, 0))
  clear ra2 rb2
  go_wp2_with (first | refine wpList_store_new rfl 26 (.tmp 7) (.tmp 14) rfl w2 _ _ _ _ rfl rfl rfl hik HO0.out (c8_all _) ?_)
  generalize w2.alloc (.cells (W.cellsOf k).toArray 26 (0, 0)) = wa at *
  have hgk : w.heap.size ≤ w2.heap.size := hb2.size
  clear hb2 CN HO0
  generalize w2.heap.size = g at *
  generalize hga : w.heap.size + 1 = gb at *
  have lk : Hid (∀ wx, Row wx g 26 (W.cellsOf k) → wx.rangeAt g 0 (W.cellsOf k)) := fun wx h => by have := h.rangeOf 0 16; rwa [List.drop_zero, List.take_of_length_le (by rw [c8_len, HK.out]; decide)] at this
  have la : Hid (∀ wx, Row wx w.heap.size 23 (W.cellsOf a) → wx.rangeAt w.heap.size 0 (W.cellsOf a)) := fun wx h => by have := h.rangeOf 0 16; rwa [List.drop_zero, List.take_of_length_le (by rw [c8_len, HA.out]; decide)] at this
  have lb : Hid (∀ wx, Row wx gb 23 (W.cellsOf b) → wx.rangeAt gb 0 (W.cellsOf b)) := fun wx h => by have := h.rangeOf 0 16; rwa [List.drop_zero, List.take_of_length_le (by rw [c8_len, HB.out]; decide)] at this
  go_wp2_with fail
  refine wp_region_held_drew (S := fun w' => w'.rangeAt g 0 (W.cellsOf k) ∧ w'.rangeAt w.heap.size 0 (W.cellsOf a) ∧ w'.rangeAt gb 0 (W.cellsOf b)) (by kernel_rfl) ⟨lk.out _ rk, la.out _ ra, lb.out _ rb⟩ (fun hHeld => ?_)
  refine take_d 0 (some 18) (.agg (W.cellsOf k).toArray) rfl (by kernel_rfl) (by kernel_rfl) (by kernel_rfl) (fun _ _ _ h => h) (fun oi h => by cases h; exact yieldsIf_load_mid (by rfl) 26 (.tmp 7) rfl g 0 rfl (W.cellsOf k) _ (fun w' hS' => hS'.1) huk rfl hik') hHeld ?_
  try simp only [Act.put, List.setIfInBounds_toArray, List.set_cons_zero, List.set_cons_succ]
  refine take_d 1 (some 19) (.agg (W.cellsOf a).toArray) rfl (by kernel_rfl) (by kernel_rfl) (by kernel_rfl) (fun _ _ _ h => h) (fun oi h => by cases h; exact yieldsIf_load_mid (by rfl) 23 (.tmp 4) rfl w.heap.size 0 rfl (W.cellsOf a) _ (fun w' hS' => hS'.2.1) hu1 rfl hia) hHeld ?_
  try simp only [Act.put, List.setIfInBounds_toArray, List.set_cons_zero, List.set_cons_succ]
  refine take_d 3 (some 21) (.agg (W.cellsOf k).toArray) rfl (by kernel_rfl) (by kernel_rfl) (by kernel_rfl) (fun _ _ _ h => h) (fun oi h => by cases h; exact yieldsIf_load_mid (by rfl) 26 (.tmp 7) rfl g 0 rfl (W.cellsOf k) _ (fun w' hS' => hS'.1) huk rfl hik') hHeld ?_
  try simp only [Act.put, List.setIfInBounds_toArray, List.set_cons_zero, List.set_cons_succ]
  refine take_d 4 (some 22) (.agg (W.cellsOf b).toArray) rfl (by kernel_rfl) (by kernel_rfl) (by kernel_rfl) (fun _ _ _ h => h) (fun oi h => by cases h; exact yieldsIf_load_mid (by rfl) 23 (.tmp 5) rfl gb 0 rfl (W.cellsOf b) _ (fun w' hS' => hS'.2.2) hu1 rfl hib) hHeld ?_
  try simp only [Act.put, List.setIfInBounds_toArray, List.set_cons_zero, List.set_cons_succ]
  refine take_d 7 (some 25) (.agg (W.cellsOf a).toArray) rfl (by kernel_rfl) (by kernel_rfl) (by kernel_rfl) (fun _ _ _ h => h) (fun oi h => by cases h; exact yieldsIf_load_mid (by rfl) 23 (.tmp 4) rfl w.heap.size 0 rfl (W.cellsOf a) _ (fun w' hS' => hS'.2.1) hu1 rfl hia) hHeld ?_
  try simp only [Act.put, List.setIfInBounds_toArray, List.set_cons_zero, List.set_cons_succ]
  refine take_d 8 (some 26) (.agg (W.cellsOf b).toArray) rfl (by kernel_rfl) (by kernel_rfl) (by kernel_rfl) (fun _ _ _ h => h) (fun oi h => by cases h; exact yieldsIf_load_mid (by rfl) 23 (.tmp 5) rfl gb 0 rfl (W.cellsOf b) _ (fun w' hS' => hS'.2.2) hu1 rfl hib) hHeld ?_
  try simp only [Act.put, List.setIfInBounds_toArray, List.set_cons_zero, List.set_cons_succ]
  refine take_d 9 (some 27) (.bool q) rfl (by kernel_rfl) (by kernel_rfl) (by kernel_rfl) (fun _ _ _ h => h) (fun oi h => by cases h; exact Or.inl ⟨by rfl, fun w' hS' => by have heq := HEQ2.out w'; go_simp⟩) hHeld ?_
  try simp only [Act.put, List.setIfInBounds_toArray, List.set_cons_zero, List.set_cons_succ]
  have dk := rk.drew
  have da := ra.drew
  have db := rb.drew
  have dz := rz.drew
  clear rk ra rb rz
  refine one_d 2 (some 20) rfl (by kernel_rfl) ?_
  intro o ho hd K hK
  cases ho
  go_simp
  refine (CEA.out _).mono ?_
  rintro e wA ⟨rfl, bb⟩
  have ek := Row.below dk bb dk.lt
  have ea := Row.below da bb da.lt
  have eb := Row.below db bb db.lt
  have ez := dz.trans (bb.mono dz.size)
  clear bb hHeld dk da db dz
  refine hK.out _ _ ⟨lk.out _ ek, la.out _ ea, lb.out _ eb⟩ (fun hHeld => ?_)
  clear hK K
  try simp only [Act.put, List.setIfInBounds_toArray, List.set_cons_zero, List.set_cons_succ]
  clear hd
  refine one_d 5 (some 23) rfl (by kernel_rfl) ?_
  intro o ho hd K hK
  cases ho
  go_simp
  refine (CEB.out _).mono ?_
  rintro e wB ⟨rfl, bb⟩
  have fk := Row.below ek bb ek.lt
  have fa := Row.below ea bb ea.lt
  have fb := Row.below eb bb eb.lt
  have fz := ez.trans (bb.mono ez.size)
  clear bb hHeld ek ea eb ez
  refine hK.out _ _ ⟨lk.out _ fk, la.out _ fa, lb.out _ fb⟩ (fun hHeld => ?_)
  clear hK K
  try simp only [Act.put, List.setIfInBounds_toArray, List.set_cons_zero, List.set_cons_succ]
  clear hd
  refine take_d 6 (some 24) (.bool q) rfl (by kernel_rfl) (by kernel_rfl) (by kernel_rfl) (fun _ _ _ h => h) (fun oi h => by cases h; exact Or.inl ⟨by rfl, fun w' hS' => by have heq := HEQ1.out w'; go_simp⟩) hHeld ?_
  try simp only [Act.put, List.setIfInBounds_toArray, List.set_cons_zero, List.set_cons_succ]
  refine take_d 10 (some 28) (.bool true) rfl (by kernel_rfl) (by kernel_rfl) (by kernel_rfl) (fun _ _ _ h => h) (fun oi h => by cases h; exact Or.inl ⟨by rfl, fun w' hS' => by go_simp⟩) hHeld ?_
  try simp only [Act.put, List.setIfInBounds_toArray, List.set_cons_zero, List.set_cons_succ]
  refine take_d 11 (some 29) (.bool true) rfl (by kernel_rfl) (by kernel_rfl) (by kernel_rfl) (fun _ _ _ h => h) (fun oi h => by cases h; exact Or.inl ⟨by rfl, fun w' hS' => by go_simp⟩) hHeld ?_
  try simp only [Act.put, List.setIfInBounds_toArray, List.set_cons_zero, List.set_cons_succ]
  refine take_d 12 (some 30) (.agg (W.cellsOf k).toArray) rfl (by kernel_rfl) (by kernel_rfl) (by kernel_rfl) (fun _ _ _ h => h) (fun oi h => by cases h; exact yieldsIf_load_mid (by rfl) 26 (.tmp 7) rfl g 0 rfl (W.cellsOf k) _ (fun w' hS' => hS'.1) huk rfl hik') hHeld ?_
  try simp only [Act.put, List.setIfInBounds_toArray, List.set_cons_zero, List.set_cons_succ]
  refine take_d 15 (some 33) (.string a0) rfl (by kernel_rfl) (by kernel_rfl) (by kernel_rfl) (fun _ _ _ h => h) (fun oi h => by cases h; exact Or.inl ⟨by rfl, fun w' hS' => by go_simp⟩) hHeld ?_
  try simp only [Act.put, List.setIfInBounds_toArray, List.set_cons_zero, List.set_cons_succ]
  refine two_d 13 16 rfl rfl (by kernel_rfl) ?_ ?_
  · intro K hK
    go_simp
    refine (CRS.out _).mono ?_
    rintro e wC ⟨rfl, bb⟩
    have gk := Row.below fk bb fk.lt
    have ga := Row.below fa bb fa.lt
    have gb := Row.below fb bb fb.lt
    have gz := fz.trans (bb.mono fz.size)
    clear bb hHeld fk fa fb fz
    refine hK.out _ _ ⟨lk.out _ gk, la.out _ ga, lb.out _ gb⟩ (fun hHeld => ?_)
    clear hK K
    try simp only [Act.put, List.setIfInBounds_toArray, List.set_cons_zero, List.set_cons_succ]
    refine take_d 14 (some 32) (.agg (W.cellsOf k).toArray) rfl (by kernel_rfl) (by kernel_rfl) (by kernel_rfl) (fun _ _ _ h => h) (fun oi h => by cases h; exact Or.inl ⟨by rfl, fun w' hS' => by have hfk := HFK.out w'; go_simp⟩) hHeld ?_
    try simp only [Act.put, List.setIfInBounds_toArray, List.set_cons_zero, List.set_cons_succ]
    refine one_d 16 (some 34) rfl (by kernel_rfl) ?_
    intro o ho hd K hK
    cases ho
    obtain ⟨cap, wc, hcv, hcap, hrc, hbc⟩ := HCV.out wC
    have hk := Row.below gk hbc gk.lt
    have ha := Row.below ga hbc ga.lt
    have hb := Row.below gb hbc gb.lt
    have hz : Below w.heap.size w wc := gz.trans (hbc.mono gz.size)
    clear hbc
    go_simp
    refine hK.out _ _ ⟨lk.out _ hk, la.out _ ha, lb.out _ hb⟩ (fun hHeld => ?_)
    clear hK K hcv gk ga gb gz
    try simp only [Act.put, List.setIfInBounds_toArray, List.set_cons_zero, List.set_cons_succ]
    have har := array16 wC.heap.size cap
    refine take_d 17 (some 35) (.pointer (some ⟨wC.heap.size, 0, none⟩)) rfl (by kernel_rfl) (by kernel_rfl) (by kernel_rfl) (fun _ _ _ h => h) (fun oi h => by cases h; exact Or.inl ⟨by rfl, fun w' hS' => by go_simp⟩) hHeld ?_
    try simp only [Act.put, List.setIfInBounds_toArray, List.set_cons_zero, List.set_cons_succ]
    clear har
    refine one_d 18 (some 36) rfl (by kernel_rfl) ?_
    intro o ho hd K hK
    cases ho
    rw [if_pos (by rfl)]
    refine wp_load_mid 23 (.tmp 35) rfl wC.heap.size 0 rfl (W.cellsOf k) _ hrc hu1 rfl hi1 ?_
    rw [hd]
    refine hK.out _ _ hHeld (fun hHeld => ?_)
    clear hK K
    try simp only [Act.put, List.setIfInBounds_toArray, List.set_cons_zero, List.set_cons_succ]
    refine take_d 19 (some 37) (.bool true) rfl (by kernel_rfl) (by kernel_rfl) (by kernel_rfl) (fun _ _ _ h => h) (fun oi h => by cases h; exact Or.inl ⟨by rfl, fun w' hS' => by have heq := HEQ3.out w'; go_simp⟩) hHeld ?_
    try simp only [Act.put, List.setIfInBounds_toArray, List.set_cons_zero, List.set_cons_succ]
    refine take_d 20 (some 38) (.bool true) rfl (by kernel_rfl) (by kernel_rfl) (by kernel_rfl) (fun _ _ _ h => h) (fun oi h => by cases h; exact Or.inl ⟨by rfl, fun w' hS' => by go_simp⟩) hHeld ?_
    try simp only [Act.put, List.setIfInBounds_toArray, List.set_cons_zero, List.set_cons_succ]
    refine take_d 21 (some 6) (.bool true) rfl (by kernel_rfl) (by kernel_rfl) (by kernel_rfl) (fun _ _ _ h => h) (fun oi h => by cases h; exact Or.inl ⟨by rfl, fun w' hS' => by go_simp⟩) hHeld ?_
    try simp only [Act.put, List.setIfInBounds_toArray, List.set_cons_zero, List.set_cons_succ]
    clear hHeld
    refine wpAnyH_done (by kernel_rfl) ?_ _
    try simp only [Act.put]
    go_wp2
    go_ret
    exact ⟨rfl, hz⟩
  · intro K hK
    obtain ⟨cap, wc, hcv, hcap, hrc, hbc⟩ := HCV.out wB
    have gk := Row.below fk hbc fk.lt
    have ga := Row.below fa hbc fa.lt
    have gb := Row.below fb hbc fb.lt
    have gz : Below w.heap.size w wc := fz.trans (hbc.mono fz.size)
    clear hbc
    go_simp
    refine hK.out _ _ ⟨lk.out _ gk, la.out _ ga, lb.out _ gb⟩ (fun hHeld => ?_)
    clear hK K hcv fk fa fb fz
    try simp only [Act.put, List.setIfInBounds_toArray, List.set_cons_zero, List.set_cons_succ]
    have har := array16 wB.heap.size cap
    refine take_d 17 (some 35) (.pointer (some ⟨wB.heap.size, 0, none⟩)) rfl (by kernel_rfl) (by kernel_rfl) (by kernel_rfl) (fun _ _ _ h => h) (fun oi h => by cases h; exact Or.inl ⟨by rfl, fun w' hS' => by go_simp⟩) hHeld ?_
    try simp only [Act.put, List.setIfInBounds_toArray, List.set_cons_zero, List.set_cons_succ]
    clear har
    refine two_d 13 18 rfl rfl (by kernel_rfl) ?_ ?_
    · intro K hK
      go_simp
      refine (CRS.out _).mono ?_
      rintro e wC ⟨rfl, bb⟩
      have hk := Row.below gk bb gk.lt
      have ha := Row.below ga bb ga.lt
      have hb := Row.below gb bb gb.lt
      have hrc := rangeAt_below hrc bb (rangeAt_lt hrc (by rw [c8_len, HK.out]; decide))
      have hz := gz.trans (bb.mono gz.size)
      clear bb hHeld gk ga gb gz
      refine hK.out _ _ ⟨lk.out _ hk, la.out _ ha, lb.out _ hb⟩ (fun hHeld => ?_)
      clear hK K
      try simp only [Act.put, List.setIfInBounds_toArray, List.set_cons_zero, List.set_cons_succ]
      refine take_d 14 (some 32) (.agg (W.cellsOf k).toArray) rfl (by kernel_rfl) (by kernel_rfl) (by kernel_rfl) (fun _ _ _ h => h) (fun oi h => by cases h; exact Or.inl ⟨by rfl, fun w' hS' => by have hfk := HFK.out w'; go_simp⟩) hHeld ?_
      try simp only [Act.put, List.setIfInBounds_toArray, List.set_cons_zero, List.set_cons_succ]
      refine one_d 18 (some 36) rfl (by kernel_rfl) ?_
      intro o ho hd K hK
      cases ho
      rw [if_pos (by rfl)]
      refine wp_load_mid 23 (.tmp 35) rfl wB.heap.size 0 rfl (W.cellsOf k) _ hrc hu1 rfl hi1 ?_
      rw [hd]
      refine hK.out _ _ hHeld (fun hHeld => ?_)
      clear hK K
      try simp only [Act.put, List.setIfInBounds_toArray, List.set_cons_zero, List.set_cons_succ]
      refine take_d 19 (some 37) (.bool true) rfl (by kernel_rfl) (by kernel_rfl) (by kernel_rfl) (fun _ _ _ h => h) (fun oi h => by cases h; exact Or.inl ⟨by rfl, fun w' hS' => by have heq := HEQ3.out w'; go_simp⟩) hHeld ?_
      try simp only [Act.put, List.setIfInBounds_toArray, List.set_cons_zero, List.set_cons_succ]
      refine take_d 20 (some 38) (.bool true) rfl (by kernel_rfl) (by kernel_rfl) (by kernel_rfl) (fun _ _ _ h => h) (fun oi h => by cases h; exact Or.inl ⟨by rfl, fun w' hS' => by go_simp⟩) hHeld ?_
      try simp only [Act.put, List.setIfInBounds_toArray, List.set_cons_zero, List.set_cons_succ]
      refine take_d 21 (some 6) (.bool true) rfl (by kernel_rfl) (by kernel_rfl) (by kernel_rfl) (fun _ _ _ h => h) (fun oi h => by cases h; exact Or.inl ⟨by rfl, fun w' hS' => by go_simp⟩) hHeld ?_
      try simp only [Act.put, List.setIfInBounds_toArray, List.set_cons_zero, List.set_cons_succ]
      clear hHeld
      refine wpAnyH_done (by kernel_rfl) ?_ _
      try simp only [Act.put]
      go_wp2
      go_ret
      exact ⟨rfl, hz⟩
    · intro K hK
      rw [if_pos (by rfl)]
      refine wp_load_mid 23 (.tmp 35) rfl wB.heap.size 0 rfl (W.cellsOf k) _ hrc hu1 rfl hi1 ?_
      refine hK.out _ _ hHeld (fun hHeld => ?_)
      clear hK K
      try simp only [Act.put, List.setIfInBounds_toArray]
      refine one_d 13 (some 31) rfl (by kernel_rfl) ?_
      intro o ho hd K hK
      cases ho
      go_simp
      refine (CRS.out _).mono ?_
      rintro e wC ⟨rfl, bb⟩
      have hk := Row.below gk bb gk.lt
      have ha := Row.below ga bb ga.lt
      have hb := Row.below gb bb gb.lt
      have hz := gz.trans (bb.mono gz.size)
      clear bb hHeld gk ga gb gz
      refine hK.out _ _ ⟨lk.out _ hk, la.out _ ha, lb.out _ hb⟩ (fun hHeld => ?_)
      clear hK K
      try simp only [Act.put, List.setIfInBounds_toArray, List.set_cons_zero, List.set_cons_succ]
      refine take_d 14 (some 32) (.agg (W.cellsOf k).toArray) rfl (by kernel_rfl) (by kernel_rfl) (by kernel_rfl) (fun _ _ _ h => h) (fun oi h => by cases h; exact Or.inl ⟨by rfl, fun w' hS' => by have hfk := HFK.out w'; go_simp⟩) hHeld ?_
      try simp only [Act.put, List.setIfInBounds_toArray, List.set_cons_zero, List.set_cons_succ]
      refine take_d 19 (some 37) (.bool true) rfl (by kernel_rfl) (by kernel_rfl) (by kernel_rfl) (fun _ _ _ h => h) (fun oi h => by cases h; exact Or.inl ⟨by rfl, fun w' hS' => by have heq := HEQ3.out w'; go_simp⟩) hHeld ?_
      try simp only [Act.put, List.setIfInBounds_toArray, List.set_cons_zero, List.set_cons_succ]
      refine take_d 20 (some 38) (.bool true) rfl (by kernel_rfl) (by kernel_rfl) (by kernel_rfl) (fun _ _ _ h => h) (fun oi h => by cases h; exact Or.inl ⟨by rfl, fun w' hS' => by go_simp⟩) hHeld ?_
      try simp only [Act.put, List.setIfInBounds_toArray, List.set_cons_zero, List.set_cons_succ]
      refine take_d 21 (some 6) (.bool true) rfl (by kernel_rfl) (by kernel_rfl) (by kernel_rfl) (fun _ _ _ h => h) (fun oi h => by cases h; exact Or.inl ⟨by rfl, fun w' hS' => by go_simp⟩) hHeld ?_
      try simp only [Act.put, List.setIfInBounds_toArray, List.set_cons_zero, List.set_cons_succ]
      clear hHeld
      refine wpAnyH_done (by kernel_rfl) ?_ _
      try simp only [Act.put]
      go_wp2
      go_ret
      exact ⟨rfl, hz⟩

theorem walk (a0 : ByteArray) (a1 : List UInt8) (a2 : List UInt8) (w : World) (w0 : a0.size ≤ maxLen) (w1 : a1.length = 16) (w2 : a2.length = 16) :
    Calls Try.prog 5 #[.string a0, .agg (W.cellsOf a1).toArray, .agg (W.cellsOf a2).toArray] w fun e w' => e = .returned (.bool true) ∧ Below w.heap.size w w' := core a0 a1 a2 w w0 w1 w2

end Go.Proofs.Ytpkehhbjagmodaa.AesApartW
