/-
  Layer 16: Take's error ways.
-/
import Derived.Test.YtjfhinhakanhaaaGTake2
namespace Go.Proofs.Ytjfhinhakanhaaa
open Go.RowKit
set_option linter.unusedVariables false
set_option linter.unusedSimpArgs false
set_option maxRecDepth 20000

set_option maxHeartbeats 1000000 in
theorem refDo_no (a d : ByteArray) (hb : bang d = true) (h1 : a.size + d.size ≤ 1099511627776) (w : World) :
    Calls Try.prog 19 #[.string a, .string d] w fun e w' => e = .returned (.tuple #[.string ⟨#[]⟩, .bool false]) ∧ w' = w := by
  have hz : a.size + d.size ≤ 9223372036854775807 := by omega
  have hlt : 0 < d.size := by
    rcases Nat.eq_zero_or_pos d.size with h | h
    · unfold bang at hb
      have : d.data.toList = [] := by
        have h2 : d.data.size = 0 := h
        exact List.eq_nil_of_length_eq_zero (by rw [Array.length_toList]; exact h2)
      rw [this] at hb
      cases hb
    · exact h
  have e0 : (0 : Int) < (d.size : Int) := by omega
  have heq : (d[0].toNat : Int) = 33 := by
    unfold bang at hb
    have hd : d.data.toList = d[0] :: d.data.toList.drop 1 := by
      have : d.data.toList[0]? = some d[0] := by simp [ByteArray.getElem_eq_getElem_data]
      cases hl : d.data.toList with
      | nil => rw [hl] at this; simp at this
      | cons x r => rw [hl] at this; simp at this; rw [this]; rfl
    rw [hd] at hb
    simp at hb
    rw [hb]; rfl
  have hnb : ((d[0].toNat : Int) == 33) = true := by rw [beq_iff_eq]; exact heq
  clear hb
  go_enter Try.func19, Try.ntmps19
  go_wp2
  go_ret2
  exact ⟨rfl, rfl⟩
set_option maxHeartbeats 1000000 in
theorem ruleF_no (a d : ByteArray) (hb : bang d = true) (h1 : a.size + d.size ≤ 1099511627776) (w : World) :
    Calls Try.prog 18 #[.string a, .string d] w fun e w' => e = .returned (.tuple #[.string ⟨#[]⟩, .int .i64 2]) ∧ w' = w := by
  have CD := Lib.hid (refDo_no a d hb h1)
  clear hb h1
  go_enter Try.func18, Try.ntmps18
  go_wp2_with fail
  refine (CD.out _).mono ?_
  rintro e _ ⟨rfl, rfl⟩
  go_wp2
  go_ret2
  exact ⟨rfl, rfl⟩

set_option maxHeartbeats 4000000 in
theorem take_11 (g n cap o nn aa tt : Nat) (d : ByteArray) (L : List R16.Cm) (w : World) (hn : L.length = n + 1) (h8 : n < 800) (hu : R16.Up L) (hc : n + 1 ≤ cap) (ha : R16.CmAt w g 0 L) (i : Nat) (hPi : R16.Pl L nn i) (hat : R16.at? L nn i = true) :
    Calls Try.prog 11 #[.agg #[.func (.func 18) #[] #[], .slice (some ⟨g, 0, none⟩) (n + 1) cap], .agg #[.int .u64 (o : Int), .int .u64 (nn : Int), .int .u64 (aa : Int), .int .u64 (tt : Int), .string d]] w fun e w' => e = .returned (.tuple #[.agg #[.func (.func 18) #[] #[], .slice (some ⟨g, 0, none⟩) (n + 1) cap], .bool false, .int .i64 11]) ∧ Below w.heap.size w w' := by
  have CP : Hid (∀ wx, R16.CmAt wx g 0 L → Calls Try.prog 20 #[.agg #[.func (.func 18) #[] #[], .slice (some ⟨g, 0, none⟩) (n + 1) cap], .int .u64 (nn : Int)] wx fun e w' => e = .returned (.tuple #[.int .i64 (i : Int), .bool true]) ∧ Below wx.heap.size wx w') := fun wx hx => by
    refine (place_any g n cap nn L wx hn (by omega) hu hx).mono ?_
    rintro e w' ⟨j, rfl, hP, hbb⟩
    obtain rfl := hP.uniq hPi
    exact ⟨by rw [hat], hbb⟩
  have la : g < w.heap.size := ha.lt
  have r1 : Row (((w.alloc (.cells #[.func (.func 18) #[] #[], .slice (some ⟨g, 0, none⟩) (n + 1) cap] 30 (0, 0))).alloc (.cells #[.int .u64 (o : Int), .int .u64 (nn : Int), .int .u64 (aa : Int), .int .u64 (tt : Int), .string d] 37 (0, 0))).alloc (.cells #[.nilFunc, .slice none 0 0] 30 (0, 0))) w.heap.size 30 [.func (.func 18) #[] #[], .slice (some ⟨g, 0, none⟩) (n + 1) cap] := ((Row.new' rfl rfl).alloc _).alloc _
  have i1 : Row (((w.alloc (.cells #[.func (.func 18) #[] #[], .slice (some ⟨g, 0, none⟩) (n + 1) cap] 30 (0, 0))).alloc (.cells #[.int .u64 (o : Int), .int .u64 (nn : Int), .int .u64 (aa : Int), .int .u64 (tt : Int), .string d] 37 (0, 0))).alloc (.cells #[.nilFunc, .slice none 0 0] 30 (0, 0))) (w.heap.size + 1) 37 [.int .u64 (o : Int), .int .u64 (nn : Int), .int .u64 (aa : Int), .int .u64 (tt : Int), .string d] := (Row.new' rfl (by simp)).alloc _
  have q1 : Row (((w.alloc (.cells #[.func (.func 18) #[] #[], .slice (some ⟨g, 0, none⟩) (n + 1) cap] 30 (0, 0))).alloc (.cells #[.int .u64 (o : Int), .int .u64 (nn : Int), .int .u64 (aa : Int), .int .u64 (tt : Int), .string d] 37 (0, 0))).alloc (.cells #[.nilFunc, .slice none 0 0] 30 (0, 0))) (w.heap.size + 2) 30 [.nilFunc, .slice none 0 0] := Row.new' rfl (by simp)
  have ha1 := ((ha.alloc (.cells #[.func (.func 18) #[] #[], .slice (some ⟨g, 0, none⟩) (n + 1) cap] 30 (0, 0))).alloc (.cells #[.int .u64 (o : Int), .int .u64 (nn : Int), .int .u64 (aa : Int), .int .u64 (tt : Int), .string d] 37 (0, 0))).alloc (.cells #[.nilFunc, .slice none 0 0] 30 (0, 0))
  have bb : Below w.heap.size w (((w.alloc (.cells #[.func (.func 18) #[] #[], .slice (some ⟨g, 0, none⟩) (n + 1) cap] 30 (0, 0))).alloc (.cells #[.int .u64 (o : Int), .int .u64 (nn : Int), .int .u64 (aa : Int), .int .u64 (tt : Int), .string d] 37 (0, 0))).alloc (.cells #[.nilFunc, .slice none 0 0] 30 (0, 0))) := (((Below.refl _ _).alloc (Nat.le_refl _) _).alloc (by simp) _).alloc (by simp; omega) _
  have h3 : w.heap.size + 3 ≤ (((w.alloc (.cells #[.func (.func 18) #[] #[], .slice (some ⟨g, 0, none⟩) (n + 1) cap] 30 (0, 0))).alloc (.cells #[.int .u64 (o : Int), .int .u64 (nn : Int), .int .u64 (aa : Int), .int .u64 (tt : Int), .string d] 37 (0, 0))).alloc (.cells #[.nilFunc, .slice none 0 0] 30 (0, 0))).heap.size := by simp
  clear hPi hat hu ha hn h3
  go_enter Try.func11, Try.ntmps11
  go_wp2_with (refine wpList_load_row rfl 30 (.tmp 2) rfl (w.heap.size) rfl _ _ _ _ r1 Try.underlying30 rfl infoRv ?_)
  generalize ((w.alloc (.cells #[.func (.func 18) #[] #[], .slice (some ⟨g, 0, none⟩) (n + 1) cap] 30 (0, 0))).alloc (.cells #[.int .u64 (o : Int), .int .u64 (nn : Int), .int .u64 (aa : Int), .int .u64 (tt : Int), .string d] 37 (0, 0))).alloc (.cells #[.nilFunc, .slice none 0 0] 30 (0, 0)) = w1 at *
  refine (CP.out _ ha1).mono ?_
  rintro e wa6 ⟨rfl, bwa6⟩
  replace r1 := r1.below bwa6 r1.lt
  replace i1 := i1.below bwa6 i1.lt
  replace q1 := q1.below bwa6 q1.lt
  replace ha1 := ha1.keep bwa6
  replace bb := bb.trans (bwa6.mono bb.size)
  clear bwa6
  have tok7 : True := True.intro
  have tok8 : True := True.intro
  go_wp2_with (first | (refine at_op (.load 30 (.tmp 2)) (by with_reducible rfl) ?_; clear tok7; refine wpList_load_row rfl 30 (.tmp 2) rfl (w.heap.size) rfl _ _ _ _ r1 Try.underlying30 rfl infoRv ?_) | (refine at_op (.store 30 (.tmp 4) (.tmp 21)) (by with_reducible rfl) ?_; clear tok8; refine wpList_store_row rfl 30 (.tmp 4) (.tmp 21) rfl ((w.heap.size + 2)) _ rfl rfl _ _ q1 infoRv rfl (by simp [Value.oneCell']) ?_))
  exact bodyPost_ret (results_row_tmp2 rfl _ _ (w.heap.size + 2) 30 [.func (.func 18) #[] #[], .slice (some ⟨g, 0, none⟩) (n + 1) cap] _ rfl (q1.setRow [.func (.func 18) #[] #[], .slice (some ⟨g, 0, none⟩) (n + 1) cap]) Try.underlying30 rfl infoRv) rfl ⟨rfl, below_row bb (show _ ≤ w.heap.size + 2 by omega) _⟩

set_option maxHeartbeats 4000000 in
theorem take_9 (g n cap o nn aa tt : Nat) (d : ByteArray) (L : List R16.Cm) (w : World) (hn : L.length = n + 1) (h8 : n < 800) (hu : R16.Up L) (hc : n + 1 ≤ cap) (ha : R16.CmAt w g 0 L) (hPi : R16.Pl L nn 0) (hat : R16.at? L nn 0 = false) :
    Calls Try.prog 11 #[.agg #[.func (.func 18) #[] #[], .slice (some ⟨g, 0, none⟩) (n + 1) cap], .agg #[.int .u64 (o : Int), .int .u64 (nn : Int), .int .u64 (aa : Int), .int .u64 (tt : Int), .string d]] w fun e w' => e = .returned (.tuple #[.agg #[.func (.func 18) #[] #[], .slice (some ⟨g, 0, none⟩) (n + 1) cap], .bool false, .int .i64 9]) ∧ Below w.heap.size w w' := by
  have CP : Hid (∀ wx, R16.CmAt wx g 0 L → Calls Try.prog 20 #[.agg #[.func (.func 18) #[] #[], .slice (some ⟨g, 0, none⟩) (n + 1) cap], .int .u64 (nn : Int)] wx fun e w' => e = .returned (.tuple #[.int .i64 0, .bool false]) ∧ Below wx.heap.size wx w') := fun wx hx => by
    refine (place_any g n cap nn L wx hn (by omega) hu hx).mono ?_
    rintro e w' ⟨j, rfl, hP, hbb⟩
    obtain rfl := hP.uniq hPi
    exact ⟨by rw [hat]; rfl, hbb⟩
  have la : g < w.heap.size := ha.lt
  have r1 : Row (((w.alloc (.cells #[.func (.func 18) #[] #[], .slice (some ⟨g, 0, none⟩) (n + 1) cap] 30 (0, 0))).alloc (.cells #[.int .u64 (o : Int), .int .u64 (nn : Int), .int .u64 (aa : Int), .int .u64 (tt : Int), .string d] 37 (0, 0))).alloc (.cells #[.nilFunc, .slice none 0 0] 30 (0, 0))) w.heap.size 30 [.func (.func 18) #[] #[], .slice (some ⟨g, 0, none⟩) (n + 1) cap] := ((Row.new' rfl rfl).alloc _).alloc _
  have i1 : Row (((w.alloc (.cells #[.func (.func 18) #[] #[], .slice (some ⟨g, 0, none⟩) (n + 1) cap] 30 (0, 0))).alloc (.cells #[.int .u64 (o : Int), .int .u64 (nn : Int), .int .u64 (aa : Int), .int .u64 (tt : Int), .string d] 37 (0, 0))).alloc (.cells #[.nilFunc, .slice none 0 0] 30 (0, 0))) (w.heap.size + 1) 37 [.int .u64 (o : Int), .int .u64 (nn : Int), .int .u64 (aa : Int), .int .u64 (tt : Int), .string d] := (Row.new' rfl (by simp)).alloc _
  have q1 : Row (((w.alloc (.cells #[.func (.func 18) #[] #[], .slice (some ⟨g, 0, none⟩) (n + 1) cap] 30 (0, 0))).alloc (.cells #[.int .u64 (o : Int), .int .u64 (nn : Int), .int .u64 (aa : Int), .int .u64 (tt : Int), .string d] 37 (0, 0))).alloc (.cells #[.nilFunc, .slice none 0 0] 30 (0, 0))) (w.heap.size + 2) 30 [.nilFunc, .slice none 0 0] := Row.new' rfl (by simp)
  have ha1 := ((ha.alloc (.cells #[.func (.func 18) #[] #[], .slice (some ⟨g, 0, none⟩) (n + 1) cap] 30 (0, 0))).alloc (.cells #[.int .u64 (o : Int), .int .u64 (nn : Int), .int .u64 (aa : Int), .int .u64 (tt : Int), .string d] 37 (0, 0))).alloc (.cells #[.nilFunc, .slice none 0 0] 30 (0, 0))
  have bb : Below w.heap.size w (((w.alloc (.cells #[.func (.func 18) #[] #[], .slice (some ⟨g, 0, none⟩) (n + 1) cap] 30 (0, 0))).alloc (.cells #[.int .u64 (o : Int), .int .u64 (nn : Int), .int .u64 (aa : Int), .int .u64 (tt : Int), .string d] 37 (0, 0))).alloc (.cells #[.nilFunc, .slice none 0 0] 30 (0, 0))) := (((Below.refl _ _).alloc (Nat.le_refl _) _).alloc (by simp) _).alloc (by simp; omega) _
  have h3 : w.heap.size + 3 ≤ (((w.alloc (.cells #[.func (.func 18) #[] #[], .slice (some ⟨g, 0, none⟩) (n + 1) cap] 30 (0, 0))).alloc (.cells #[.int .u64 (o : Int), .int .u64 (nn : Int), .int .u64 (aa : Int), .int .u64 (tt : Int), .string d] 37 (0, 0))).alloc (.cells #[.nilFunc, .slice none 0 0] 30 (0, 0))).heap.size := by simp
  clear hPi hat hu ha hn h3
  go_enter Try.func11, Try.ntmps11
  go_wp2_with (refine wpList_load_row rfl 30 (.tmp 2) rfl (w.heap.size) rfl _ _ _ _ r1 Try.underlying30 rfl infoRv ?_)
  generalize ((w.alloc (.cells #[.func (.func 18) #[] #[], .slice (some ⟨g, 0, none⟩) (n + 1) cap] 30 (0, 0))).alloc (.cells #[.int .u64 (o : Int), .int .u64 (nn : Int), .int .u64 (aa : Int), .int .u64 (tt : Int), .string d] 37 (0, 0))).alloc (.cells #[.nilFunc, .slice none 0 0] 30 (0, 0)) = w1 at *
  refine (CP.out _ ha1).mono ?_
  rintro e wa6 ⟨rfl, bwa6⟩
  replace r1 := r1.below bwa6 r1.lt
  replace i1 := i1.below bwa6 i1.lt
  replace q1 := q1.below bwa6 q1.lt
  replace ha1 := ha1.keep bwa6
  replace bb := bb.trans (bwa6.mono bb.size)
  clear bwa6
  have tok7 : True := True.intro
  have tok8 : True := True.intro
  go_wp2_with (first | (refine at_op (.load 30 (.tmp 2)) (by with_reducible rfl) ?_; clear tok7; refine wpList_load_row rfl 30 (.tmp 2) rfl (w.heap.size) rfl _ _ _ _ r1 Try.underlying30 rfl infoRv ?_) | (refine at_op (.store 30 (.tmp 4) (.tmp 24)) (by with_reducible rfl) ?_; clear tok8; refine wpList_store_row rfl 30 (.tmp 4) (.tmp 24) rfl ((w.heap.size + 2)) _ rfl rfl _ _ q1 infoRv rfl (by simp [Value.oneCell']) ?_))
  exact bodyPost_ret (results_row_tmp2 rfl _ _ (w.heap.size + 2) 30 [.func (.func 18) #[] #[], .slice (some ⟨g, 0, none⟩) (n + 1) cap] _ rfl (q1.setRow [.func (.func 18) #[] #[], .slice (some ⟨g, 0, none⟩) (n + 1) cap]) Try.underlying30 rfl infoRv) rfl ⟨rfl, below_row bb (show _ ≤ w.heap.size + 2 by omega) _⟩

set_option maxHeartbeats 4000000 in
theorem take_19b (g n cap o nn aa tt : Nat) (d : ByteArray) (L : List R16.Cm) (w : World) (hn : L.length = n + 1) (h8 : n < 800) (hu : R16.Up L) (hc : n + 1 ≤ cap) (ha : R16.CmAt w g 0 L) (i : Nat) (hPi : R16.Pl L nn i) (hat : R16.at? L nn i = false) (hi0 : 0 < i) (hO : ∀ j, R16.Pl L o j → R16.at? L o j = true) (hge : nn ≤ o) :
    Calls Try.prog 11 #[.agg #[.func (.func 18) #[] #[], .slice (some ⟨g, 0, none⟩) (n + 1) cap], .agg #[.int .u64 (o : Int), .int .u64 (nn : Int), .int .u64 (aa : Int), .int .u64 (tt : Int), .string d]] w fun e w' => e = .returned (.tuple #[.agg #[.func (.func 18) #[] #[], .slice (some ⟨g, 0, none⟩) (n + 1) cap], .bool false, .int .i64 19]) ∧ Below w.heap.size w w' := by
  have CP : Hid (∀ wx, R16.CmAt wx g 0 L → Calls Try.prog 20 #[.agg #[.func (.func 18) #[] #[], .slice (some ⟨g, 0, none⟩) (n + 1) cap], .int .u64 (nn : Int)] wx fun e w' => e = .returned (.tuple #[.int .i64 (i : Int), .bool false]) ∧ Below wx.heap.size wx w') := fun wx hx => by
    refine (place_any g n cap nn L wx hn (by omega) hu hx).mono ?_
    rintro e w' ⟨j, rfl, hP, hbb⟩
    obtain rfl := hP.uniq hPi
    exact ⟨by rw [hat], hbb⟩
  have CO : Hid (∀ wx, R16.CmAt wx g 0 L → Calls Try.prog 14 #[.agg #[.func (.func 18) #[] #[], .slice (some ⟨g, 0, none⟩) (n + 1) cap], .int .u64 (o : Int)] wx fun e w' => ∃ x, e = .returned (.tuple #[.string x, .bool true]) ∧ Below wx.heap.size wx w') := fun wx hx => by
    refine (of_any16 g n cap o L wx hn (by omega) hu hx).mono ?_
    rintro e w' ⟨j, rfl, hP, hbb⟩
    exact ⟨_, by rw [hO j hP], hbb⟩
  have e3 : (nn : Int) ≤ (o : Int) := by omega
  have d3 : decide ((nn : Int) ≤ (o : Int)) = true := decide_eq_true e3
  have e5 : ((i : Int) == 0) = false := by rw [beq_eq_false_iff_ne]; omega
  have la : g < w.heap.size := ha.lt
  have r1 : Row (((w.alloc (.cells #[.func (.func 18) #[] #[], .slice (some ⟨g, 0, none⟩) (n + 1) cap] 30 (0, 0))).alloc (.cells #[.int .u64 (o : Int), .int .u64 (nn : Int), .int .u64 (aa : Int), .int .u64 (tt : Int), .string d] 37 (0, 0))).alloc (.cells #[.nilFunc, .slice none 0 0] 30 (0, 0))) w.heap.size 30 [.func (.func 18) #[] #[], .slice (some ⟨g, 0, none⟩) (n + 1) cap] := ((Row.new' rfl rfl).alloc _).alloc _
  have i1 : Row (((w.alloc (.cells #[.func (.func 18) #[] #[], .slice (some ⟨g, 0, none⟩) (n + 1) cap] 30 (0, 0))).alloc (.cells #[.int .u64 (o : Int), .int .u64 (nn : Int), .int .u64 (aa : Int), .int .u64 (tt : Int), .string d] 37 (0, 0))).alloc (.cells #[.nilFunc, .slice none 0 0] 30 (0, 0))) (w.heap.size + 1) 37 [.int .u64 (o : Int), .int .u64 (nn : Int), .int .u64 (aa : Int), .int .u64 (tt : Int), .string d] := (Row.new' rfl (by simp)).alloc _
  have q1 : Row (((w.alloc (.cells #[.func (.func 18) #[] #[], .slice (some ⟨g, 0, none⟩) (n + 1) cap] 30 (0, 0))).alloc (.cells #[.int .u64 (o : Int), .int .u64 (nn : Int), .int .u64 (aa : Int), .int .u64 (tt : Int), .string d] 37 (0, 0))).alloc (.cells #[.nilFunc, .slice none 0 0] 30 (0, 0))) (w.heap.size + 2) 30 [.nilFunc, .slice none 0 0] := Row.new' rfl (by simp)
  have ha1 := ((ha.alloc (.cells #[.func (.func 18) #[] #[], .slice (some ⟨g, 0, none⟩) (n + 1) cap] 30 (0, 0))).alloc (.cells #[.int .u64 (o : Int), .int .u64 (nn : Int), .int .u64 (aa : Int), .int .u64 (tt : Int), .string d] 37 (0, 0))).alloc (.cells #[.nilFunc, .slice none 0 0] 30 (0, 0))
  have bb : Below w.heap.size w (((w.alloc (.cells #[.func (.func 18) #[] #[], .slice (some ⟨g, 0, none⟩) (n + 1) cap] 30 (0, 0))).alloc (.cells #[.int .u64 (o : Int), .int .u64 (nn : Int), .int .u64 (aa : Int), .int .u64 (tt : Int), .string d] 37 (0, 0))).alloc (.cells #[.nilFunc, .slice none 0 0] 30 (0, 0))) := (((Below.refl _ _).alloc (Nat.le_refl _) _).alloc (by simp) _).alloc (by simp; omega) _
  have h3 : w.heap.size + 3 ≤ (((w.alloc (.cells #[.func (.func 18) #[] #[], .slice (some ⟨g, 0, none⟩) (n + 1) cap] 30 (0, 0))).alloc (.cells #[.int .u64 (o : Int), .int .u64 (nn : Int), .int .u64 (aa : Int), .int .u64 (tt : Int), .string d] 37 (0, 0))).alloc (.cells #[.nilFunc, .slice none 0 0] 30 (0, 0))).heap.size := by simp
  clear hPi hat hO hge hu ha hn h3
  go_enter Try.func11, Try.ntmps11
  go_wp2_with (refine wpList_load_row rfl 30 (.tmp 2) rfl (w.heap.size) rfl _ _ _ _ r1 Try.underlying30 rfl infoRv ?_)
  generalize ((w.alloc (.cells #[.func (.func 18) #[] #[], .slice (some ⟨g, 0, none⟩) (n + 1) cap] 30 (0, 0))).alloc (.cells #[.int .u64 (o : Int), .int .u64 (nn : Int), .int .u64 (aa : Int), .int .u64 (tt : Int), .string d] 37 (0, 0))).alloc (.cells #[.nilFunc, .slice none 0 0] 30 (0, 0)) = w1 at *
  refine (CP.out _ ha1).mono ?_
  rintro e wa6 ⟨rfl, bwa6⟩
  replace r1 := r1.below bwa6 r1.lt
  replace i1 := i1.below bwa6 i1.lt
  replace q1 := q1.below bwa6 q1.lt
  replace ha1 := ha1.keep bwa6
  replace bb := bb.trans (bwa6.mono bb.size)
  clear bwa6
  have ci10 : wa6.cell? ⟨(w.heap.size + 1), 0, none⟩ = some (.int .u64 (o : Int)) := i1.cell 0
  have tok7 : True := True.intro
  go_wp2_with (first | (refine at_op (.load 30 (.tmp 2)) (by with_reducible rfl) ?_; clear tok7; refine wpList_load_row rfl 30 (.tmp 2) rfl (w.heap.size) rfl _ _ _ _ r1 Try.underlying30 rfl infoRv ?_))
  clear ci10
  refine (CO.out _ ha1).mono ?_
  rintro e wa8 ⟨x, rfl, bwa8⟩
  replace r1 := r1.below bwa8 r1.lt
  replace i1 := i1.below bwa8 i1.lt
  replace q1 := q1.below bwa8 q1.lt
  replace ha1 := ha1.keep bwa8
  replace bb := bb.trans (bwa8.mono bb.size)
  clear bwa8
  have ci10 : wa8.cell? ⟨(w.heap.size + 1), 0, none⟩ = some (.int .u64 (o : Int)) := i1.cell 0
  have ci11 : wa8.cell? ⟨(w.heap.size + 1), 1, none⟩ = some (.int .u64 (nn : Int)) := i1.cell 1
  have tok9 : True := True.intro
  have tok10 : True := True.intro
  go_wp2_with (first | (refine at_op (.load 30 (.tmp 2)) (by with_reducible rfl) ?_; clear tok9; refine wpList_load_row rfl 30 (.tmp 2) rfl (w.heap.size) rfl _ _ _ _ r1 Try.underlying30 rfl infoRv ?_) | (refine at_op (.store 30 (.tmp 4) (.tmp 41)) (by with_reducible rfl) ?_; clear tok10; refine wpList_store_row rfl 30 (.tmp 4) (.tmp 41) rfl ((w.heap.size + 2)) _ rfl rfl _ _ q1 infoRv rfl (by simp [Value.oneCell']) ?_))
  exact bodyPost_ret (results_row_tmp2 rfl _ _ (w.heap.size + 2) 30 [.func (.func 18) #[] #[], .slice (some ⟨g, 0, none⟩) (n + 1) cap] _ rfl (q1.setRow [.func (.func 18) #[] #[], .slice (some ⟨g, 0, none⟩) (n + 1) cap]) Try.underlying30 rfl infoRv) rfl ⟨rfl, below_row bb (show _ ≤ w.heap.size + 2 by omega) _⟩

set_option maxHeartbeats 4000000 in
theorem take_4 (g n cap o nn aa tt : Nat) (d : ByteArray) (L : List R16.Cm) (w : World) (hn : L.length = n + 1) (h8 : n < 800) (hu : R16.Up L) (hc : n + 1 ≤ cap) (ha : R16.CmAt w g 0 L) (i jo : Nat) (po : R16.Cm) (hPi : R16.Pl L nn i) (hat : R16.at? L nn i = false) (hi0 : 0 < i) (hpo : L[jo]? = some po) (hon : po.num = o) (hon2 : o < nn) (hb : bang d = true) (hs : po.tx.size + d.size ≤ 1099511627776) :
    Calls Try.prog 11 #[.agg #[.func (.func 18) #[] #[], .slice (some ⟨g, 0, none⟩) (n + 1) cap], .agg #[.int .u64 (o : Int), .int .u64 (nn : Int), .int .u64 (aa : Int), .int .u64 (tt : Int), .string d]] w fun e w' => e = .returned (.tuple #[.agg #[.func (.func 18) #[] #[], .slice (some ⟨g, 0, none⟩) (n + 1) cap], .bool false, .int .i64 4]) ∧ Below w.heap.size w w' := by
  have CP : Hid (∀ wx, R16.CmAt wx g 0 L → Calls Try.prog 20 #[.agg #[.func (.func 18) #[] #[], .slice (some ⟨g, 0, none⟩) (n + 1) cap], .int .u64 (nn : Int)] wx fun e w' => e = .returned (.tuple #[.int .i64 (i : Int), .bool false]) ∧ Below wx.heap.size wx w') := fun wx hx => by
    refine (place_any g n cap nn L wx hn (by omega) hu hx).mono ?_
    rintro e w' ⟨j, rfl, hP, hbb⟩
    obtain rfl := hP.uniq hPi
    exact ⟨by rw [hat], hbb⟩
  have CO : Hid (∀ wx, R16.CmAt wx g 0 L → Calls Try.prog 14 #[.agg #[.func (.func 18) #[] #[], .slice (some ⟨g, 0, none⟩) (n + 1) cap], .int .u64 (o : Int)] wx fun e w' => e = .returned (.tuple #[.string po.tx, .bool true]) ∧ Below wx.heap.size wx w') := fun wx hx => by
    refine (of_any16 g n cap o L wx hn (by omega) hu hx).mono ?_
    rintro e w' ⟨j, rfl, hP, hbb⟩
    obtain ⟨_, h1, h2⟩ := hP.at hu hpo hon
    exact ⟨by rw [h1, h2], hbb⟩
  have CC : Hid (∀ wx, Calls Try.prog 21 #[.string d] wx fun e w' => e = .returned (.string d) ∧ Below wx.heap.size wx w') := fun wx => clone_any d wx (by omega)
  have CR : Hid (∀ wx, Calls Try.prog 18 #[.string po.tx, .string d] wx fun e w' => e = .returned (.tuple #[.string ⟨#[]⟩, .int .i64 2]) ∧ Below wx.heap.size wx w') := fun wx => by
    refine (ruleF_no po.tx d hb hs wx).mono ?_
    rintro e w' ⟨rfl, rfl⟩
    exact ⟨rfl, Below.refl _ _⟩
  have e3 : ¬ (nn : Int) ≤ (o : Int) := by omega
  have d3 : decide ((nn : Int) ≤ (o : Int)) = false := decide_eq_false e3
  have e5 : ((i : Int) == 0) = false := by rw [beq_eq_false_iff_ne]; omega
  have ptx := po.tx
  have la : g < w.heap.size := ha.lt
  have r1 : Row (((w.alloc (.cells #[.func (.func 18) #[] #[], .slice (some ⟨g, 0, none⟩) (n + 1) cap] 30 (0, 0))).alloc (.cells #[.int .u64 (o : Int), .int .u64 (nn : Int), .int .u64 (aa : Int), .int .u64 (tt : Int), .string d] 37 (0, 0))).alloc (.cells #[.nilFunc, .slice none 0 0] 30 (0, 0))) w.heap.size 30 [.func (.func 18) #[] #[], .slice (some ⟨g, 0, none⟩) (n + 1) cap] := ((Row.new' rfl rfl).alloc _).alloc _
  have i1 : Row (((w.alloc (.cells #[.func (.func 18) #[] #[], .slice (some ⟨g, 0, none⟩) (n + 1) cap] 30 (0, 0))).alloc (.cells #[.int .u64 (o : Int), .int .u64 (nn : Int), .int .u64 (aa : Int), .int .u64 (tt : Int), .string d] 37 (0, 0))).alloc (.cells #[.nilFunc, .slice none 0 0] 30 (0, 0))) (w.heap.size + 1) 37 [.int .u64 (o : Int), .int .u64 (nn : Int), .int .u64 (aa : Int), .int .u64 (tt : Int), .string d] := (Row.new' rfl (by simp)).alloc _
  have q1 : Row (((w.alloc (.cells #[.func (.func 18) #[] #[], .slice (some ⟨g, 0, none⟩) (n + 1) cap] 30 (0, 0))).alloc (.cells #[.int .u64 (o : Int), .int .u64 (nn : Int), .int .u64 (aa : Int), .int .u64 (tt : Int), .string d] 37 (0, 0))).alloc (.cells #[.nilFunc, .slice none 0 0] 30 (0, 0))) (w.heap.size + 2) 30 [.nilFunc, .slice none 0 0] := Row.new' rfl (by simp)
  have ha1 := ((ha.alloc (.cells #[.func (.func 18) #[] #[], .slice (some ⟨g, 0, none⟩) (n + 1) cap] 30 (0, 0))).alloc (.cells #[.int .u64 (o : Int), .int .u64 (nn : Int), .int .u64 (aa : Int), .int .u64 (tt : Int), .string d] 37 (0, 0))).alloc (.cells #[.nilFunc, .slice none 0 0] 30 (0, 0))
  have bb : Below w.heap.size w (((w.alloc (.cells #[.func (.func 18) #[] #[], .slice (some ⟨g, 0, none⟩) (n + 1) cap] 30 (0, 0))).alloc (.cells #[.int .u64 (o : Int), .int .u64 (nn : Int), .int .u64 (aa : Int), .int .u64 (tt : Int), .string d] 37 (0, 0))).alloc (.cells #[.nilFunc, .slice none 0 0] 30 (0, 0))) := (((Below.refl _ _).alloc (Nat.le_refl _) _).alloc (by simp) _).alloc (by simp; omega) _
  have h3 : w.heap.size + 3 ≤ (((w.alloc (.cells #[.func (.func 18) #[] #[], .slice (some ⟨g, 0, none⟩) (n + 1) cap] 30 (0, 0))).alloc (.cells #[.int .u64 (o : Int), .int .u64 (nn : Int), .int .u64 (aa : Int), .int .u64 (tt : Int), .string d] 37 (0, 0))).alloc (.cells #[.nilFunc, .slice none 0 0] 30 (0, 0))).heap.size := by simp
  clear hPi hat hpo hon hon2 hb hs ptx hu ha hn h3
  generalize po.tx = vt at *
  go_enter Try.func11, Try.ntmps11
  go_wp2_with (refine wpList_load_row rfl 30 (.tmp 2) rfl (w.heap.size) rfl _ _ _ _ r1 Try.underlying30 rfl infoRv ?_)
  generalize ((w.alloc (.cells #[.func (.func 18) #[] #[], .slice (some ⟨g, 0, none⟩) (n + 1) cap] 30 (0, 0))).alloc (.cells #[.int .u64 (o : Int), .int .u64 (nn : Int), .int .u64 (aa : Int), .int .u64 (tt : Int), .string d] 37 (0, 0))).alloc (.cells #[.nilFunc, .slice none 0 0] 30 (0, 0)) = w1 at *
  refine (CP.out _ ha1).mono ?_
  rintro e wa6 ⟨rfl, bwa6⟩
  replace r1 := r1.below bwa6 r1.lt
  replace i1 := i1.below bwa6 i1.lt
  replace q1 := q1.below bwa6 q1.lt
  replace ha1 := ha1.keep bwa6
  replace bb := bb.trans (bwa6.mono bb.size)
  clear bwa6
  have ci10 : wa6.cell? ⟨(w.heap.size + 1), 0, none⟩ = some (.int .u64 (o : Int)) := i1.cell 0
  have tok7 : True := True.intro
  go_wp2_with (first | (refine at_op (.load 30 (.tmp 2)) (by with_reducible rfl) ?_; clear tok7; refine wpList_load_row rfl 30 (.tmp 2) rfl (w.heap.size) rfl _ _ _ _ r1 Try.underlying30 rfl infoRv ?_))
  clear ci10
  refine (CO.out _ ha1).mono ?_
  rintro e wa8 ⟨rfl, bwa8⟩
  replace r1 := r1.below bwa8 r1.lt
  replace i1 := i1.below bwa8 i1.lt
  replace q1 := q1.below bwa8 q1.lt
  replace ha1 := ha1.keep bwa8
  replace bb := bb.trans (bwa8.mono bb.size)
  clear bwa8
  have ci10 : wa8.cell? ⟨(w.heap.size + 1), 0, none⟩ = some (.int .u64 (o : Int)) := i1.cell 0
  have ci11 : wa8.cell? ⟨(w.heap.size + 1), 1, none⟩ = some (.int .u64 (nn : Int)) := i1.cell 1
  go_wp2
  clear ci10 ci11
  refine wp_region_held_drew (S := fun w' => Row w' w.heap.size 30 [.func (.func 18) #[] #[], .slice (some ⟨g, 0, none⟩) (n + 1) cap] ∧ Row w' (w.heap.size + 1) 37 [.int .u64 (o : Int), .int .u64 (nn : Int), .int .u64 (aa : Int), .int .u64 (tt : Int), .string d] ∧ Row w' (w.heap.size + 2) 30 [.nilFunc, .slice none 0 0] ∧ R16.CmAt w' g 0 L ∧ Below w.heap.size w w') (by kernel_rfl) (⟨r1.drew, i1.drew, q1.drew, ha1.drew, bb.drew⟩) (fun hHeld => ?_)
  generalize wa8.drew = wd9 at *
  refine take_d 0 (some 43) (.pointer (some ⟨w.heap.size, 0, none⟩)) rfl (by kernel_rfl) (by kernel_rfl) (by kernel_rfl) (fun _ _ _ h => h) (fun oi h => by cases h; exact Or.inl ⟨by rfl, fun w' hS' => by go_simp⟩) hHeld ?_
  try simp only [Act.put, List.setIfInBounds_toArray, List.set_cons_zero, List.set_cons_succ]
  refine take_d 1 (some 44) (.pointer (some ⟨w.heap.size, 0, none⟩)) rfl (by kernel_rfl) (by kernel_rfl) (by kernel_rfl) (fun _ _ _ h => h) (fun oi h => by cases h; exact Or.inl ⟨by rfl, fun w' hS' => by go_simp⟩) hHeld ?_
  try simp only [Act.put, List.setIfInBounds_toArray, List.set_cons_zero, List.set_cons_succ]
  refine take_d 2 (some 45) (.func (.func 18) #[] #[]) rfl (by kernel_rfl) (by kernel_rfl) (by kernel_rfl) (fun _ _ _ h => h) (fun oi h => by cases h; exact Or.inl ⟨by rfl, fun w' hS' => by have c : w'.cell? ⟨w.heap.size, 0, none⟩ = some (.func (.func 18) #[] #[]) := hS'.1.cell 0; go_simp⟩) hHeld ?_
  try simp only [Act.put, List.setIfInBounds_toArray, List.set_cons_zero, List.set_cons_succ]
  refine take_d 3 (some 46) (.string vt) rfl (by kernel_rfl) (by kernel_rfl) (by kernel_rfl) (fun _ _ _ h => h) (fun oi h => by cases h; exact Or.inl ⟨by rfl, fun w' hS' => by go_simp⟩) hHeld ?_
  try simp only [Act.put, List.setIfInBounds_toArray, List.set_cons_zero, List.set_cons_succ]
  refine take_d 4 (some 47) (.pointer (some ⟨(w.heap.size + 1), 4, none⟩)) rfl (by kernel_rfl) (by kernel_rfl) (by kernel_rfl) (fun _ _ _ h => h) (fun oi h => by cases h; exact Or.inl ⟨by rfl, fun w' hS' => by go_simp⟩) hHeld ?_
  try simp only [Act.put, List.setIfInBounds_toArray, List.set_cons_zero, List.set_cons_succ]
  refine take_d 5 (some 48) (.string d) rfl (by kernel_rfl) (by kernel_rfl) (by kernel_rfl) (fun _ _ _ h => h) (fun oi h => by cases h; exact Or.inl ⟨by rfl, fun w' hS' => by have c : w'.cell? ⟨(w.heap.size + 1), 4, none⟩ = some (.string d) := hS'.2.1.cell 4; go_simp⟩) hHeld ?_
  try simp only [Act.put, List.setIfInBounds_toArray, List.set_cons_zero, List.set_cons_succ]
  refine one_d 6 (some 49) rfl (by kernel_rfl) ?_
  intro o ho1 hd K hK
  cases ho1
  go_simp
  refine (CC.out _).mono ?_
  rintro e v10 ⟨rfl, bb0⟩
  refine hK.out _ _ (⟨hHeld.1.below bb0 hHeld.1.lt, hHeld.2.1.below bb0 hHeld.2.1.lt, hHeld.2.2.1.below bb0 hHeld.2.2.1.lt, hHeld.2.2.2.1.keep bb0, hHeld.2.2.2.2.trans (bb0.mono hHeld.2.2.2.2.size)⟩) (fun hHeld => ?_)
  clear bb0
  clear hK K hd
  try simp only [Act.put, List.setIfInBounds_toArray, List.set_cons_zero, List.set_cons_succ]
  refine one_d 7 (some 50) rfl (by kernel_rfl) ?_
  intro o ho1 hd K hK
  cases ho1
  go_simp
  refine (CR.out _).mono ?_
  rintro e v11 ⟨rfl, bb0⟩
  refine hK.out _ _ (⟨hHeld.1.below bb0 hHeld.1.lt, hHeld.2.1.below bb0 hHeld.2.1.lt, hHeld.2.2.1.below bb0 hHeld.2.2.1.lt, hHeld.2.2.2.1.keep bb0, hHeld.2.2.2.2.trans (bb0.mono hHeld.2.2.2.2.size)⟩) (fun hHeld => ?_)
  clear bb0
  clear hK K hd
  try simp only [Act.put, List.setIfInBounds_toArray, List.set_cons_zero, List.set_cons_succ]
  refine take_d 8 (some 42) (.tuple #[.string ⟨#[]⟩, .int .i64 2]) rfl (by kernel_rfl) (by kernel_rfl) (by kernel_rfl) (fun _ _ _ h => h) (fun oi h => by cases h; exact Or.inl ⟨by rfl, fun w' hS' => by go_simp⟩) hHeld ?_
  try simp only [Act.put, List.setIfInBounds_toArray, List.set_cons_zero, List.set_cons_succ]
  refine take_d 9 (some 51) (.string ⟨#[]⟩) rfl (by kernel_rfl) (by kernel_rfl) (by kernel_rfl) (fun _ _ _ h => h) (fun oi h => by cases h; exact Or.inl ⟨by rfl, fun w' hS' => by go_simp⟩) hHeld ?_
  try simp only [Act.put, List.setIfInBounds_toArray, List.set_cons_zero, List.set_cons_succ]
  refine take_d 10 (some 52) (.int .i64 2) rfl (by kernel_rfl) (by kernel_rfl) (by kernel_rfl) (fun _ _ _ h => h) (fun oi h => by cases h; exact Or.inl ⟨by rfl, fun w' hS' => by go_simp⟩) hHeld ?_
  try simp only [Act.put, List.setIfInBounds_toArray, List.set_cons_zero, List.set_cons_succ]
  refine take_d 11 (some 10) (.string ⟨#[]⟩) rfl (by kernel_rfl) (by kernel_rfl) (by kernel_rfl) (fun _ _ _ h => h) (fun oi h => by cases h; exact Or.inl ⟨by rfl, fun w' hS' => by go_simp⟩) hHeld ?_
  try simp only [Act.put, List.setIfInBounds_toArray, List.set_cons_zero, List.set_cons_succ]
  refine take_d 12 (some 11) (.int .i64 2) rfl (by kernel_rfl) (by kernel_rfl) (by kernel_rfl) (fun _ _ _ h => h) (fun oi h => by cases h; exact Or.inl ⟨by rfl, fun w' hS' => by go_simp⟩) hHeld ?_
  try simp only [Act.put, List.setIfInBounds_toArray, List.set_cons_zero, List.set_cons_succ]
  refine wpAnyH_done (by kernel_rfl) ?_ _
  try simp only [Act.put]
  replace r1 := hHeld.1
  replace i1 := hHeld.2.1
  replace q1 := hHeld.2.2.1
  replace ha1 := hHeld.2.2.2.1
  replace bb := hHeld.2.2.2.2
  clear hHeld
  have tok12 : True := True.intro
  have tok13 : True := True.intro
  go_wp2_with (first | (refine at_op (.load 30 (.tmp 2)) (by with_reducible rfl) ?_; clear tok12; refine wpList_load_row rfl 30 (.tmp 2) rfl (w.heap.size) rfl _ _ _ _ r1 Try.underlying30 rfl infoRv ?_) | (refine at_op (.store 30 (.tmp 4) (.tmp 55)) (by with_reducible rfl) ?_; clear tok13; refine wpList_store_row rfl 30 (.tmp 4) (.tmp 55) rfl ((w.heap.size + 2)) _ rfl rfl _ _ q1 infoRv rfl (by simp [Value.oneCell']) ?_))
  exact bodyPost_ret (results_row_tmp2 rfl _ _ (w.heap.size + 2) 30 [.func (.func 18) #[] #[], .slice (some ⟨g, 0, none⟩) (n + 1) cap] _ rfl (q1.setRow [.func (.func 18) #[] #[], .slice (some ⟨g, 0, none⟩) (n + 1) cap]) Try.underlying30 rfl infoRv) rfl ⟨rfl, below_row bb (show _ ≤ w.heap.size + 2 by omega) _⟩

end Go.Proofs.Ytjfhinhakanhaaa
