/-
  Layer 13's statements: Of: what any turns make of keys, and of the document's.
-/
import Derived.Test.YtggkkahifoccfaaKLaw
namespace Go.Proofs.Ytggkkahifoccfaa
open Go.RowKit
set_option linter.unusedVariables false
set_option linter.unusedSimpArgs false
set_option maxRecDepth 20000

theorem infoAct13 : (Try.prog.info? 57).map (·.size) = some 3 := by kernel_rfl
theorem repeatL_size13 (b : UInt8) (n : Nat) : (Lib.repeatL [b] n).length = n := by
  induction n with
  | zero => rfl
  | succ n ih => show (b :: Lib.repeatL [b] n).length = _; rw [List.length_cons, ih]

set_option maxHeartbeats 8000000 in
theorem of13_any (a : Option Addr) (len cap : Nat) (w : World) (hl : LightU w a len 40 600) :
    Calls Try.prog 9 #[.slice a len cap] w fun e w' => ∃ (f : Nat) (T : ByteArray), e = .returned (.tuple #[.agg #[.int .u64 (f : Int), .string T], .agg #[.int .u64 (f : Int), .string T], .bool true]) ∧ (f + T.size ≤ 24000 ∧ T.size ≤ 256) ∧ Below w.heap.size w w' := by
  obtain ⟨h40, hin⟩ := hl
  have HIN := Lib.hid hin
  clear hin
  have p2 : Has ((((w.alloc (.cells #[.int .u64 0, .string ⟨#[]⟩] 27 (0, 0))).alloc (.cells #[.int .u64 0, .string ⟨#[]⟩] 29 (0, 0))).alloc (.cells #[.int .u64 0, .string ⟨#[]⟩] 27 (0, 0))).alloc (.cells #[.int .u64 0, .string ⟨#[]⟩] 29 (0, 0))) w.heap.size 27 2 := ⟨_, rfl, (((Row.new' rfl rfl).alloc _).alloc _).alloc _⟩
  have p3 : Has ((((w.alloc (.cells #[.int .u64 0, .string ⟨#[]⟩] 27 (0, 0))).alloc (.cells #[.int .u64 0, .string ⟨#[]⟩] 29 (0, 0))).alloc (.cells #[.int .u64 0, .string ⟨#[]⟩] 27 (0, 0))).alloc (.cells #[.int .u64 0, .string ⟨#[]⟩] 29 (0, 0))) (w.heap.size + 1) 29 2 := ⟨_, rfl, ((Row.new' rfl (by simp)).alloc _).alloc _⟩
  have r : Row ((((w.alloc (.cells #[.int .u64 0, .string ⟨#[]⟩] 27 (0, 0))).alloc (.cells #[.int .u64 0, .string ⟨#[]⟩] 29 (0, 0))).alloc (.cells #[.int .u64 0, .string ⟨#[]⟩] 27 (0, 0))).alloc (.cells #[.int .u64 0, .string ⟨#[]⟩] 29 (0, 0))) (w.heap.size + 2) 27 [.int .u64 0, .string ⟨#[]⟩] := (Row.new' rfl (by simp)).alloc _
  have q : Row ((((w.alloc (.cells #[.int .u64 0, .string ⟨#[]⟩] 27 (0, 0))).alloc (.cells #[.int .u64 0, .string ⟨#[]⟩] 29 (0, 0))).alloc (.cells #[.int .u64 0, .string ⟨#[]⟩] 27 (0, 0))).alloc (.cells #[.int .u64 0, .string ⟨#[]⟩] 29 (0, 0))) (w.heap.size + 3) 29 [.int .u64 0, .string ⟨#[]⟩] := Row.new' rfl (by simp)
  have bb : Below w.heap.size w ((((w.alloc (.cells #[.int .u64 0, .string ⟨#[]⟩] 27 (0, 0))).alloc (.cells #[.int .u64 0, .string ⟨#[]⟩] 29 (0, 0))).alloc (.cells #[.int .u64 0, .string ⟨#[]⟩] 27 (0, 0))).alloc (.cells #[.int .u64 0, .string ⟨#[]⟩] 29 (0, 0))) := ((((Below.refl _ _).alloc (Nat.le_refl _) _).alloc (by simp) _).alloc (by simp; omega) _).alloc (by simp; omega) _
  go_enter Try.func9, Try.ntmps9
  go_wp2
  generalize ((((w.alloc (.cells #[.int .u64 0, .string ⟨#[]⟩] 27 (0, 0))).alloc (.cells #[.int .u64 0, .string ⟨#[]⟩] 29 (0, 0))).alloc (.cells #[.int .u64 0, .string ⟨#[]⟩] 27 (0, 0))).alloc (.cells #[.int .u64 0, .string ⟨#[]⟩] 29 (0, 0))) = w0 at *
  go_loopw [14] (fun iv wr => ∃ (k f : Nat) (T : ByteArray), k ≤ len ∧ iv = .int .i64 (k : Int) ∧ f + T.size ≤ 600 * k ∧ T.size ≤ 256 ∧ Has wr w.heap.size 27 2 ∧ Has wr (w.heap.size + 1) 29 2 ∧ Row wr (w.heap.size + 2) 27 [.int .u64 (f : Int), .string T] ∧ Row wr (w.heap.size + 3) 29 [.int .u64 (f : Int), .string T] ∧ Below w.heap.size w wr) (fun iv _ => len - (intOf iv).toNat)
  case atStart => exact ⟨0, 0, ⟨#[]⟩, Nat.zero_le _, rfl, by decide, by decide, p2, p3, r, q, bb⟩
  case round =>
    clear p2 p3 r q bb
    obtain ⟨k, f, T, hk, rfl, hfT, hT, p2, p3, r, q, bb⟩ := hrel
    by_cases hlt : k < len
    · have hs : (k : Int) < len := by omega
      obtain ⟨bk, off, rfl, hbk, hcell⟩ := HIN.out (by omega)
      obtain ⟨d, z, s, hd, hz, hsz, e0, e1, e2⟩ := hcell k hlt
      have c0 := (bb.cell (p := ⟨bk, off + k * 3, none⟩) hbk).trans e0
      have c1 := (bb.cell (p := ⟨bk, off + k * 3 + 1, none⟩) hbk).trans e1
      have c2 := (bb.cell (p := ⟨bk, off + k * 3 + 2, none⟩) hbk).trans e2
      obtain ⟨m, hm⟩ : ∃ m, m = d % 4 := ⟨_, rfl⟩
      have htm : ((d : Int).tmod 4) = (m : Int) := by rw [hm]; rfl
      have hqm : ((d : Int) % 4) = (m : Int) := by rw [hm]; rfl
      have hm4 : m < 4 := by omega
      have hsb : s.size ≤ 1099511627776 := by omega
      have hfb : f + T.size + 600 ≤ 4611686018427387904 := by omega
      clear hm e0 e1 e2 hcell HIN
      have CI : Hid (∀ (f : Nat) (T : ByteArray) wx, f + T.size ≤ 4611686018427387904 → T.size ≤ 1099511627776 → Calls Try.prog 18 #[.agg #[.int .u64 (f : Int), .string T], .agg #[.int .u64 (f : Int), .string T]] wx fun e w' => e = .returned (.bool true) ∧ Below wx.heap.size wx w') := fun f T wx h1 h2 => is13_any f T h1 h2 wx
      rcases (show m = 0 ∨ m = 1 ∨ m = 2 ∨ m = 3 by omega) with rfl | rfl | rfl | rfl
      · by_cases hfit : T.size + s.size ≤ 256
        · obtain ⟨X, hX⟩ : ∃ X : ByteArray, X = T ++ s := ⟨_, rfl⟩
          have hXs : X.size = T.size + s.size := by rw [hX, ByteArray.size_append]
          have CT : Hid (∀ wx, Calls Try.prog 19 #[.agg #[.int .u64 (f : Int), .string T], .string s] wx fun e w' => e = .returned (.tuple #[.agg #[.int .u64 (f : Int), .string X], .int .i64 0]) ∧ Below wx.heap.size wx w') := fun wx => by rw [hX]; exact type_ok f T s (by omega) hfit wx
          have CRT : Hid (∀ wx, Calls Try.prog 22 #[.agg #[.int .u64 (f : Int), .string T], .string s] wx fun e w' => e = .returned (.tuple #[.agg #[.int .u64 (f : Int), .string X], .int .i64 0]) ∧ Below wx.heap.size wx w') := fun wx => by rw [hX]; exact refType_ok f T s (by omega) hfit wx
          have CI := Lib.hid (fun wx => CI.out f X wx (by omega) (by omega))
          have HB1 : Hid (f + X.size ≤ 600 * (k + 1)) := by show _ ≤ _; omega
          have HB2 : Hid (X.size ≤ 256) := by show _ ≤ _; omega
          clear hX hXs
          have ra : Row (wr.alloc (.cells #[.int .u8 (d : Int), .int .u64 (z : Int), .string s] 57 (0, 0))) wr.heap.size 57 [.int .u8 (d : Int), .int .u64 (z : Int), .string s] := Row.new' rfl rfl
          have lp2ra : w.heap.size < wr.heap.size := p2.lt
          have lp3ra : (w.heap.size + 1) < wr.heap.size := p3.lt
          have lrra : (w.heap.size + 2) < wr.heap.size := r.lt
          have lqra : (w.heap.size + 3) < wr.heap.size := q.lt
          have lbra := bb.size
          replace p2 := p2.alloc (.cells #[.int .u8 (d : Int), .int .u64 (z : Int), .string s] 57 (0, 0))
          replace p3 := p3.alloc (.cells #[.int .u8 (d : Int), .int .u64 (z : Int), .string s] 57 (0, 0))
          replace r := r.alloc (.cells #[.int .u8 (d : Int), .int .u64 (z : Int), .string s] 57 (0, 0))
          replace q := q.alloc (.cells #[.int .u8 (d : Int), .int .u64 (z : Int), .string s] 57 (0, 0))
          replace bb := bb.alloc bb.size (.cells #[.int .u8 (d : Int), .int .u64 (z : Int), .string s] 57 (0, 0))
          have cra0 : (wr.alloc (.cells #[.int .u8 (d : Int), .int .u64 (z : Int), .string s] 57 (0, 0))).cell? ⟨wr.heap.size, 0, none⟩ = some (.int .u8 (d : Int)) := ra.cell 0
          have cra1 : (wr.alloc (.cells #[.int .u8 (d : Int), .int .u64 (z : Int), .string s] 57 (0, 0))).cell? ⟨wr.heap.size, 1, none⟩ = some (.int .u64 (z : Int)) := ra.cell 1
          have cra2 : (wr.alloc (.cells #[.int .u8 (d : Int), .int .u64 (z : Int), .string s] 57 (0, 0))).cell? ⟨wr.heap.size, 2, none⟩ = some (.string s) := ra.cell 2
          go_wp2_with (first | refine wpList_load_row rfl 27 (.tmp 5) rfl ((w.heap.size + 2)) rfl _ _ _ _ r Try.underlying27 rfl infoKeys ?_)
          obtain ⟨ga, hga⟩ : ∃ ga, ga = wr.heap.size := ⟨_, rfl⟩
          rw [← hga] at ra lp2ra lp3ra lrra lqra lbra ⊢
          generalize wr.alloc (.cells #[.int .u8 (d : Int), .int .u64 (z : Int), .string s] 57 (0, 0)) = wa2 at *
          clear hga
          clear cra0 cra1 cra2
          refine (CT.out _).mono ?_
          rintro e wa3 ⟨rfl, bwa3⟩
          replace p2 := p2.below bwa3
          replace p3 := p3.below bwa3
          replace r := r.below bwa3 r.lt
          replace q := q.below bwa3 q.lt
          replace ra := ra.below bwa3 ra.lt
          replace bb := bb.trans (bwa3.mono bb.size)
          clear bwa3
          have ca2 : (wa3.setRow (w.heap.size + 2) (List.toArray [.int .u64 (f : Int), .string X])).cell? ⟨ga, 2, none⟩ = some (.string s) := (ra.setRow_other (k := (w.heap.size + 2)) (by omega) (List.toArray [.int .u64 (f : Int), .string X])).cell 2
          go_wp2_with (first | refine wpList_store_row rfl 27 (.tmp 5) (.tmp 51) rfl ((w.heap.size + 2)) _ rfl rfl _ _ r infoKeys rfl (by simp [Value.oneCell']) ?_ | refine wpList_load_row rfl 29 (.tmp 6) rfl ((w.heap.size + 3)) rfl _ _ _ _ (q.setRow_other (k := (w.heap.size + 2)) (by omega) (List.toArray [.int .u64 (f : Int), .string X])) Try.underlying29 rfl infoRK ?_)
          clear ca2
          replace p2 := p2.other (k := (w.heap.size + 2)) (by omega) (List.toArray [.int .u64 (f : Int), .string X])
          replace p3 := p3.other (k := (w.heap.size + 2)) (by omega) (List.toArray [.int .u64 (f : Int), .string X])
          replace r := r.setRow [.int .u64 (f : Int), .string X]
          replace q := q.setRow_other (k := (w.heap.size + 2)) (by omega) (List.toArray [.int .u64 (f : Int), .string X])
          replace ra := ra.setRow_other (k := (w.heap.size + 2)) (by omega) (List.toArray [.int .u64 (f : Int), .string X])
          replace bb := below_row bb (show _ ≤ (w.heap.size + 2) by omega) (List.toArray [.int .u64 (f : Int), .string X])
          generalize wa3.setRow ((w.heap.size + 2)) (List.toArray [.int .u64 (f : Int), .string X]) = wa4 at *
          refine (CRT.out _).mono ?_
          rintro e wa5 ⟨rfl, bwa5⟩
          replace p2 := p2.below bwa5
          replace p3 := p3.below bwa5
          replace r := r.below bwa5 r.lt
          replace q := q.below bwa5 q.lt
          replace ra := ra.below bwa5 ra.lt
          replace bb := bb.trans (bwa5.mono bb.size)
          clear bwa5
          go_wp2_with (first | refine wpList_store_row rfl 29 (.tmp 6) (.tmp 58) rfl ((w.heap.size + 3)) _ rfl rfl _ _ q infoRK rfl (by simp [Value.oneCell']) ?_ | refine wpList_rowT (by rfl) 27 (.tmp 5) rfl ((w.heap.size + 2)) rfl _ _ _ (r.setRow_other (k := (w.heap.size + 3)) (by omega) (List.toArray [.int .u64 (f : Int), .string X])) Try.underlying27 rfl infoKeys ?_ | refine wpList_rowT (by rfl) 29 (.tmp 6) rfl ((w.heap.size + 3)) rfl _ _ _ (q.setRow [.int .u64 (f : Int), .string X]) Try.underlying29 rfl infoRK ?_)
          replace p2 := p2.other (k := (w.heap.size + 3)) (by omega) (List.toArray [.int .u64 (f : Int), .string X])
          replace p3 := p3.other (k := (w.heap.size + 3)) (by omega) (List.toArray [.int .u64 (f : Int), .string X])
          replace r := r.setRow_other (k := (w.heap.size + 3)) (by omega) (List.toArray [.int .u64 (f : Int), .string X])
          replace q := q.setRow [.int .u64 (f : Int), .string X]
          replace ra := ra.setRow_other (k := (w.heap.size + 3)) (by omega) (List.toArray [.int .u64 (f : Int), .string X])
          replace bb := below_row bb (show _ ≤ (w.heap.size + 3) by omega) (List.toArray [.int .u64 (f : Int), .string X])
          generalize wa5.setRow ((w.heap.size + 3)) (List.toArray [.int .u64 (f : Int), .string X]) = wa6 at *
          refine (CI.out _).mono ?_
          rintro e wa7 ⟨rfl, bwa7⟩
          replace p2 := p2.below bwa7
          replace p3 := p3.below bwa7
          replace r := r.below bwa7 r.lt
          replace q := q.below bwa7 q.lt
          replace ra := ra.below bwa7 ra.lt
          replace bb := bb.trans (bwa7.mono bb.size)
          clear bwa7
          go_wp2
          go_roundw
          case rel => exact ⟨k + 1, f, X, by omega, by go_num, HB1.out, HB2.out, p2, p3, r, q, bb⟩
          case measure => simp [intOf]; omega
        · have CT : Hid (∀ wx, Calls Try.prog 19 #[.agg #[.int .u64 (f : Int), .string T], .string s] wx fun e w' => e = .returned (.tuple #[.agg #[.int .u64 (f : Int), .string T], .int .i64 12]) ∧ Below wx.heap.size wx w') := fun wx => type_full f T s hT (by omega) (by omega) wx
          have CRT : Hid (∀ wx, Calls Try.prog 22 #[.agg #[.int .u64 (f : Int), .string T], .string s] wx fun e w' => e = .returned (.tuple #[.agg #[.int .u64 (f : Int), .string T], .int .i64 12]) ∧ Below wx.heap.size wx w') := fun wx => refType_full f T s hT (by omega) hsb wx
          have CI := Lib.hid (fun wx => CI.out f T wx (by omega) (by omega))
          have HB1 : Hid (f + T.size ≤ 600 * (k + 1)) := by show _ ≤ _; omega
          have HB2 : Hid (T.size ≤ 256) := hT
          have ra : Row (wr.alloc (.cells #[.int .u8 (d : Int), .int .u64 (z : Int), .string s] 57 (0, 0))) wr.heap.size 57 [.int .u8 (d : Int), .int .u64 (z : Int), .string s] := Row.new' rfl rfl
          have lp2ra : w.heap.size < wr.heap.size := p2.lt
          have lp3ra : (w.heap.size + 1) < wr.heap.size := p3.lt
          have lrra : (w.heap.size + 2) < wr.heap.size := r.lt
          have lqra : (w.heap.size + 3) < wr.heap.size := q.lt
          have lbra := bb.size
          replace p2 := p2.alloc (.cells #[.int .u8 (d : Int), .int .u64 (z : Int), .string s] 57 (0, 0))
          replace p3 := p3.alloc (.cells #[.int .u8 (d : Int), .int .u64 (z : Int), .string s] 57 (0, 0))
          replace r := r.alloc (.cells #[.int .u8 (d : Int), .int .u64 (z : Int), .string s] 57 (0, 0))
          replace q := q.alloc (.cells #[.int .u8 (d : Int), .int .u64 (z : Int), .string s] 57 (0, 0))
          replace bb := bb.alloc bb.size (.cells #[.int .u8 (d : Int), .int .u64 (z : Int), .string s] 57 (0, 0))
          have cra0 : (wr.alloc (.cells #[.int .u8 (d : Int), .int .u64 (z : Int), .string s] 57 (0, 0))).cell? ⟨wr.heap.size, 0, none⟩ = some (.int .u8 (d : Int)) := ra.cell 0
          have cra1 : (wr.alloc (.cells #[.int .u8 (d : Int), .int .u64 (z : Int), .string s] 57 (0, 0))).cell? ⟨wr.heap.size, 1, none⟩ = some (.int .u64 (z : Int)) := ra.cell 1
          have cra2 : (wr.alloc (.cells #[.int .u8 (d : Int), .int .u64 (z : Int), .string s] 57 (0, 0))).cell? ⟨wr.heap.size, 2, none⟩ = some (.string s) := ra.cell 2
          go_wp2_with (first | refine wpList_load_row rfl 27 (.tmp 5) rfl ((w.heap.size + 2)) rfl _ _ _ _ r Try.underlying27 rfl infoKeys ?_)
          obtain ⟨ga, hga⟩ : ∃ ga, ga = wr.heap.size := ⟨_, rfl⟩
          rw [← hga] at ra lp2ra lp3ra lrra lqra lbra ⊢
          generalize wr.alloc (.cells #[.int .u8 (d : Int), .int .u64 (z : Int), .string s] 57 (0, 0)) = wa2 at *
          clear hga
          clear cra0 cra1 cra2
          refine (CT.out _).mono ?_
          rintro e wa3 ⟨rfl, bwa3⟩
          replace p2 := p2.below bwa3
          replace p3 := p3.below bwa3
          replace r := r.below bwa3 r.lt
          replace q := q.below bwa3 q.lt
          replace ra := ra.below bwa3 ra.lt
          replace bb := bb.trans (bwa3.mono bb.size)
          clear bwa3
          have ca2 : (wa3.setRow (w.heap.size + 2) (List.toArray [.int .u64 (f : Int), .string T])).cell? ⟨ga, 2, none⟩ = some (.string s) := (ra.setRow_other (k := (w.heap.size + 2)) (by omega) (List.toArray [.int .u64 (f : Int), .string T])).cell 2
          go_wp2_with (first | refine wpList_store_row rfl 27 (.tmp 5) (.tmp 51) rfl ((w.heap.size + 2)) _ rfl rfl _ _ r infoKeys rfl (by simp [Value.oneCell']) ?_ | refine wpList_load_row rfl 29 (.tmp 6) rfl ((w.heap.size + 3)) rfl _ _ _ _ (q.setRow_other (k := (w.heap.size + 2)) (by omega) (List.toArray [.int .u64 (f : Int), .string T])) Try.underlying29 rfl infoRK ?_)
          clear ca2
          replace p2 := p2.other (k := (w.heap.size + 2)) (by omega) (List.toArray [.int .u64 (f : Int), .string T])
          replace p3 := p3.other (k := (w.heap.size + 2)) (by omega) (List.toArray [.int .u64 (f : Int), .string T])
          replace r := r.setRow [.int .u64 (f : Int), .string T]
          replace q := q.setRow_other (k := (w.heap.size + 2)) (by omega) (List.toArray [.int .u64 (f : Int), .string T])
          replace ra := ra.setRow_other (k := (w.heap.size + 2)) (by omega) (List.toArray [.int .u64 (f : Int), .string T])
          replace bb := below_row bb (show _ ≤ (w.heap.size + 2) by omega) (List.toArray [.int .u64 (f : Int), .string T])
          generalize wa3.setRow ((w.heap.size + 2)) (List.toArray [.int .u64 (f : Int), .string T]) = wa4 at *
          refine (CRT.out _).mono ?_
          rintro e wa5 ⟨rfl, bwa5⟩
          replace p2 := p2.below bwa5
          replace p3 := p3.below bwa5
          replace r := r.below bwa5 r.lt
          replace q := q.below bwa5 q.lt
          replace ra := ra.below bwa5 ra.lt
          replace bb := bb.trans (bwa5.mono bb.size)
          clear bwa5
          go_wp2_with (first | refine wpList_store_row rfl 29 (.tmp 6) (.tmp 58) rfl ((w.heap.size + 3)) _ rfl rfl _ _ q infoRK rfl (by simp [Value.oneCell']) ?_ | refine wpList_rowT (by rfl) 27 (.tmp 5) rfl ((w.heap.size + 2)) rfl _ _ _ (r.setRow_other (k := (w.heap.size + 3)) (by omega) (List.toArray [.int .u64 (f : Int), .string T])) Try.underlying27 rfl infoKeys ?_ | refine wpList_rowT (by rfl) 29 (.tmp 6) rfl ((w.heap.size + 3)) rfl _ _ _ (q.setRow [.int .u64 (f : Int), .string T]) Try.underlying29 rfl infoRK ?_)
          replace p2 := p2.other (k := (w.heap.size + 3)) (by omega) (List.toArray [.int .u64 (f : Int), .string T])
          replace p3 := p3.other (k := (w.heap.size + 3)) (by omega) (List.toArray [.int .u64 (f : Int), .string T])
          replace r := r.setRow_other (k := (w.heap.size + 3)) (by omega) (List.toArray [.int .u64 (f : Int), .string T])
          replace q := q.setRow [.int .u64 (f : Int), .string T]
          replace ra := ra.setRow_other (k := (w.heap.size + 3)) (by omega) (List.toArray [.int .u64 (f : Int), .string T])
          replace bb := below_row bb (show _ ≤ (w.heap.size + 3) by omega) (List.toArray [.int .u64 (f : Int), .string T])
          generalize wa5.setRow ((w.heap.size + 3)) (List.toArray [.int .u64 (f : Int), .string T]) = wa6 at *
          refine (CI.out _).mono ?_
          rintro e wa7 ⟨rfl, bwa7⟩
          replace p2 := p2.below bwa7
          replace p3 := p3.below bwa7
          replace r := r.below bwa7 r.lt
          replace q := q.below bwa7 q.lt
          replace ra := ra.below bwa7 ra.lt
          replace bb := bb.trans (bwa7.mono bb.size)
          clear bwa7
          go_wp2
          go_roundw
          case rel => exact ⟨k + 1, f, T, by omega, by go_num, HB1.out, HB2.out, p2, p3, r, q, bb⟩
          case measure => simp [intOf]; omega
      · have CF : Hid (∀ wx, Calls Try.prog 21 #[.agg #[.int .u64 (f : Int), .string T], .int .u64 (z : Int)] wx fun e w' => e = .returned (.agg #[.int .u64 ((K13.fgtN f T z : Nat) : Int), .string (K13.fgtT f T z)]) ∧ Below wx.heap.size wx w') := fun wx => forget_any f z T (by omega) (by omega) wx
        have CRF : Hid (∀ wx, Calls Try.prog 23 #[.agg #[.int .u64 (f : Int), .string T], .int .u64 (z : Int)] wx fun e w' => e = .returned (.agg #[.int .u64 ((K13.fgtN f T z : Nat) : Int), .string (K13.fgtT f T z)]) ∧ Below wx.heap.size wx w') := fun wx => refForget_any f z T (by omega) (by omega) wx
        have hend := K13.fgt_end f T z
        have hle : (K13.fgtT f T z).size ≤ T.size := by unfold K13.fgtT; rw [K13.cut_size]; omega
        generalize K13.fgtN f T z = fn at *
        generalize K13.fgtT f T z = Tn at *
        have CI := Lib.hid (fun wx => CI.out fn Tn wx (by omega) (by omega))
        have HB1 : Hid (fn + Tn.size ≤ 600 * (k + 1)) := by show _ ≤ _; omega
        have HB2 : Hid (Tn.size ≤ 256) := by show _ ≤ _; omega
        clear hend hle
        have ra : Row (wr.alloc (.cells #[.int .u8 (d : Int), .int .u64 (z : Int), .string s] 57 (0, 0))) wr.heap.size 57 [.int .u8 (d : Int), .int .u64 (z : Int), .string s] := Row.new' rfl rfl
        have lp2ra : w.heap.size < wr.heap.size := p2.lt
        have lp3ra : (w.heap.size + 1) < wr.heap.size := p3.lt
        have lrra : (w.heap.size + 2) < wr.heap.size := r.lt
        have lqra : (w.heap.size + 3) < wr.heap.size := q.lt
        have lbra := bb.size
        replace p2 := p2.alloc (.cells #[.int .u8 (d : Int), .int .u64 (z : Int), .string s] 57 (0, 0))
        replace p3 := p3.alloc (.cells #[.int .u8 (d : Int), .int .u64 (z : Int), .string s] 57 (0, 0))
        replace r := r.alloc (.cells #[.int .u8 (d : Int), .int .u64 (z : Int), .string s] 57 (0, 0))
        replace q := q.alloc (.cells #[.int .u8 (d : Int), .int .u64 (z : Int), .string s] 57 (0, 0))
        replace bb := bb.alloc bb.size (.cells #[.int .u8 (d : Int), .int .u64 (z : Int), .string s] 57 (0, 0))
        have cra0 : (wr.alloc (.cells #[.int .u8 (d : Int), .int .u64 (z : Int), .string s] 57 (0, 0))).cell? ⟨wr.heap.size, 0, none⟩ = some (.int .u8 (d : Int)) := ra.cell 0
        have cra1 : (wr.alloc (.cells #[.int .u8 (d : Int), .int .u64 (z : Int), .string s] 57 (0, 0))).cell? ⟨wr.heap.size, 1, none⟩ = some (.int .u64 (z : Int)) := ra.cell 1
        have cra2 : (wr.alloc (.cells #[.int .u8 (d : Int), .int .u64 (z : Int), .string s] 57 (0, 0))).cell? ⟨wr.heap.size, 2, none⟩ = some (.string s) := ra.cell 2
        go_wp2
        clear cra0 cra1 cra2
        obtain ⟨ga, hga⟩ : ∃ ga, ga = wr.heap.size := ⟨_, rfl⟩
        rw [← hga] at ra lp2ra lp3ra lrra lqra lbra ⊢
        generalize wr.alloc (.cells #[.int .u8 (d : Int), .int .u64 (z : Int), .string s] 57 (0, 0)) = wa2 at *
        clear hga
        refine wp_region_held_drew (S := fun w' => Row w' ga 57 [.int .u8 (d : Int), .int .u64 (z : Int), .string s] ∧ Below w.heap.size w w') (by kernel_rfl) (⟨ra.drew, bb.drew⟩) (fun hHeld => ?_)
        replace p2 := p2.drew
        replace p3 := p3.drew
        replace r := r.drew
        replace q := q.drew
        generalize wa2.drew = wd3 at *
        refine take_d 1 (some 63) (.pointer (some ⟨ga, 1, none⟩)) rfl (by kernel_rfl) (by kernel_rfl) (by kernel_rfl) (fun _ _ _ h => h) (fun oi h => by cases h; exact Or.inl ⟨by rfl, fun w' hS' => by go_simp⟩) hHeld ?_
        try simp only [Act.put, List.setIfInBounds_toArray, List.set_cons_zero, List.set_cons_succ]
        refine take_d 2 (some 64) (.int .u64 (z : Int)) rfl (by kernel_rfl) (by kernel_rfl) (by kernel_rfl) (fun _ _ _ h => h) (fun oi h => by cases h; exact Or.inl ⟨by rfl, fun w' hS' => by have c : w'.cell? ⟨ga, 1, none⟩ = some (.int .u64 (z : Int)) := hS'.1.cell 1; go_simp⟩) hHeld ?_
        try simp only [Act.put, List.setIfInBounds_toArray, List.set_cons_zero, List.set_cons_succ]
        refine take_d 5 (some 67) (.pointer (some ⟨ga, 1, none⟩)) rfl (by kernel_rfl) (by kernel_rfl) (by kernel_rfl) (fun _ _ _ h => h) (fun oi h => by cases h; exact Or.inl ⟨by rfl, fun w' hS' => by go_simp⟩) hHeld ?_
        try simp only [Act.put, List.setIfInBounds_toArray, List.set_cons_zero, List.set_cons_succ]
        refine take_d 6 (some 68) (.int .u64 (z : Int)) rfl (by kernel_rfl) (by kernel_rfl) (by kernel_rfl) (fun _ _ _ h => h) (fun oi h => by cases h; exact Or.inl ⟨by rfl, fun w' hS' => by have c : w'.cell? ⟨ga, 1, none⟩ = some (.int .u64 (z : Int)) := hS'.1.cell 1; go_simp⟩) hHeld ?_
        try simp only [Act.put, List.setIfInBounds_toArray, List.set_cons_zero, List.set_cons_succ]
        refine two_d 0 4 rfl rfl (by kernel_rfl) ?_ ?_
        · intro K hK
          refine step_load_row rfl 27 (.tmp 5) rfl ((w.heap.size + 2)) rfl _ [.int .u64 (f : Int), .string T] _ r Try.underlying27 rfl infoKeys ?_
          refine hK.out _ _ hHeld (fun hHeld => ?_)
          clear hK K
          try simp only [Act.put, List.setIfInBounds_toArray, List.set_cons_zero, List.set_cons_succ]
          refine two_d 3 4 rfl rfl (by kernel_rfl) ?_ ?_
          · intro K hK
            go_simp
            refine (CF.out _).mono ?_
            rintro e v4 ⟨rfl, bb0⟩
            replace p2 := p2.below bb0
            replace p3 := p3.below bb0
            replace r := r.below bb0 r.lt
            replace q := q.below bb0 q.lt
            refine hK.out _ _ (⟨hHeld.1.below bb0 hHeld.1.lt, hHeld.2.trans (bb0.mono hHeld.2.size)⟩) (fun hHeld => ?_)
            clear bb0
            clear hK K
            try simp only [Act.put, List.setIfInBounds_toArray, List.set_cons_zero, List.set_cons_succ]
            refine one_d 4 (some 66) rfl (by kernel_rfl) ?_
            intro o ho1 hd K hK
            cases ho1
            refine step_load_row rfl 29 (.tmp 6) rfl ((w.heap.size + 3)) rfl _ [.int .u64 (f : Int), .string T] _ q Try.underlying29 rfl infoRK ?_
            refine hK.out _ _ hHeld (fun hHeld => ?_)
            clear hK K hd
            try simp only [Act.put, List.setIfInBounds_toArray, List.set_cons_zero, List.set_cons_succ]
            refine one_d 7 (some 69) rfl (by kernel_rfl) ?_
            intro o ho1 hd K hK
            cases ho1
            go_simp
            refine (CRF.out _).mono ?_
            rintro e v5 ⟨rfl, bb0⟩
            replace p2 := p2.below bb0
            replace p3 := p3.below bb0
            replace r := r.below bb0 r.lt
            replace q := q.below bb0 q.lt
            refine hK.out _ _ (⟨hHeld.1.below bb0 hHeld.1.lt, hHeld.2.trans (bb0.mono hHeld.2.size)⟩) (fun hHeld => ?_)
            clear bb0
            clear hK K hd
            try simp only [Act.put, List.setIfInBounds_toArray, List.set_cons_zero, List.set_cons_succ]
            refine one_d 8 none rfl (by kernel_rfl) ?_
            intro o ho1 hd K hK
            cases ho1
            refine step_store_row rfl 27 (.tmp 5) (.tmp 65) rfl ((w.heap.size + 2)) [.int .u64 (fn : Int), .string Tn] rfl rfl _ _ r infoKeys rfl (by simp [Value.oneCell']) ?_
            rw [hd]
            replace p2 := p2.other (k := (w.heap.size + 2)) (by omega) (List.toArray [.int .u64 (fn : Int), .string Tn])
            replace p3 := p3.other (k := (w.heap.size + 2)) (by omega) (List.toArray [.int .u64 (fn : Int), .string Tn])
            replace r := r.setRow [.int .u64 (fn : Int), .string Tn]
            replace q := q.setRow_other (k := (w.heap.size + 2)) (by omega) (List.toArray [.int .u64 (fn : Int), .string Tn])
            have hH : Row (v5.setRow ((w.heap.size + 2)) (List.toArray [.int .u64 (fn : Int), .string Tn])) ga 57 [.int .u8 (d : Int), .int .u64 (z : Int), .string s] ∧ Below w.heap.size w (v5.setRow ((w.heap.size + 2)) (List.toArray [.int .u64 (fn : Int), .string Tn])) := ⟨hHeld.1.setRow_other (k := (w.heap.size + 2)) (by omega) (List.toArray [.int .u64 (fn : Int), .string Tn]), below_row hHeld.2 (show _ ≤ (w.heap.size + 2) by omega) (List.toArray [.int .u64 (fn : Int), .string Tn])⟩
            clear hHeld
            generalize v5.setRow ((w.heap.size + 2)) (List.toArray [.int .u64 (fn : Int), .string Tn]) = v6 at *
            refine hK.out _ _ hH (fun hHeld => ?_)
            clear hH
            clear hK K hd
            try simp only [Act.put]
            refine one_d 9 none rfl (by kernel_rfl) ?_
            intro o ho1 hd K hK
            cases ho1
            refine step_store_row rfl 29 (.tmp 6) (.tmp 69) rfl ((w.heap.size + 3)) [.int .u64 (fn : Int), .string Tn] rfl rfl _ _ q infoRK rfl (by simp [Value.oneCell']) ?_
            rw [hd]
            replace p2 := p2.other (k := (w.heap.size + 3)) (by omega) (List.toArray [.int .u64 (fn : Int), .string Tn])
            replace p3 := p3.other (k := (w.heap.size + 3)) (by omega) (List.toArray [.int .u64 (fn : Int), .string Tn])
            replace r := r.setRow_other (k := (w.heap.size + 3)) (by omega) (List.toArray [.int .u64 (fn : Int), .string Tn])
            replace q := q.setRow [.int .u64 (fn : Int), .string Tn]
            have hH : Row (v6.setRow ((w.heap.size + 3)) (List.toArray [.int .u64 (fn : Int), .string Tn])) ga 57 [.int .u8 (d : Int), .int .u64 (z : Int), .string s] ∧ Below w.heap.size w (v6.setRow ((w.heap.size + 3)) (List.toArray [.int .u64 (fn : Int), .string Tn])) := ⟨hHeld.1.setRow_other (k := (w.heap.size + 3)) (by omega) (List.toArray [.int .u64 (fn : Int), .string Tn]), below_row hHeld.2 (show _ ≤ (w.heap.size + 3) by omega) (List.toArray [.int .u64 (fn : Int), .string Tn])⟩
            clear hHeld
            generalize v6.setRow ((w.heap.size + 3)) (List.toArray [.int .u64 (fn : Int), .string Tn]) = v7 at *
            refine hK.out _ _ hH (fun hHeld => ?_)
            clear hH
            clear hK K hd
            try simp only [Act.put]
            refine wpAnyH_done (by kernel_rfl) ?_ _
            try simp only [Act.put]
            replace ra := hHeld.1
            replace bb := hHeld.2
            clear hHeld
            go_wp2_with (first | refine wpList_rowT (by rfl) 27 (.tmp 5) rfl ((w.heap.size + 2)) rfl _ _ _ (r) Try.underlying27 rfl infoKeys ?_ | refine wpList_rowT (by rfl) 29 (.tmp 6) rfl ((w.heap.size + 3)) rfl _ _ _ (q) Try.underlying29 rfl infoRK ?_)
            refine (CI.out _).mono ?_
            rintro e wa8 ⟨rfl, bwa8⟩
            replace p2 := p2.below bwa8
            replace p3 := p3.below bwa8
            replace r := r.below bwa8 r.lt
            replace q := q.below bwa8 q.lt
            replace ra := ra.below bwa8 ra.lt
            replace bb := bb.trans (bwa8.mono bb.size)
            clear bwa8
            go_wp2
            go_roundw
            case rel => exact ⟨k + 1, fn, Tn, by omega, by go_num, HB1.out, HB2.out, p2, p3, r, q, bb⟩
            case measure => simp [intOf]; omega
          · intro K hK
            refine step_load_row rfl 29 (.tmp 6) rfl ((w.heap.size + 3)) rfl _ [.int .u64 (f : Int), .string T] _ q Try.underlying29 rfl infoRK ?_
            refine hK.out _ _ hHeld (fun hHeld => ?_)
            clear hK K
            try simp only [Act.put, List.setIfInBounds_toArray, List.set_cons_zero, List.set_cons_succ]
            refine one_d 3 (some 65) rfl (by kernel_rfl) ?_
            intro o ho1 hd K hK
            cases ho1
            go_simp
            refine (CF.out _).mono ?_
            rintro e v4 ⟨rfl, bb0⟩
            replace p2 := p2.below bb0
            replace p3 := p3.below bb0
            replace r := r.below bb0 r.lt
            replace q := q.below bb0 q.lt
            refine hK.out _ _ (⟨hHeld.1.below bb0 hHeld.1.lt, hHeld.2.trans (bb0.mono hHeld.2.size)⟩) (fun hHeld => ?_)
            clear bb0
            clear hK K hd
            try simp only [Act.put, List.setIfInBounds_toArray, List.set_cons_zero, List.set_cons_succ]
            refine one_d 7 (some 69) rfl (by kernel_rfl) ?_
            intro o ho1 hd K hK
            cases ho1
            go_simp
            refine (CRF.out _).mono ?_
            rintro e v5 ⟨rfl, bb0⟩
            replace p2 := p2.below bb0
            replace p3 := p3.below bb0
            replace r := r.below bb0 r.lt
            replace q := q.below bb0 q.lt
            refine hK.out _ _ (⟨hHeld.1.below bb0 hHeld.1.lt, hHeld.2.trans (bb0.mono hHeld.2.size)⟩) (fun hHeld => ?_)
            clear bb0
            clear hK K hd
            try simp only [Act.put, List.setIfInBounds_toArray, List.set_cons_zero, List.set_cons_succ]
            refine one_d 8 none rfl (by kernel_rfl) ?_
            intro o ho1 hd K hK
            cases ho1
            refine step_store_row rfl 27 (.tmp 5) (.tmp 65) rfl ((w.heap.size + 2)) [.int .u64 (fn : Int), .string Tn] rfl rfl _ _ r infoKeys rfl (by simp [Value.oneCell']) ?_
            rw [hd]
            replace p2 := p2.other (k := (w.heap.size + 2)) (by omega) (List.toArray [.int .u64 (fn : Int), .string Tn])
            replace p3 := p3.other (k := (w.heap.size + 2)) (by omega) (List.toArray [.int .u64 (fn : Int), .string Tn])
            replace r := r.setRow [.int .u64 (fn : Int), .string Tn]
            replace q := q.setRow_other (k := (w.heap.size + 2)) (by omega) (List.toArray [.int .u64 (fn : Int), .string Tn])
            have hH : Row (v5.setRow ((w.heap.size + 2)) (List.toArray [.int .u64 (fn : Int), .string Tn])) ga 57 [.int .u8 (d : Int), .int .u64 (z : Int), .string s] ∧ Below w.heap.size w (v5.setRow ((w.heap.size + 2)) (List.toArray [.int .u64 (fn : Int), .string Tn])) := ⟨hHeld.1.setRow_other (k := (w.heap.size + 2)) (by omega) (List.toArray [.int .u64 (fn : Int), .string Tn]), below_row hHeld.2 (show _ ≤ (w.heap.size + 2) by omega) (List.toArray [.int .u64 (fn : Int), .string Tn])⟩
            clear hHeld
            generalize v5.setRow ((w.heap.size + 2)) (List.toArray [.int .u64 (fn : Int), .string Tn]) = v6 at *
            refine hK.out _ _ hH (fun hHeld => ?_)
            clear hH
            clear hK K hd
            try simp only [Act.put]
            refine one_d 9 none rfl (by kernel_rfl) ?_
            intro o ho1 hd K hK
            cases ho1
            refine step_store_row rfl 29 (.tmp 6) (.tmp 69) rfl ((w.heap.size + 3)) [.int .u64 (fn : Int), .string Tn] rfl rfl _ _ q infoRK rfl (by simp [Value.oneCell']) ?_
            rw [hd]
            replace p2 := p2.other (k := (w.heap.size + 3)) (by omega) (List.toArray [.int .u64 (fn : Int), .string Tn])
            replace p3 := p3.other (k := (w.heap.size + 3)) (by omega) (List.toArray [.int .u64 (fn : Int), .string Tn])
            replace r := r.setRow_other (k := (w.heap.size + 3)) (by omega) (List.toArray [.int .u64 (fn : Int), .string Tn])
            replace q := q.setRow [.int .u64 (fn : Int), .string Tn]
            have hH : Row (v6.setRow ((w.heap.size + 3)) (List.toArray [.int .u64 (fn : Int), .string Tn])) ga 57 [.int .u8 (d : Int), .int .u64 (z : Int), .string s] ∧ Below w.heap.size w (v6.setRow ((w.heap.size + 3)) (List.toArray [.int .u64 (fn : Int), .string Tn])) := ⟨hHeld.1.setRow_other (k := (w.heap.size + 3)) (by omega) (List.toArray [.int .u64 (fn : Int), .string Tn]), below_row hHeld.2 (show _ ≤ (w.heap.size + 3) by omega) (List.toArray [.int .u64 (fn : Int), .string Tn])⟩
            clear hHeld
            generalize v6.setRow ((w.heap.size + 3)) (List.toArray [.int .u64 (fn : Int), .string Tn]) = v7 at *
            refine hK.out _ _ hH (fun hHeld => ?_)
            clear hH
            clear hK K hd
            try simp only [Act.put]
            refine wpAnyH_done (by kernel_rfl) ?_ _
            try simp only [Act.put]
            replace ra := hHeld.1
            replace bb := hHeld.2
            clear hHeld
            go_wp2_with (first | refine wpList_rowT (by rfl) 27 (.tmp 5) rfl ((w.heap.size + 2)) rfl _ _ _ (r) Try.underlying27 rfl infoKeys ?_ | refine wpList_rowT (by rfl) 29 (.tmp 6) rfl ((w.heap.size + 3)) rfl _ _ _ (q) Try.underlying29 rfl infoRK ?_)
            refine (CI.out _).mono ?_
            rintro e wa8 ⟨rfl, bwa8⟩
            replace p2 := p2.below bwa8
            replace p3 := p3.below bwa8
            replace r := r.below bwa8 r.lt
            replace q := q.below bwa8 q.lt
            replace ra := ra.below bwa8 ra.lt
            replace bb := bb.trans (bwa8.mono bb.size)
            clear bwa8
            go_wp2
            go_roundw
            case rel => exact ⟨k + 1, fn, Tn, by omega, by go_num, HB1.out, HB2.out, p2, p3, r, q, bb⟩
            case measure => simp [intOf]; omega
        · intro K hK
          refine step_load_row rfl 29 (.tmp 6) rfl ((w.heap.size + 3)) rfl _ [.int .u64 (f : Int), .string T] _ q Try.underlying29 rfl infoRK ?_
          refine hK.out _ _ hHeld (fun hHeld => ?_)
          clear hK K
          try simp only [Act.put, List.setIfInBounds_toArray, List.set_cons_zero, List.set_cons_succ]
          refine one_d 0 (some 62) rfl (by kernel_rfl) ?_
          intro o ho1 hd K hK
          cases ho1
          refine step_load_row rfl 27 (.tmp 5) rfl ((w.heap.size + 2)) rfl _ [.int .u64 (f : Int), .string T] _ r Try.underlying27 rfl infoKeys ?_
          refine hK.out _ _ hHeld (fun hHeld => ?_)
          clear hK K hd
          try simp only [Act.put, List.setIfInBounds_toArray, List.set_cons_zero, List.set_cons_succ]
          refine one_d 3 (some 65) rfl (by kernel_rfl) ?_
          intro o ho1 hd K hK
          cases ho1
          go_simp
          refine (CF.out _).mono ?_
          rintro e v4 ⟨rfl, bb0⟩
          replace p2 := p2.below bb0
          replace p3 := p3.below bb0
          replace r := r.below bb0 r.lt
          replace q := q.below bb0 q.lt
          refine hK.out _ _ (⟨hHeld.1.below bb0 hHeld.1.lt, hHeld.2.trans (bb0.mono hHeld.2.size)⟩) (fun hHeld => ?_)
          clear bb0
          clear hK K hd
          try simp only [Act.put, List.setIfInBounds_toArray, List.set_cons_zero, List.set_cons_succ]
          refine one_d 7 (some 69) rfl (by kernel_rfl) ?_
          intro o ho1 hd K hK
          cases ho1
          go_simp
          refine (CRF.out _).mono ?_
          rintro e v5 ⟨rfl, bb0⟩
          replace p2 := p2.below bb0
          replace p3 := p3.below bb0
          replace r := r.below bb0 r.lt
          replace q := q.below bb0 q.lt
          refine hK.out _ _ (⟨hHeld.1.below bb0 hHeld.1.lt, hHeld.2.trans (bb0.mono hHeld.2.size)⟩) (fun hHeld => ?_)
          clear bb0
          clear hK K hd
          try simp only [Act.put, List.setIfInBounds_toArray, List.set_cons_zero, List.set_cons_succ]
          refine one_d 8 none rfl (by kernel_rfl) ?_
          intro o ho1 hd K hK
          cases ho1
          refine step_store_row rfl 27 (.tmp 5) (.tmp 65) rfl ((w.heap.size + 2)) [.int .u64 (fn : Int), .string Tn] rfl rfl _ _ r infoKeys rfl (by simp [Value.oneCell']) ?_
          rw [hd]
          replace p2 := p2.other (k := (w.heap.size + 2)) (by omega) (List.toArray [.int .u64 (fn : Int), .string Tn])
          replace p3 := p3.other (k := (w.heap.size + 2)) (by omega) (List.toArray [.int .u64 (fn : Int), .string Tn])
          replace r := r.setRow [.int .u64 (fn : Int), .string Tn]
          replace q := q.setRow_other (k := (w.heap.size + 2)) (by omega) (List.toArray [.int .u64 (fn : Int), .string Tn])
          have hH : Row (v5.setRow ((w.heap.size + 2)) (List.toArray [.int .u64 (fn : Int), .string Tn])) ga 57 [.int .u8 (d : Int), .int .u64 (z : Int), .string s] ∧ Below w.heap.size w (v5.setRow ((w.heap.size + 2)) (List.toArray [.int .u64 (fn : Int), .string Tn])) := ⟨hHeld.1.setRow_other (k := (w.heap.size + 2)) (by omega) (List.toArray [.int .u64 (fn : Int), .string Tn]), below_row hHeld.2 (show _ ≤ (w.heap.size + 2) by omega) (List.toArray [.int .u64 (fn : Int), .string Tn])⟩
          clear hHeld
          generalize v5.setRow ((w.heap.size + 2)) (List.toArray [.int .u64 (fn : Int), .string Tn]) = v6 at *
          refine hK.out _ _ hH (fun hHeld => ?_)
          clear hH
          clear hK K hd
          try simp only [Act.put]
          refine one_d 9 none rfl (by kernel_rfl) ?_
          intro o ho1 hd K hK
          cases ho1
          refine step_store_row rfl 29 (.tmp 6) (.tmp 69) rfl ((w.heap.size + 3)) [.int .u64 (fn : Int), .string Tn] rfl rfl _ _ q infoRK rfl (by simp [Value.oneCell']) ?_
          rw [hd]
          replace p2 := p2.other (k := (w.heap.size + 3)) (by omega) (List.toArray [.int .u64 (fn : Int), .string Tn])
          replace p3 := p3.other (k := (w.heap.size + 3)) (by omega) (List.toArray [.int .u64 (fn : Int), .string Tn])
          replace r := r.setRow_other (k := (w.heap.size + 3)) (by omega) (List.toArray [.int .u64 (fn : Int), .string Tn])
          replace q := q.setRow [.int .u64 (fn : Int), .string Tn]
          have hH : Row (v6.setRow ((w.heap.size + 3)) (List.toArray [.int .u64 (fn : Int), .string Tn])) ga 57 [.int .u8 (d : Int), .int .u64 (z : Int), .string s] ∧ Below w.heap.size w (v6.setRow ((w.heap.size + 3)) (List.toArray [.int .u64 (fn : Int), .string Tn])) := ⟨hHeld.1.setRow_other (k := (w.heap.size + 3)) (by omega) (List.toArray [.int .u64 (fn : Int), .string Tn]), below_row hHeld.2 (show _ ≤ (w.heap.size + 3) by omega) (List.toArray [.int .u64 (fn : Int), .string Tn])⟩
          clear hHeld
          generalize v6.setRow ((w.heap.size + 3)) (List.toArray [.int .u64 (fn : Int), .string Tn]) = v7 at *
          refine hK.out _ _ hH (fun hHeld => ?_)
          clear hH
          clear hK K hd
          try simp only [Act.put]
          refine wpAnyH_done (by kernel_rfl) ?_ _
          try simp only [Act.put]
          replace ra := hHeld.1
          replace bb := hHeld.2
          clear hHeld
          go_wp2_with (first | refine wpList_rowT (by rfl) 27 (.tmp 5) rfl ((w.heap.size + 2)) rfl _ _ _ (r) Try.underlying27 rfl infoKeys ?_ | refine wpList_rowT (by rfl) 29 (.tmp 6) rfl ((w.heap.size + 3)) rfl _ _ _ (q) Try.underlying29 rfl infoRK ?_)
          refine (CI.out _).mono ?_
          rintro e wa8 ⟨rfl, bwa8⟩
          replace p2 := p2.below bwa8
          replace p3 := p3.below bwa8
          replace r := r.below bwa8 r.lt
          replace q := q.below bwa8 q.lt
          replace ra := ra.below bwa8 ra.lt
          replace bb := bb.trans (bwa8.mono bb.size)
          clear bwa8
          go_wp2
          go_roundw
          case rel => exact ⟨k + 1, fn, Tn, by omega, by go_num, HB1.out, HB2.out, p2, p3, r, q, bb⟩
          case measure => simp [intOf]; omega
      · have CD : Hid (∀ wx, Calls Try.prog 16 #[.agg #[.int .u64 (f : Int), .string T], .string s] wx fun e w' => e = .returned (.tuple #[.agg #[.int .u64 ((K13.doN f T s : Nat) : Int), .string (K13.doT f T s)], .int .i64 0]) ∧ Below wx.heap.size wx w') := fun wx => do_any f T s (by omega) (by omega) wx
        have CRD : Hid (∀ wx, Calls Try.prog 17 #[.agg #[.int .u64 (f : Int), .string T], .string s] wx fun e w' => e = .returned (.tuple #[.agg #[.int .u64 ((K13.doN f T s : Nat) : Int), .string (K13.doT f T s)], .int .i64 0]) ∧ Below wx.heap.size wx w') := fun wx => refDo_any f T s (by omega) (by omega) wx
        have hend := K13.do_end f T s
        have hle := K13.do_size f T s
        generalize K13.doN f T s = fn at *
        generalize K13.doT f T s = Tn at *
        have CI := Lib.hid (fun wx => CI.out fn Tn wx (by omega) (by omega))
        have HB1 : Hid (fn + Tn.size ≤ 600 * (k + 1)) := by show _ ≤ _; omega
        have HB2 : Hid (Tn.size ≤ 256) := hle
        clear hend hle
        have ra : Row (wr.alloc (.cells #[.int .u8 (d : Int), .int .u64 (z : Int), .string s] 57 (0, 0))) wr.heap.size 57 [.int .u8 (d : Int), .int .u64 (z : Int), .string s] := Row.new' rfl rfl
        have lp2ra : w.heap.size < wr.heap.size := p2.lt
        have lp3ra : (w.heap.size + 1) < wr.heap.size := p3.lt
        have lrra : (w.heap.size + 2) < wr.heap.size := r.lt
        have lqra : (w.heap.size + 3) < wr.heap.size := q.lt
        have lbra := bb.size
        replace p2 := p2.alloc (.cells #[.int .u8 (d : Int), .int .u64 (z : Int), .string s] 57 (0, 0))
        replace p3 := p3.alloc (.cells #[.int .u8 (d : Int), .int .u64 (z : Int), .string s] 57 (0, 0))
        replace r := r.alloc (.cells #[.int .u8 (d : Int), .int .u64 (z : Int), .string s] 57 (0, 0))
        replace q := q.alloc (.cells #[.int .u8 (d : Int), .int .u64 (z : Int), .string s] 57 (0, 0))
        replace bb := bb.alloc bb.size (.cells #[.int .u8 (d : Int), .int .u64 (z : Int), .string s] 57 (0, 0))
        have cra0 : (wr.alloc (.cells #[.int .u8 (d : Int), .int .u64 (z : Int), .string s] 57 (0, 0))).cell? ⟨wr.heap.size, 0, none⟩ = some (.int .u8 (d : Int)) := ra.cell 0
        have cra1 : (wr.alloc (.cells #[.int .u8 (d : Int), .int .u64 (z : Int), .string s] 57 (0, 0))).cell? ⟨wr.heap.size, 1, none⟩ = some (.int .u64 (z : Int)) := ra.cell 1
        have cra2 : (wr.alloc (.cells #[.int .u8 (d : Int), .int .u64 (z : Int), .string s] 57 (0, 0))).cell? ⟨wr.heap.size, 2, none⟩ = some (.string s) := ra.cell 2
        go_wp2_with (first | refine wpList_load_row rfl 27 (.tmp 5) rfl ((w.heap.size + 2)) rfl _ _ _ _ r Try.underlying27 rfl infoKeys ?_)
        obtain ⟨ga, hga⟩ : ∃ ga, ga = wr.heap.size := ⟨_, rfl⟩
        rw [← hga] at ra lp2ra lp3ra lrra lqra lbra ⊢
        generalize wr.alloc (.cells #[.int .u8 (d : Int), .int .u64 (z : Int), .string s] 57 (0, 0)) = wa2 at *
        clear hga
        clear cra0 cra1 cra2
        refine (CD.out _).mono ?_
        rintro e wa3 ⟨rfl, bwa3⟩
        replace p2 := p2.below bwa3
        replace p3 := p3.below bwa3
        replace r := r.below bwa3 r.lt
        replace q := q.below bwa3 q.lt
        replace ra := ra.below bwa3 ra.lt
        replace bb := bb.trans (bwa3.mono bb.size)
        clear bwa3
        go_wp2_with (first | refine wpList_store_row rfl 27 (.tmp 5) (.tmp 36) rfl ((w.heap.size + 2)) _ rfl rfl _ _ r infoKeys rfl (by simp [Value.oneCell']) ?_ | refine wpList_load_row rfl 29 (.tmp 6) rfl ((w.heap.size + 3)) rfl _ _ _ _ (q.setRow_other (k := (w.heap.size + 2)) (by omega) (List.toArray [.int .u64 (fn : Int), .string Tn])) Try.underlying29 rfl infoRK ?_)
        replace p2 := p2.other (k := (w.heap.size + 2)) (by omega) (List.toArray [.int .u64 (fn : Int), .string Tn])
        replace p3 := p3.other (k := (w.heap.size + 2)) (by omega) (List.toArray [.int .u64 (fn : Int), .string Tn])
        replace r := r.setRow [.int .u64 (fn : Int), .string Tn]
        replace q := q.setRow_other (k := (w.heap.size + 2)) (by omega) (List.toArray [.int .u64 (fn : Int), .string Tn])
        replace ra := ra.setRow_other (k := (w.heap.size + 2)) (by omega) (List.toArray [.int .u64 (fn : Int), .string Tn])
        replace bb := below_row bb (show _ ≤ (w.heap.size + 2) by omega) (List.toArray [.int .u64 (fn : Int), .string Tn])
        generalize wa3.setRow ((w.heap.size + 2)) (List.toArray [.int .u64 (fn : Int), .string Tn]) = wa4 at *
        refine (CRD.out _).mono ?_
        rintro e wa5 ⟨rfl, bwa5⟩
        replace p2 := p2.below bwa5
        replace p3 := p3.below bwa5
        replace r := r.below bwa5 r.lt
        replace q := q.below bwa5 q.lt
        replace ra := ra.below bwa5 ra.lt
        replace bb := bb.trans (bwa5.mono bb.size)
        clear bwa5
        go_wp2_with (first | refine wpList_store_row rfl 29 (.tmp 6) (.tmp 42) rfl ((w.heap.size + 3)) _ rfl rfl _ _ q infoRK rfl (by simp [Value.oneCell']) ?_ | refine wpList_rowT (by rfl) 27 (.tmp 5) rfl ((w.heap.size + 2)) rfl _ _ _ (r.setRow_other (k := (w.heap.size + 3)) (by omega) (List.toArray [.int .u64 (fn : Int), .string Tn])) Try.underlying27 rfl infoKeys ?_ | refine wpList_rowT (by rfl) 29 (.tmp 6) rfl ((w.heap.size + 3)) rfl _ _ _ (q.setRow [.int .u64 (fn : Int), .string Tn]) Try.underlying29 rfl infoRK ?_)
        replace p2 := p2.other (k := (w.heap.size + 3)) (by omega) (List.toArray [.int .u64 (fn : Int), .string Tn])
        replace p3 := p3.other (k := (w.heap.size + 3)) (by omega) (List.toArray [.int .u64 (fn : Int), .string Tn])
        replace r := r.setRow_other (k := (w.heap.size + 3)) (by omega) (List.toArray [.int .u64 (fn : Int), .string Tn])
        replace q := q.setRow [.int .u64 (fn : Int), .string Tn]
        replace ra := ra.setRow_other (k := (w.heap.size + 3)) (by omega) (List.toArray [.int .u64 (fn : Int), .string Tn])
        replace bb := below_row bb (show _ ≤ (w.heap.size + 3) by omega) (List.toArray [.int .u64 (fn : Int), .string Tn])
        generalize wa5.setRow ((w.heap.size + 3)) (List.toArray [.int .u64 (fn : Int), .string Tn]) = wa6 at *
        refine (CI.out _).mono ?_
        rintro e wa7 ⟨rfl, bwa7⟩
        replace p2 := p2.below bwa7
        replace p3 := p3.below bwa7
        replace r := r.below bwa7 r.lt
        replace q := q.below bwa7 q.lt
        replace ra := ra.below bwa7 ra.lt
        replace bb := bb.trans (bwa7.mono bb.size)
        clear bwa7
        go_wp2
        go_roundw
        case rel => exact ⟨k + 1, fn, Tn, by omega, by go_num, HB1.out, HB2.out, p2, p3, r, q, bb⟩
        case measure => simp [intOf]; omega
      · obtain ⟨rn, hrn⟩ : ∃ rn, rn = z % 600 := ⟨_, rfl⟩
        have hrl : rn < 600 := by omega
        have hr1 : (z : Int).tmod 600 = (rn : Int) := by rw [hrn]; rfl
        have hr2 : (z : Int) % 600 = (rn : Int) := by rw [hrn]; rfl
        obtain ⟨Z, hZ⟩ : ∃ Z : ByteArray, Z = ⟨(Lib.repeatL [107] rn).toArray⟩ := ⟨_, rfl⟩
        have hZs : Z.size = rn := by rw [hZ]; show (Lib.repeatL [107] rn).toArray.size = rn; simp [repeatL_size13]
        have CR : Hid (∀ wx, Calls Try.prog 24 #[.string ⟨#[107]⟩, .int .i64 (rn : Int)] wx fun e w' => e = .returned (.string Z) ∧ Below wx.heap.size wx w') := fun wx => by
          have := Try.strings_Repeat ⟨#[107]⟩ rn wx (by omega) (by show 1 * rn ≤ _; omega)
          rw [show (⟨#[107]⟩ : ByteArray).data.toList = [107] from rfl, ← hZ] at this
          exact this
        have CD : Hid (∀ wx, Calls Try.prog 16 #[.agg #[.int .u64 (f : Int), .string T], .string Z] wx fun e w' => e = .returned (.tuple #[.agg #[.int .u64 ((K13.doN f T Z : Nat) : Int), .string (K13.doT f T Z)], .int .i64 0]) ∧ Below wx.heap.size wx w') := fun wx => do_any f T Z (by omega) (by omega) wx
        have CRD : Hid (∀ wx, Calls Try.prog 17 #[.agg #[.int .u64 (f : Int), .string T], .string Z] wx fun e w' => e = .returned (.tuple #[.agg #[.int .u64 ((K13.doN f T Z : Nat) : Int), .string (K13.doT f T Z)], .int .i64 0]) ∧ Below wx.heap.size wx w') := fun wx => refDo_any f T Z (by omega) (by omega) wx
        have hend := K13.do_end f T Z
        have hle := K13.do_size f T Z
        generalize K13.doN f T Z = fn at *
        generalize K13.doT f T Z = Tn at *
        have CI := Lib.hid (fun wx => CI.out fn Tn wx (by omega) (by omega))
        have HB1 : Hid (fn + Tn.size ≤ 600 * (k + 1)) := by show _ ≤ _; omega
        have HB2 : Hid (Tn.size ≤ 256) := hle
        clear hend hle hZ hrn hZs
        have ra : Row (wr.alloc (.cells #[.int .u8 (d : Int), .int .u64 (z : Int), .string s] 57 (0, 0))) wr.heap.size 57 [.int .u8 (d : Int), .int .u64 (z : Int), .string s] := Row.new' rfl rfl
        have lp2ra : w.heap.size < wr.heap.size := p2.lt
        have lp3ra : (w.heap.size + 1) < wr.heap.size := p3.lt
        have lrra : (w.heap.size + 2) < wr.heap.size := r.lt
        have lqra : (w.heap.size + 3) < wr.heap.size := q.lt
        have lbra := bb.size
        replace p2 := p2.alloc (.cells #[.int .u8 (d : Int), .int .u64 (z : Int), .string s] 57 (0, 0))
        replace p3 := p3.alloc (.cells #[.int .u8 (d : Int), .int .u64 (z : Int), .string s] 57 (0, 0))
        replace r := r.alloc (.cells #[.int .u8 (d : Int), .int .u64 (z : Int), .string s] 57 (0, 0))
        replace q := q.alloc (.cells #[.int .u8 (d : Int), .int .u64 (z : Int), .string s] 57 (0, 0))
        replace bb := bb.alloc bb.size (.cells #[.int .u8 (d : Int), .int .u64 (z : Int), .string s] 57 (0, 0))
        have cra0 : (wr.alloc (.cells #[.int .u8 (d : Int), .int .u64 (z : Int), .string s] 57 (0, 0))).cell? ⟨wr.heap.size, 0, none⟩ = some (.int .u8 (d : Int)) := ra.cell 0
        have cra1 : (wr.alloc (.cells #[.int .u8 (d : Int), .int .u64 (z : Int), .string s] 57 (0, 0))).cell? ⟨wr.heap.size, 1, none⟩ = some (.int .u64 (z : Int)) := ra.cell 1
        have cra2 : (wr.alloc (.cells #[.int .u8 (d : Int), .int .u64 (z : Int), .string s] 57 (0, 0))).cell? ⟨wr.heap.size, 2, none⟩ = some (.string s) := ra.cell 2
        go_wp2_with fail
        clear cra0 cra1 cra2
        obtain ⟨ga, hga⟩ : ∃ ga, ga = wr.heap.size := ⟨_, rfl⟩
        rw [← hga] at ra lp2ra lp3ra lrra lqra lbra ⊢
        generalize wr.alloc (.cells #[.int .u8 (d : Int), .int .u64 (z : Int), .string s] 57 (0, 0)) = wa2 at *
        clear hga
        refine (CR.out _).mono ?_
        rintro e wa3 ⟨rfl, bwa3⟩
        replace p2 := p2.below bwa3
        replace p3 := p3.below bwa3
        replace r := r.below bwa3 r.lt
        replace q := q.below bwa3 q.lt
        replace ra := ra.below bwa3 ra.lt
        replace bb := bb.trans (bwa3.mono bb.size)
        clear bwa3
        go_wp2_with (first | refine wpList_load_row rfl 27 (.tmp 5) rfl ((w.heap.size + 2)) rfl _ _ _ _ r Try.underlying27 rfl infoKeys ?_)
        refine (CD.out _).mono ?_
        rintro e wa4 ⟨rfl, bwa4⟩
        replace p2 := p2.below bwa4
        replace p3 := p3.below bwa4
        replace r := r.below bwa4 r.lt
        replace q := q.below bwa4 q.lt
        replace ra := ra.below bwa4 ra.lt
        replace bb := bb.trans (bwa4.mono bb.size)
        clear bwa4
        go_wp2_with (first | refine wpList_store_row rfl 27 (.tmp 5) (.tmp 36) rfl ((w.heap.size + 2)) _ rfl rfl _ _ r infoKeys rfl (by simp [Value.oneCell']) ?_ | refine wpList_load_row rfl 29 (.tmp 6) rfl ((w.heap.size + 3)) rfl _ _ _ _ (q.setRow_other (k := (w.heap.size + 2)) (by omega) (List.toArray [.int .u64 (fn : Int), .string Tn])) Try.underlying29 rfl infoRK ?_)
        replace p2 := p2.other (k := (w.heap.size + 2)) (by omega) (List.toArray [.int .u64 (fn : Int), .string Tn])
        replace p3 := p3.other (k := (w.heap.size + 2)) (by omega) (List.toArray [.int .u64 (fn : Int), .string Tn])
        replace r := r.setRow [.int .u64 (fn : Int), .string Tn]
        replace q := q.setRow_other (k := (w.heap.size + 2)) (by omega) (List.toArray [.int .u64 (fn : Int), .string Tn])
        replace ra := ra.setRow_other (k := (w.heap.size + 2)) (by omega) (List.toArray [.int .u64 (fn : Int), .string Tn])
        replace bb := below_row bb (show _ ≤ (w.heap.size + 2) by omega) (List.toArray [.int .u64 (fn : Int), .string Tn])
        generalize wa4.setRow ((w.heap.size + 2)) (List.toArray [.int .u64 (fn : Int), .string Tn]) = wa5 at *
        refine (CRD.out _).mono ?_
        rintro e wa6 ⟨rfl, bwa6⟩
        replace p2 := p2.below bwa6
        replace p3 := p3.below bwa6
        replace r := r.below bwa6 r.lt
        replace q := q.below bwa6 q.lt
        replace ra := ra.below bwa6 ra.lt
        replace bb := bb.trans (bwa6.mono bb.size)
        clear bwa6
        go_wp2_with (first | refine wpList_store_row rfl 29 (.tmp 6) (.tmp 42) rfl ((w.heap.size + 3)) _ rfl rfl _ _ q infoRK rfl (by simp [Value.oneCell']) ?_ | refine wpList_rowT (by rfl) 27 (.tmp 5) rfl ((w.heap.size + 2)) rfl _ _ _ (r.setRow_other (k := (w.heap.size + 3)) (by omega) (List.toArray [.int .u64 (fn : Int), .string Tn])) Try.underlying27 rfl infoKeys ?_ | refine wpList_rowT (by rfl) 29 (.tmp 6) rfl ((w.heap.size + 3)) rfl _ _ _ (q.setRow [.int .u64 (fn : Int), .string Tn]) Try.underlying29 rfl infoRK ?_)
        replace p2 := p2.other (k := (w.heap.size + 3)) (by omega) (List.toArray [.int .u64 (fn : Int), .string Tn])
        replace p3 := p3.other (k := (w.heap.size + 3)) (by omega) (List.toArray [.int .u64 (fn : Int), .string Tn])
        replace r := r.setRow_other (k := (w.heap.size + 3)) (by omega) (List.toArray [.int .u64 (fn : Int), .string Tn])
        replace q := q.setRow [.int .u64 (fn : Int), .string Tn]
        replace ra := ra.setRow_other (k := (w.heap.size + 3)) (by omega) (List.toArray [.int .u64 (fn : Int), .string Tn])
        replace bb := below_row bb (show _ ≤ (w.heap.size + 3) by omega) (List.toArray [.int .u64 (fn : Int), .string Tn])
        generalize wa6.setRow ((w.heap.size + 3)) (List.toArray [.int .u64 (fn : Int), .string Tn]) = wa7 at *
        refine (CI.out _).mono ?_
        rintro e wa8 ⟨rfl, bwa8⟩
        replace p2 := p2.below bwa8
        replace p3 := p3.below bwa8
        replace r := r.below bwa8 r.lt
        replace q := q.below bwa8 q.lt
        replace ra := ra.below bwa8 ra.lt
        replace bb := bb.trans (bwa8.mono bb.size)
        clear bwa8
        go_wp2
        go_roundw
        case rel => exact ⟨k + 1, fn, Tn, by omega, by go_num, HB1.out, HB2.out, p2, p3, r, q, bb⟩
        case measure => simp [intOf]; omega
    · obtain rfl : k = len := by omega
      go_wp2
      refine wp_region_held_drew (S := fun w' => Row w' (w.heap.size + 2) 27 [.int .u64 (f : Int), .string T] ∧ Row w' (w.heap.size + 3) 29 [.int .u64 (f : Int), .string T] ∧ Below w.heap.size w w') (by kernel_rfl) (⟨r.drew, q.drew, bb.drew⟩) (fun hHeld => ?_)
      replace p2 := p2.drew
      replace p3 := p3.drew
      generalize wr.drew = wd2 at *
      refine take_d 0 (some 82) (.agg #[.int .u64 (f : Int), .string T]) rfl (by kernel_rfl) (by kernel_rfl) (by kernel_rfl) (fun _ _ _ h => h) (fun oi h => by cases h; exact yieldsIf_load_mid (by rfl) 27 (.tmp 5) rfl (w.heap.size + 2) 0 rfl [.int .u64 (f : Int), .string T] _ (fun w' hS' => hS'.1.range) Try.underlying27 rfl infoKeys) hHeld ?_
      try simp only [Act.put, List.setIfInBounds_toArray, List.set_cons_zero, List.set_cons_succ]
      refine take_d 1 (some 83) (.agg #[.int .u64 (f : Int), .string T]) rfl (by kernel_rfl) (by kernel_rfl) (by kernel_rfl) (fun _ _ _ h => h) (fun oi h => by cases h; exact yieldsIf_load_mid (by rfl) 29 (.tmp 6) rfl (w.heap.size + 3) 0 rfl [.int .u64 (f : Int), .string T] _ (fun w' hS' => hS'.2.1.range) Try.underlying29 rfl infoRK) hHeld ?_
      try simp only [Act.put, List.setIfInBounds_toArray, List.set_cons_zero, List.set_cons_succ]
      refine one_d 2 none rfl (by kernel_rfl) ?_
      intro o ho1 hd K hK
      cases ho1
      obtain ⟨lz, hlz, rp⟩ := p2
      refine step_store_row rfl 27 (.tmp 2) (.tmp 82) rfl (w.heap.size) [.int .u64 (f : Int), .string T] rfl rfl _ _ rp infoKeys hlz (by simp [Value.oneCell']) ?_
      rw [hd]
      have p2 := rp.setRow [.int .u64 (f : Int), .string T]
      clear rp hlz
      replace p3 := p3.other (k := w.heap.size) (by omega) (List.toArray [.int .u64 (f : Int), .string T])
      have hH : Row (wd2.setRow w.heap.size (List.toArray [.int .u64 (f : Int), .string T])) (w.heap.size + 2) 27 [.int .u64 (f : Int), .string T] ∧ Row (wd2.setRow w.heap.size (List.toArray [.int .u64 (f : Int), .string T])) (w.heap.size + 3) 29 [.int .u64 (f : Int), .string T] ∧ Below w.heap.size w (wd2.setRow w.heap.size (List.toArray [.int .u64 (f : Int), .string T])) := ⟨hHeld.1.setRow_other (k := w.heap.size) (by omega) (List.toArray [.int .u64 (f : Int), .string T]), hHeld.2.1.setRow_other (k := w.heap.size) (by omega) (List.toArray [.int .u64 (f : Int), .string T]), below_row hHeld.2.2 (show _ ≤ w.heap.size by omega) (List.toArray [.int .u64 (f : Int), .string T])⟩
      clear hHeld
      generalize wd2.setRow w.heap.size (List.toArray [.int .u64 (f : Int), .string T]) = v3 at *
      refine hK.out _ _ hH (fun hHeld => ?_)
      clear hH
      clear hK K hd
      try simp only [Act.put]
      refine one_d 3 none rfl (by kernel_rfl) ?_
      intro o ho1 hd K hK
      cases ho1
      obtain ⟨lz, hlz, rp⟩ := p3
      refine step_store_row rfl 29 (.tmp 3) (.tmp 83) rfl ((w.heap.size + 1)) [.int .u64 (f : Int), .string T] rfl rfl _ _ rp infoRK hlz (by simp [Value.oneCell']) ?_
      rw [hd]
      replace p2 := p2.setRow_other (k := (w.heap.size + 1)) (by omega) (List.toArray [.int .u64 (f : Int), .string T])
      have p3 := rp.setRow [.int .u64 (f : Int), .string T]
      clear rp hlz
      have hH : Row (v3.setRow ((w.heap.size + 1)) (List.toArray [.int .u64 (f : Int), .string T])) (w.heap.size + 2) 27 [.int .u64 (f : Int), .string T] ∧ Row (v3.setRow ((w.heap.size + 1)) (List.toArray [.int .u64 (f : Int), .string T])) (w.heap.size + 3) 29 [.int .u64 (f : Int), .string T] ∧ Below w.heap.size w (v3.setRow ((w.heap.size + 1)) (List.toArray [.int .u64 (f : Int), .string T])) := ⟨hHeld.1.setRow_other (k := (w.heap.size + 1)) (by omega) (List.toArray [.int .u64 (f : Int), .string T]), hHeld.2.1.setRow_other (k := (w.heap.size + 1)) (by omega) (List.toArray [.int .u64 (f : Int), .string T]), below_row hHeld.2.2 (show _ ≤ (w.heap.size + 1) by omega) (List.toArray [.int .u64 (f : Int), .string T])⟩
      clear hHeld
      generalize v3.setRow ((w.heap.size + 1)) (List.toArray [.int .u64 (f : Int), .string T]) = v4 at *
      refine hK.out _ _ hH (fun hHeld => ?_)
      clear hH
      clear hK K hd
      try simp only [Act.put]
      refine take_d 4 (some 4) (.bool true) rfl (by kernel_rfl) (by kernel_rfl) (by kernel_rfl) (fun _ _ _ h => h) (fun oi h => by cases h; exact Or.inl ⟨by rfl, fun w' hS' => by go_simp⟩) hHeld ?_
      try simp only [Act.put, List.setIfInBounds_toArray]
      refine wpAnyH_done (by kernel_rfl) ?_ _
      try simp only [Act.put]
      replace r := hHeld.1
      replace q := hHeld.2.1
      replace bb := hHeld.2.2
      clear hHeld
      go_wp2
      exact bodyPost_ret (results_row2_tmp rfl _ _ w.heap.size 27 [.int .u64 (f : Int), .string T] _ (w.heap.size + 1) 29 [.int .u64 (f : Int), .string T] _ rfl p2 Try.underlying27 rfl infoKeys rfl p3 Try.underlying29 rfl infoRK) rfl ⟨f, T, rfl, ⟨by omega, hT⟩, bb⟩

end Go.Proofs.Ytggkkahifoccfaa
