/-
  Layer 15: SenderPlays, the walk: behind any turns each is answered, and a sender is, as the document says.
-/
import Derived.Test.YtngoighdpmeepaaVLaw
import Derived.Test.YtngoighdpmeepaaVRefSn
import Derived.Test.YtngoighdpmeepaaISend
import Derived.OpenShut
import Derived.Deep.Cut
import Derived.Deep.CutRange
import Derived.Deep.DeepCutAuto
import Derived.Deep.CutBlock
import Derived.Deep.LoopGhost
namespace Go.Proofs.Ytngoighdpmeepaa.SenderPlaysW
open Go.RowKit
set_option linter.unusedVariables false
set_option linter.unusedSimpArgs false
set_option maxRecDepth 20000
theorem infoActP : (Try.prog.info? 50).map (·.size) = some 6 := by kernel_rfl
open S15
/-- States lie in no block of such cells. -/
theorem st_ne {w : World} {L : List St} {g off p : Nat} {t : TypeId} {l : List Value} (h : StAt w g off L) (hp : 1 ≤ L.length) (r : Row w p t l) (hl : ∀ (i : Nat) (a b : Int), l[i]? = some (.int .u64 a) → l[i + 1]? = some (.int .u64 b) → False) : g ≠ p := by
  rintro rfl
  obtain ⟨t', pre, sp, h1, r'⟩ := h
  have e := r.symm.trans r'
  obtain ⟨q, l', hq⟩ : ∃ q l', L = q :: l' := by
    cases hL : L with
    | nil => rw [hL] at hp; simp at hp
    | cons q l' => exact ⟨q, l', rfl⟩
  rw [hq] at e
  have e2 : l = pre ++ cellsL (q :: l') ++ sp := by
    have e3 := e
    simp at e3
    simpa using e3.1
  refine hl pre.length (q.num : Int) (q.tick : Int) ?_ ?_
  · rw [e2, List.append_assoc, List.getElem?_append_right (Nat.le_refl _), Nat.sub_self]; rfl
  · rw [e2, List.append_assoc, List.getElem?_append_right (by omega), show pre.length + 1 - pre.length = 1 by omega]; rfl
theorem sn_no (s : Sn) (g cap : Nat) : ∀ (i : Nat) (a b : Int), (s.c g cap)[i]? = some (.int .u64 a) → (s.c g cap)[i + 1]? = some (.int .u64 b) → False := fun i a b h1 h2 => by
  unfold Sn.c at h1 h2
  rcases i with _ | _ | _ | _ | _ | i <;> simp at h1 h2
theorem rc_no (x y z : Value) (hx : ∀ a : Int, x ≠ .int .u64 a) (hy : ∀ a : Int, y ≠ .int .u64 a) : ∀ (i : Nat) (a b : Int), [x, y, z][i]? = some (.int .u64 a) → [x, y, z][i + 1]? = some (.int .u64 b) → False := fun i a b h1 h2 => by
  rcases i with _ | _ | _ | i
  · simp at h1; exact hx _ h1
  · simp at h1; exact hy _ h1
  · simp at h2
  · simp at h1

theorem ownN {w w' : World} {B e size n : Nat} {v : Value} {xs : List Value} (h : w.ownsRow B e size v n xs) (hb : Below w.heap.size w w') : w'.ownsRow B e size v n xs := ownT h hb
theorem acked_ne (s : Sn) (g cap k p1 p2 : Nat) (s' : Sn) (g' cap' : Nat) (x y z : Value) (w : World) {m N T : Nat} (hO : Ok m N T s) (hh : Held w s g cap) (r1 : Row w p1 42 (s'.c g' cap')) (r2 : Row w p2 47 [x, y, z]) (hx : ∀ a : Int, x ≠ .int .u64 a) (hy : ∀ a : Int, y ≠ .int .u64 a) :
    Calls Try.prog 17 #[.agg (s.c g cap).toArray, .int .u64 (k : Int)] w fun e w' => ∃ g2 cap2, e = .returned (.agg ((s.acked k).c g2 cap2).toArray) ∧ (g2 ≠ p1 ∧ g2 ≠ p2 ∧ Held w' (s.acked k) g2 cap2) ∧ Below w.heap.size w w' := by
  refine (acked_sn s g cap k w hO hh).mono ?_
  rintro e w' ⟨g2, cap2, rfl, h2, hb⟩
  have hp := (hO.acked k).pos
  exact ⟨g2, cap2, rfl, ⟨st_ne h2.st hp (r1.below hb r1.lt) (sn_no _ _ _), st_ne h2.st hp (r2.below hb r2.lt) (rc_no _ _ _ hx hy), h2⟩, hb⟩

set_option maxHeartbeats 16000000 in
theorem walk (a0 : ByteArray) (a1 : Option Addr) (len1 cap1 : Nat) (w : World) (w0 : a0.size ≤ maxLen) (w1 : InActs6 w a1 len1 cap1) :
    Calls Try.prog 4 #[.string a0, .slice a1 len1 cap1] w fun e w' => e = .returned (.bool true) ∧ Below w.heap.size w w' := by
  have hcap1 := w1.2.1
  have hlc1 := w1.1
  have HI := Lib.hid w1.2.2
  have CL := Lib.hid awake15_any
  unfold maxLen at w0 hcap1
  clear w1
  by_cases hb : len1 ≤ 60 ∧ a0.size ≤ 100
  · obtain ⟨hb1, hb2⟩ := hb
    have g1 : ¬ (60 : Int) < (len1 : Int) := by omega
    have g2 : ¬ (100 : Int) < (a0.size : Int) := by omega
    have CR := Lib.hid rule_any
    have O0 : Ok 100 0 0 (new a0) := Ok.new hb2
    have CW := Lib.hid (new_sn a0)
    have CQ0 := Lib.hid (rnew_sn a0)
    have bb : Below w.heap.size w w := Below.refl _ _
    go_enter Try.func4, Try.ntmps4
    go_wp2_with fail
    refine (CL.out _).mono ?_
    rintro e wa2 ⟨rfl, bwa2⟩
    replace bb := bb.trans (bwa2.mono bb.size)
    clear bwa2
    go_wp2_with fail
    refine (CR.out _).mono ?_
    rintro e wa3 ⟨rfl, bwa3⟩
    replace bb := bb.trans (bwa3.mono bb.size)
    clear bwa3
    go_wp2_with fail
    refine (CW.out _).mono ?_
    rintro e wa4 ⟨g0, cap0, rfl, H0, bwa4⟩
    replace bb := bb.trans (bwa4.mono bb.size)
    clear bwa4
    go_wp2_with fail
    refine (CQ0.out _).mono ?_
    rintro e wa5 ⟨gq0, rfl, Q0, bwa5⟩
    replace H0 := H0.keep bwa5
    replace bb := bb.trans (bwa5.mono bb.size)
    clear bwa5
    have x1 : Row ((wa5.alloc (.cells #[.nilFunc, .nilFunc, .string ⟨#[]⟩, .slice none 0 0, .int .u64 0] 42 (0, 0))).alloc (.cells #[.slice none 0 0, .string ⟨#[]⟩, .int .u64 0] 47 (0, 0))) wa5.heap.size 42 ([.nilFunc, .nilFunc, .string ⟨#[]⟩, .slice none 0 0, .int .u64 0]) := (Row.new' rfl rfl).alloc _
    have x2 : Row ((wa5.alloc (.cells #[.nilFunc, .nilFunc, .string ⟨#[]⟩, .slice none 0 0, .int .u64 0] 42 (0, 0))).alloc (.cells #[.slice none 0 0, .string ⟨#[]⟩, .int .u64 0] 47 (0, 0))) (wa5.heap.size + 1) 47 ([.slice none 0 0, .string ⟨#[]⟩, .int .u64 0]) := Row.new' rfl (by simp)
    have lH0x1 : g0 < wa5.heap.size := H0.lt
    have lQ0x1 : gq0 < wa5.heap.size := Q0.lt
    have lzx1 := bb.size
    replace H0 := ((H0).alloc (.cells #[.nilFunc, .nilFunc, .string ⟨#[]⟩, .slice none 0 0, .int .u64 0] 42 (0, 0))).alloc (.cells #[.slice none 0 0, .string ⟨#[]⟩, .int .u64 0] 47 (0, 0))
    replace Q0 := ((Q0).alloc (.cells #[.nilFunc, .nilFunc, .string ⟨#[]⟩, .slice none 0 0, .int .u64 0] 42 (0, 0))).alloc (.cells #[.slice none 0 0, .string ⟨#[]⟩, .int .u64 0] 47 (0, 0))
    replace bb := ((bb).alloc bb.size (.cells #[.nilFunc, .nilFunc, .string ⟨#[]⟩, .slice none 0 0, .int .u64 0] 42 (0, 0))).alloc (by simp; omega) (.cells #[.slice none 0 0, .string ⟨#[]⟩, .int .u64 0] 47 (0, 0))
    have tok6 : True := True.intro
    have tok7 : True := True.intro
    go_wp2_with (first | (refine at_op (.store 42 (.tmp 5) (.tmp 33)) (by with_reducible rfl) ?_; clear tok6; refine wpList_store_row rfl 42 (.tmp 5) (.tmp 33) rfl (wa5.heap.size) _ rfl rfl _ _ x1 infoSn rfl (by first | (simp [Value.oneCell']; done) | exact S15.Sn.c_all _ _ _) ?_) | (refine at_op (.store 47 (.tmp 6) (.tmp 35)) (by with_reducible rfl) ?_; clear tok7; refine wpList_store_row rfl 47 (.tmp 6) (.tmp 35) rfl ((wa5.heap.size + 1)) _ rfl rfl _ _ ((x2).setRow_other (k := wa5.heap.size) (by omega) (List.toArray ((new a0).c g0 cap0))) infoRSn rfl (by first | (simp [Value.oneCell']; done) | exact S15.Sn.c_all _ _ _) ?_))
    obtain ⟨p1, hp1⟩ : ∃ p1, p1 = wa5.heap.size := ⟨_, rfl⟩
    rw [← hp1] at x1 x2 lH0x1 lQ0x1 lzx1 ⊢
    generalize (wa5.alloc (.cells #[.nilFunc, .nilFunc, .string ⟨#[]⟩, .slice none 0 0, .int .u64 0] 42 (0, 0))).alloc (.cells #[.slice none 0 0, .string ⟨#[]⟩, .int .u64 0] 47 (0, 0)) = wa8 at *
    clear hp1
    replace H0 := H0.setRow (k := (p1)) (by omega) (List.toArray ((new a0).c g0 cap0))
    replace Q0 := Q0.setRow (k := (p1)) (by omega) (List.toArray ((new a0).c g0 cap0))
    replace x1 := x1.setRow ((new a0).c g0 cap0)
    replace x2 := x2.setRow_other (k := p1) (by omega) (List.toArray ((new a0).c g0 cap0))
    replace bb := below_row bb (show _ ≤ p1 by omega) (List.toArray ((new a0).c g0 cap0))
    generalize wa8.setRow p1 (List.toArray ((new a0).c g0 cap0)) = wa9 at *
    replace H0 := H0.setRow (k := ((p1 + 1))) (by omega) (List.toArray ([.slice (some ⟨gq0, 0, none⟩) 1 1, .string a0, .int .u64 0]))
    replace Q0 := Q0.setRow (k := ((p1 + 1))) (by omega) (List.toArray ([.slice (some ⟨gq0, 0, none⟩) 1 1, .string a0, .int .u64 0]))
    replace x1 := x1.setRow_other (k := (p1 + 1)) (by omega) (List.toArray ([.slice (some ⟨gq0, 0, none⟩) 1 1, .string a0, .int .u64 0]))
    replace x2 := x2.setRow ([.slice (some ⟨gq0, 0, none⟩) 1 1, .string a0, .int .u64 0])
    replace bb := below_row bb (show _ ≤ (p1 + 1) by omega) (List.toArray ([.slice (some ⟨gq0, 0, none⟩) 1 1, .string a0, .int .u64 0]))
    generalize wa9.setRow ((p1 + 1)) (List.toArray ([.slice (some ⟨gq0, 0, none⟩) 1 1, .string a0, .int .u64 0])) = wa10 at *
    obtain ⟨p2, hp2⟩ : ∃ x, x = p1 + 1 := ⟨_, rfl⟩
    have hp12 : p1 ≠ p2 := by omega
    rw [← hp2] at x2 ⊢
    have hwp1 : w.heap.size ≤ p1 := by omega
    have hwp2 : w.heap.size ≤ p2 := by omega
    clear hp2 CR CW CQ0 CL
    go_wp2
    go_loopg [38, 7] len1 (fun gg iv tv wr => ∃ (i tk g cap gq oq cq : Nat) (s : Sn), i ≤ len1 ∧ len1 - i ≤ gg ∧ iv = .int .i64 (i : Int) ∧ tv = .int .u64 (tk : Int) ∧ tk ≤ 1125899906842624 * i ∧ Hid (Ok 100 i tk s) ∧ Row wr p1 42 (s.c g cap) ∧ Row wr p2 47 [.slice (some ⟨gq, oq, none⟩) s.L.length cq, .string s.now, .int .u64 (s.last : Int)] ∧ Held wr s g cap ∧ RHeld wr s gq oq cq ∧ Below w.heap.size w wr)
    case atStart => exact ⟨0, 0, g0, cap0, gq0, 0, 1, new a0, Nat.zero_le _, by omega, rfl, rfl, Nat.zero_le _, O0, x1, x2, H0, Q0, bb⟩
    case round =>
      clear x1 x2 H0 Q0 bb O0
      obtain ⟨i, tk, g, cap, gq, oq, cq, s, hi, hgg, rfl, rfl, htk, HO, x1, x2, H0, Q0, bb⟩ := hrel
      by_cases hlt : i < len1
      · have hs : (i : Int) < (len1 : Int) := by omega
        obtain ⟨b, off, rfl, hbl, hin⟩ := HI.out (by omega)
        obtain ⟨d, nn, la, wa, be, tx, ⟨hd, hnn, hla, hwa, hbe, htx⟩, hr0⟩ := hin i hlt
        have hr : wr.rangeAt b (off + i * 6) [.int .u8 (d : Int), .string tx, .int .u64 (nn : Int), .int .u64 (la : Int), .int .u64 (wa : Int), .int .u64 (be : Int)] := rangeBelow hr0 bb hbl
        clear hin hr0
        unfold maxLen at htx
        obtain ⟨r1, hr1⟩ : ∃ r, r = la % 1125899906842624 := ⟨_, rfl⟩
        obtain ⟨m4, hm4⟩ : ∃ r, r = d % 4 := ⟨_, rfl⟩
        obtain ⟨m12, hm12⟩ : ∃ r, r = nn % 12 := ⟨_, rfl⟩
        obtain ⟨tk2, htk2⟩ : ∃ r, r = tk + r1 := ⟨_, rfl⟩
        have t1 : ((la : Int).tmod 1125899906842624) = (r1 : Int) := by rw [hr1]; rfl
        have q1 : ((la : Int) % 1125899906842624) = (r1 : Int) := by rw [hr1]; rfl
        have t4 : ((d : Int).tmod 4) = (m4 : Int) := by rw [hm4]; rfl
        have q4 : ((d : Int) % 4) = (m4 : Int) := by rw [hm4]; rfl
        have t12 : ((nn : Int).tmod 12) = (m12 : Int) := by rw [hm12]; rfl
        have q12 : ((nn : Int) % 12) = (m12 : Int) := by rw [hm12]; rfl
        have b1 : r1 < 1125899906842624 := by omega
        have b4 : m4 < 4 := by omega
        have y1 : (tk : Int) + (r1 : Int) = (tk2 : Int) := by omega
        have y2 : IntKind.u64.wrap (tk2 : Int) = (tk2 : Int) := by rw [IntKind.wrap_u64]; omega
        have y3 : IntKind.u64.wrap ((tk : Int) + (r1 : Int)) = (tk2 : Int) := by rw [IntKind.wrap_u64]; omega
        have hu1 : tk2 ≤ 1125899906842624 * (i + 1) := by omega
        have hu2 : tk2 ≤ 18446744073709551615 := by omega
        have HO1 : Hid (Ok 100 i tk2 s) := HO.out.mono (Nat.le_refl _) (Nat.le_refl _) (by omega)
        clear hr1 hm4 hm12 htk2 htk HO
        by_cases h1 : tx.size ≤ 100
        · have e1 : ¬ (100 : Int) < (tx.size : Int) := by omega
          have n1a := st_ne H0.st HO1.out.pos x1 (sn_no _ _ _)
          have n2a := st_ne H0.st HO1.out.pos x2 (rc_no _ _ _ (fun a => by simp) (fun a => by simp))
          have n3a := st_ne Q0.st HO1.out.pos x1 (sn_no _ _ _)
          have n4a := st_ne Q0.st HO1.out.pos x2 (rc_no _ _ _ (fun a => by simp) (fun a => by simp))
          have x9 : Row (wr.alloc (.cells #[.int .u8 (d : Int), .string tx, .int .u64 (nn : Int), .int .u64 (la : Int), .int .u64 (wa : Int), .int .u64 (be : Int)] 50 (0, 0))) wr.heap.size 50 ([.int .u8 (d : Int), .string tx, .int .u64 (nn : Int), .int .u64 (la : Int), .int .u64 (wa : Int), .int .u64 (be : Int)]) := Row.new' rfl rfl
          have lx1x9 : p1 < wr.heap.size := x1.lt
          have lx2x9 : p2 < wr.heap.size := x2.lt
          have lzx9 := bb.size
          replace x1 := x1.alloc (.cells #[.int .u8 (d : Int), .string tx, .int .u64 (nn : Int), .int .u64 (la : Int), .int .u64 (wa : Int), .int .u64 (be : Int)] 50 (0, 0))
          replace x2 := x2.alloc (.cells #[.int .u8 (d : Int), .string tx, .int .u64 (nn : Int), .int .u64 (la : Int), .int .u64 (wa : Int), .int .u64 (be : Int)] 50 (0, 0))
          replace H0 := H0.alloc (.cells #[.int .u8 (d : Int), .string tx, .int .u64 (nn : Int), .int .u64 (la : Int), .int .u64 (wa : Int), .int .u64 (be : Int)] 50 (0, 0))
          replace Q0 := Q0.alloc (.cells #[.int .u8 (d : Int), .string tx, .int .u64 (nn : Int), .int .u64 (la : Int), .int .u64 (wa : Int), .int .u64 (be : Int)] 50 (0, 0))
          replace bb := bb.alloc bb.size (.cells #[.int .u8 (d : Int), .string tx, .int .u64 (nn : Int), .int .u64 (la : Int), .int .u64 (wa : Int), .int .u64 (be : Int)] 50 (0, 0))
          have c90 : (wr.alloc (.cells #[.int .u8 (d : Int), .string tx, .int .u64 (nn : Int), .int .u64 (la : Int), .int .u64 (wa : Int), .int .u64 (be : Int)] 50 (0, 0))).cell? ⟨wr.heap.size, 0, none⟩ = some (.int .u8 (d : Int)) := x9.cell 0
          have c91 : (wr.alloc (.cells #[.int .u8 (d : Int), .string tx, .int .u64 (nn : Int), .int .u64 (la : Int), .int .u64 (wa : Int), .int .u64 (be : Int)] 50 (0, 0))).cell? ⟨wr.heap.size, 1, none⟩ = some (.string tx) := x9.cell 1
          have c93 : (wr.alloc (.cells #[.int .u8 (d : Int), .string tx, .int .u64 (nn : Int), .int .u64 (la : Int), .int .u64 (wa : Int), .int .u64 (be : Int)] 50 (0, 0))).cell? ⟨wr.heap.size, 3, none⟩ = some (.int .u64 (la : Int)) := x9.cell 3
          have tok101 : True := True.intro
          go_upto_block 2 with (first | (refine at_op (.load 50 (.tmp 40)) (by with_reducible rfl) ?_; clear tok101; refine wpList_load_mid rfl 50 (.tmp 40) rfl b (off + i * 6) rfl _ _ hr Try.underlying50 rfl infoActP ?_))
          clear c90 c91 c93 hr
          obtain ⟨p9, hp9⟩ : ∃ p9, p9 = wr.heap.size := ⟨_, rfl⟩
          rw [← hp9] at x9 lx1x9 lx2x9 lzx9 ⊢
          generalize wr.alloc (.cells #[.int .u8 (d : Int), .string tx, .int .u64 (nn : Int), .int .u64 (la : Int), .int .u64 (wa : Int), .int .u64 (be : Int)] 50 (0, 0)) = wa102 at *
          clear hp9
          go_cut [53] (fun _ wx => ∃ (g2 cap2 gq2 oq2 cq2 : Nat) (s2 : Sn), Hid (Ok 100 (i + 1) tk2 s2) ∧ Row wx p1 42 (s2.c g2 cap2) ∧ Row wx p2 47 [.slice (some ⟨gq2, oq2, none⟩) s2.L.length cq2, .string s2.now, .int .u64 (s2.last : Int)] ∧ Held wx s2 g2 cap2 ∧ RHeld wx s2 gq2 oq2 cq2 ∧ Below w.heap.size w wx)
          case first =>
            rcases (show m4 = 0 ∨ m4 = 1 ∨ 2 ≤ m4 by omega) with h4 | h4 | h4
            · have e0 : ((m4 : Int) == 0) = true := by rw [beq_iff_eq]; omega
              have c91 : _ = some (.string tx : Value) := (x9).cell 1
              have tok103 : True := True.intro
              go_wp2_with (first | (refine at_op (.load 42 (.tmp 5)) (by with_reducible rfl) ?_; clear tok103; refine wpList_load_row rfl 42 (.tmp 5) rfl (p1) rfl _ _ _ _ x1 Try.underlying42 rfl infoSn ?_))
              clear c91
              refine (set_sn s tx g cap _ H0 HO1.out.pos).mono ?_
              rintro e wa104 ⟨rfl, H2, bwa104⟩
              replace x1 := x1.below bwa104 x1.lt
              replace x2 := x2.below bwa104 x2.lt
              replace H0 := H0.keep bwa104
              replace Q0 := Q0.keep bwa104
              replace x9 := x9.below bwa104 x9.lt
              replace bb := bb.trans (bwa104.mono bb.size)
              clear bwa104
              clear H0
              have c91 : _ = some (.string tx : Value) := (x9.setRow_other (k := p1) (by omega) (List.toArray ((s.set tx).c g cap))).cell 1
              have c152 := (x2.setRow_other (k := p1) (by omega) (List.toArray ((s.set tx).c g cap))).cell 1
              have f152 := (x2.setRow_other (k := p1) (by omega) (List.toArray ((s.set tx).c g cap))).frozen 1
              simp only [List.getElem?_cons_zero, List.getElem?_cons_succ] at c152
              have tok105 : True := True.intro
              go_wp2_with (first | (refine at_op (.store 42 (.tmp 5) (.tmp 149)) (by with_reducible rfl) ?_; clear tok105; refine wpList_store_row rfl 42 (.tmp 5) (.tmp 149) rfl (p1) _ rfl rfl _ _ x1 infoSn rfl (by first | (simp [Value.oneCell']; done) | exact S15.Sn.c_all _ _ _) ?_))
              replace x1 := x1.setRow ((s.set tx).c g cap)
              replace x2 := x2.setRow_other (k := p1) (by omega) (List.toArray ((s.set tx).c g cap))
              replace Q0 := Q0.setRow (k := (p1)) (by omega) (List.toArray ((s.set tx).c g cap))
              replace x9 := x9.setRow_other (k := p1) (by omega) (List.toArray ((s.set tx).c g cap))
              replace H2 := H2.setRow (k := (p1)) (by omega) (List.toArray ((s.set tx).c g cap))
              replace bb := below_row bb (show _ ≤ p1 by omega) (List.toArray ((s.set tx).c g cap))
              generalize wa104.setRow p1 (List.toArray ((s.set tx).c g cap)) = wa106 at *
              go_meet
              have x2s := x2.set 1 (.string tx)
              simp only [List.set_cons_succ, List.set_cons_zero] at x2s
              exact ⟨g, cap, gq, oq, cq, s.set tx, ((HO1.out.mono (Nat.le_refl _) (Nat.le_succ _) (Nat.le_refl _)).set (by omega)), x1.other (k := p2) (i := 1) (by omega) (.string tx), x2s, H2.other (k := p2) (i := 1) (by omega) (.string tx), RHeld.other (s := s.set tx) (k := p2) (i := 1) ⟨Q0.st, Q0.le⟩ (by omega) (.string tx), bb.setCell (p := ⟨p2, 1, none⟩) (by show _ ≤ p2; omega) (.string tx)⟩
            · as_aux_lemma =>
                have e0 : ((m4 : Int) == 0) = false := by rw [beq_eq_false_iff_ne]; omega
                have e1 : ((m4 : Int) == 1) = true := by rw [beq_iff_eq]; omega
                go_wp2
                refine wp_region_held_drew (S := fun w' => Row w' p9 50 [.int .u8 (d : Int), .string tx, .int .u64 (nn : Int), .int .u64 (la : Int), .int .u64 (wa : Int), .int .u64 (be : Int)] ∧ Below w.heap.size w w') (by kernel_rfl) (⟨x9.drew, bb.drew⟩) (fun hHeld => ?_)
                replace x1 := x1.drew
                replace x2 := x2.drew
                replace H0 := H0.drew
                replace Q0 := Q0.drew
                generalize wa102.drew = wd103 at *
                obtain ⟨Bz, hBz⟩ : ∃ B, B = wd103.heap.size := ⟨_, rfl⟩
                have lB0 : p1 < Bz := by rw [hBz]; exact x1.lt
                have lB1 : p2 < Bz := by rw [hBz]; exact x2.lt
                have lB2 : g < Bz := by rw [hBz]; exact H0.lt
                have lB3 : gq < Bz := by rw [hBz]; exact Q0.lt
                have lB4 : p9 < Bz := by rw [hBz]; exact (hHeld.1).lt
                have lBw : w.heap.size ≤ Bz := by rw [hBz]; exact (hHeld.2).size
                have lw : Bz ≤ wd103.heap.size := by rw [hBz]; exact Nat.le_refl _
                clear hBz
                refine cut_hereT (G := ∀ (g2 cap2 oq2 cq2 : Nat) (wz : World), (True) → S15.Held wz s g cap → (g2 ≠ p1 ∧ g2 ≠ p2 ∧ S15.Held wz (s.acked m12) g2 cap2) → S15.RHeld wz s gq oq cq → S15.RHeld wz (s.acked m12) gq oq2 cq2 → Row wz p1 42 ((s.c g cap)) → Row wz p2 47 ([.slice (some ⟨gq, oq, none⟩) s.L.length cq, .string s.now, .int .u64 (s.last : Int)]) → (Row wz p9 50 [.int .u8 (d : Int), .string tx, .int .u64 (nn : Int), .int .u64 (la : Int), .int .u64 (wa : Int), .int .u64 (be : Int)] ∧ Below w.heap.size w wz) → (?B : Nat → Nat → Nat → Nat → World → Prop) g2 cap2 oq2 cq2 wz) ?tree ?lf
                case tree =>
                  intro leaf
                  refine take_d 1 (some 156) (.pointer (some ⟨p9, 2, none⟩)) rfl (by kernel_rfl) (by kernel_rfl) (by kernel_rfl) (fun _ _ _ h => h) (fun oi h => by cases h; exact Or.inl ⟨by rfl, fun w' hS' => by go_simp⟩) hHeld ?_
                  try simp only [Act.put, List.setIfInBounds_toArray, List.set_cons_zero, List.set_cons_succ]
                  refine take_d 2 (some 157) (.int .u64 (nn : Int)) rfl (by kernel_rfl) (by kernel_rfl) (by kernel_rfl) (fun _ _ _ h => h) (fun oi h => by cases h; exact Or.inl ⟨by rfl, fun w' hS' => by have c : w'.cell? ⟨p9, 2, none⟩ = some (.int .u64 (nn : Int)) := hS'.1.cell 2; go_simp⟩) hHeld ?_
                  try simp only [Act.put, List.setIfInBounds_toArray, List.set_cons_zero, List.set_cons_succ]
                  refine take_d 3 (some 158) (.int .u64 (m12 : Int)) rfl (by kernel_rfl) (by kernel_rfl) (by kernel_rfl) (fun _ _ _ h => h) (fun oi h => by cases h; exact Or.inl ⟨by rfl, fun w' hS' => by go_simp⟩) hHeld ?_
                  try simp only [Act.put, List.setIfInBounds_toArray, List.set_cons_zero, List.set_cons_succ]
                  refine take_d 6 (some 161) (.pointer (some ⟨p9, 2, none⟩)) rfl (by kernel_rfl) (by kernel_rfl) (by kernel_rfl) (fun _ _ _ h => h) (fun oi h => by cases h; exact Or.inl ⟨by rfl, fun w' hS' => by go_simp⟩) hHeld ?_
                  try simp only [Act.put, List.setIfInBounds_toArray, List.set_cons_zero, List.set_cons_succ]
                  refine take_d 7 (some 162) (.int .u64 (nn : Int)) rfl (by kernel_rfl) (by kernel_rfl) (by kernel_rfl) (fun _ _ _ h => h) (fun oi h => by cases h; exact Or.inl ⟨by rfl, fun w' hS' => by have c : w'.cell? ⟨p9, 2, none⟩ = some (.int .u64 (nn : Int)) := hS'.1.cell 2; go_simp⟩) hHeld ?_
                  try simp only [Act.put, List.setIfInBounds_toArray, List.set_cons_zero, List.set_cons_succ]
                  refine take_d 8 (some 163) (.int .u64 (m12 : Int)) rfl (by kernel_rfl) (by kernel_rfl) (by kernel_rfl) (fun _ _ _ h => h) (fun oi h => by cases h; exact Or.inl ⟨by rfl, fun w' hS' => by go_simp⟩) hHeld ?_
                  try simp only [Act.put, List.setIfInBounds_toArray, List.set_cons_zero, List.set_cons_succ]
                  refine two_d 0 5 rfl rfl (by kernel_rfl) ?_ ?_
                  · intro K hK
                    refine step_load_row rfl 42 (.tmp 5) rfl (p1) rfl _ ((s.c g cap)) _ x1 Try.underlying42 rfl infoSn ?_
                    refine hK.out _ _ hHeld (fun hHeld => ?_)
                    clear hK K
                    try simp only [Act.put, List.setIfInBounds_toArray, List.set_cons_zero, List.set_cons_succ]
                    refine two_d 4 5 rfl rfl (by kernel_rfl) ?_ ?_
                    · intro K hK
                      go_simp
                      refine (acked_ne s g cap m12 p1 p2 s g cap (.slice (some ⟨gq, oq, none⟩) s.L.length cq) (.string s.now) (.int .u64 (s.last : Int)) _ HO1.out H0 x1 x2 (fun a => by simp) (fun a => by simp)).mono ?_
                      rintro e v104 ⟨g2, cap2, rfl, H2, bb0⟩
                      replace x1 := x1.below bb0 x1.lt
                      replace x2 := x2.below bb0 x2.lt
                      replace H0 := H0.keep bb0
                      replace Q0 := Q0.keep bb0
                      replace lw := Nat.le_trans lw bb0.size
                      refine hK.out _ _ (⟨hHeld.1.below bb0 hHeld.1.lt, hHeld.2.trans (bb0.mono hHeld.2.size)⟩) (fun hHeld => ?_)
                      clear bb0
                      clear hK K
                      try simp only [Act.put, List.setIfInBounds_toArray, List.set_cons_zero, List.set_cons_succ]
                      refine one_d 5 (some 160) rfl (by kernel_rfl) ?_
                      intro o ho1 hd K hK
                      cases ho1
                      refine step_load_row rfl 47 (.tmp 6) rfl (p2) rfl _ ([.slice (some ⟨gq, oq, none⟩) s.L.length cq, .string s.now, .int .u64 (s.last : Int)]) _ x2 Try.underlying47 rfl infoRSn ?_
                      refine hK.out _ _ hHeld (fun hHeld => ?_)
                      clear hK K hd
                      try simp only [Act.put, List.setIfInBounds_toArray, List.set_cons_zero, List.set_cons_succ]
                      refine one_d 9 (some 164) rfl (by kernel_rfl) ?_
                      intro o ho1 hd K hK
                      cases ho1
                      go_simp
                      refine (racked_sn s gq oq cq m12 _ HO1.out Q0).mono ?_
                      rintro e v105 ⟨oq2, cq2, rfl, Q2, bb0⟩
                      replace x1 := x1.below bb0 x1.lt
                      replace x2 := x2.below bb0 x2.lt
                      replace H0 := H0.keep bb0
                      replace Q0 := Q0.keep bb0
                      replace H2 := And.intro H2.1 (And.intro H2.2.1 (H2.2.2.keep bb0))
                      replace lw := Nat.le_trans lw bb0.size
                      refine hK.out _ _ (⟨hHeld.1.below bb0 hHeld.1.lt, hHeld.2.trans (bb0.mono hHeld.2.size)⟩) (fun hHeld => ?_)
                      clear bb0
                      clear hK K hd
                      try simp only [Act.put, List.setIfInBounds_toArray, List.set_cons_zero, List.set_cons_succ]
                      exact leaf.out g2 cap2 oq2 cq2 _ (by first | trivial | omega) H0 H2 Q0 Q2 x1 x2 hHeld
                    · intro K hK
                      refine step_load_row rfl 47 (.tmp 6) rfl (p2) rfl _ ([.slice (some ⟨gq, oq, none⟩) s.L.length cq, .string s.now, .int .u64 (s.last : Int)]) _ x2 Try.underlying47 rfl infoRSn ?_
                      refine hK.out _ _ hHeld (fun hHeld => ?_)
                      clear hK K
                      try simp only [Act.put, List.setIfInBounds_toArray, List.set_cons_zero, List.set_cons_succ]
                      refine one_d 4 (some 159) rfl (by kernel_rfl) ?_
                      intro o ho1 hd K hK
                      cases ho1
                      go_simp
                      refine (acked_ne s g cap m12 p1 p2 s g cap (.slice (some ⟨gq, oq, none⟩) s.L.length cq) (.string s.now) (.int .u64 (s.last : Int)) _ HO1.out H0 x1 x2 (fun a => by simp) (fun a => by simp)).mono ?_
                      rintro e v104 ⟨g2, cap2, rfl, H2, bb0⟩
                      replace x1 := x1.below bb0 x1.lt
                      replace x2 := x2.below bb0 x2.lt
                      replace H0 := H0.keep bb0
                      replace Q0 := Q0.keep bb0
                      replace lw := Nat.le_trans lw bb0.size
                      refine hK.out _ _ (⟨hHeld.1.below bb0 hHeld.1.lt, hHeld.2.trans (bb0.mono hHeld.2.size)⟩) (fun hHeld => ?_)
                      clear bb0
                      clear hK K hd
                      try simp only [Act.put, List.setIfInBounds_toArray, List.set_cons_zero, List.set_cons_succ]
                      refine one_d 9 (some 164) rfl (by kernel_rfl) ?_
                      intro o ho1 hd K hK
                      cases ho1
                      go_simp
                      refine (racked_sn s gq oq cq m12 _ HO1.out Q0).mono ?_
                      rintro e v105 ⟨oq2, cq2, rfl, Q2, bb0⟩
                      replace x1 := x1.below bb0 x1.lt
                      replace x2 := x2.below bb0 x2.lt
                      replace H0 := H0.keep bb0
                      replace Q0 := Q0.keep bb0
                      replace H2 := And.intro H2.1 (And.intro H2.2.1 (H2.2.2.keep bb0))
                      replace lw := Nat.le_trans lw bb0.size
                      refine hK.out _ _ (⟨hHeld.1.below bb0 hHeld.1.lt, hHeld.2.trans (bb0.mono hHeld.2.size)⟩) (fun hHeld => ?_)
                      clear bb0
                      clear hK K hd
                      try simp only [Act.put, List.setIfInBounds_toArray, List.set_cons_zero, List.set_cons_succ]
                      exact leaf.out g2 cap2 oq2 cq2 _ (by first | trivial | omega) H0 H2 Q0 Q2 x1 x2 hHeld
                  · intro K hK
                    refine step_load_row rfl 47 (.tmp 6) rfl (p2) rfl _ ([.slice (some ⟨gq, oq, none⟩) s.L.length cq, .string s.now, .int .u64 (s.last : Int)]) _ x2 Try.underlying47 rfl infoRSn ?_
                    refine hK.out _ _ hHeld (fun hHeld => ?_)
                    clear hK K
                    try simp only [Act.put, List.setIfInBounds_toArray, List.set_cons_zero, List.set_cons_succ]
                    refine one_d 0 (some 155) rfl (by kernel_rfl) ?_
                    intro o ho1 hd K hK
                    cases ho1
                    refine step_load_row rfl 42 (.tmp 5) rfl (p1) rfl _ ((s.c g cap)) _ x1 Try.underlying42 rfl infoSn ?_
                    refine hK.out _ _ hHeld (fun hHeld => ?_)
                    clear hK K hd
                    try simp only [Act.put, List.setIfInBounds_toArray, List.set_cons_zero, List.set_cons_succ]
                    refine one_d 4 (some 159) rfl (by kernel_rfl) ?_
                    intro o ho1 hd K hK
                    cases ho1
                    go_simp
                    refine (acked_ne s g cap m12 p1 p2 s g cap (.slice (some ⟨gq, oq, none⟩) s.L.length cq) (.string s.now) (.int .u64 (s.last : Int)) _ HO1.out H0 x1 x2 (fun a => by simp) (fun a => by simp)).mono ?_
                    rintro e v104 ⟨g2, cap2, rfl, H2, bb0⟩
                    replace x1 := x1.below bb0 x1.lt
                    replace x2 := x2.below bb0 x2.lt
                    replace H0 := H0.keep bb0
                    replace Q0 := Q0.keep bb0
                    replace lw := Nat.le_trans lw bb0.size
                    refine hK.out _ _ (⟨hHeld.1.below bb0 hHeld.1.lt, hHeld.2.trans (bb0.mono hHeld.2.size)⟩) (fun hHeld => ?_)
                    clear bb0
                    clear hK K hd
                    try simp only [Act.put, List.setIfInBounds_toArray, List.set_cons_zero, List.set_cons_succ]
                    refine one_d 9 (some 164) rfl (by kernel_rfl) ?_
                    intro o ho1 hd K hK
                    cases ho1
                    go_simp
                    refine (racked_sn s gq oq cq m12 _ HO1.out Q0).mono ?_
                    rintro e v105 ⟨oq2, cq2, rfl, Q2, bb0⟩
                    replace x1 := x1.below bb0 x1.lt
                    replace x2 := x2.below bb0 x2.lt
                    replace H0 := H0.keep bb0
                    replace Q0 := Q0.keep bb0
                    replace H2 := And.intro H2.1 (And.intro H2.2.1 (H2.2.2.keep bb0))
                    replace lw := Nat.le_trans lw bb0.size
                    refine hK.out _ _ (⟨hHeld.1.below bb0 hHeld.1.lt, hHeld.2.trans (bb0.mono hHeld.2.size)⟩) (fun hHeld => ?_)
                    clear bb0
                    clear hK K hd
                    try simp only [Act.put, List.setIfInBounds_toArray, List.set_cons_zero, List.set_cons_succ]
                    exact leaf.out g2 cap2 oq2 cq2 _ (by first | trivial | omega) H0 H2 Q0 Q2 x1 x2 hHeld
                case lf =>
                  intro g2 cap2 oq2 cq2 wz hdis H0 H2 Q0 Q2 x1 x2 hHeld
                  refine one_d 10 none rfl (by kernel_rfl) ?_
                  intro o ho1 hd K hK
                  cases ho1
                  refine step_store_row rfl 42 (.tmp 5) (.tmp 159) rfl (p1) ((s.acked m12).c g2 cap2) rfl rfl _ _ x1 infoSn rfl (by first | (simp [Value.oneCell']; done) | exact S15.Sn.c_all _ _ _) ?_
                  rw [hd]
                  replace x1 := x1.setRow ((s.acked m12).c g2 cap2)
                  replace x2 := x2.setRow_other (k := p1) (by omega) (List.toArray ((s.acked m12).c g2 cap2))
                  replace H0 := H0.setRow (k := (p1)) (by omega) (List.toArray ((s.acked m12).c g2 cap2))
                  replace Q0 := Q0.setRow (k := (p1)) (by omega) (List.toArray ((s.acked m12).c g2 cap2))
                  replace H2 := And.intro H2.1 (And.intro H2.2.1 (H2.2.2.setRow (k := (p1)) (by omega) (List.toArray ((s.acked m12).c g2 cap2))))
                  replace Q2 := Q2.setRow (k := (p1)) (by omega) (List.toArray ((s.acked m12).c g2 cap2))
                  have hH : Row (wz.setRow p1 (List.toArray ((s.acked m12).c g2 cap2))) p9 50 [.int .u8 (d : Int), .string tx, .int .u64 (nn : Int), .int .u64 (la : Int), .int .u64 (wa : Int), .int .u64 (be : Int)] ∧ Below w.heap.size w (wz.setRow p1 (List.toArray ((s.acked m12).c g2 cap2))) := ⟨hHeld.1.setRow_other (k := p1) (by omega) (List.toArray ((s.acked m12).c g2 cap2)), below_row hHeld.2 (show _ ≤ p1 by omega) (List.toArray ((s.acked m12).c g2 cap2))⟩
                  clear hHeld
                  generalize wz.setRow p1 (List.toArray ((s.acked m12).c g2 cap2)) = v104 at *
                  refine hK.out _ _ hH (fun hHeld => ?_)
                  clear hH
                  clear hK K hd
                  try simp only [Act.put]
                  refine one_d 11 none rfl (by kernel_rfl) ?_
                  intro o ho1 hd K hK
                  cases ho1
                  refine step_store_row rfl 47 (.tmp 6) (.tmp 164) rfl (p2) ([.slice (some ⟨gq, oq2, none⟩) (s.acked m12).L.length cq2, .string (s.acked m12).now, .int .u64 ((s.acked m12).last : Int)]) rfl rfl _ _ x2 infoRSn rfl (by first | (simp [Value.oneCell']; done) | exact S15.Sn.c_all _ _ _) ?_
                  rw [hd]
                  replace x1 := x1.setRow_other (k := p2) (by omega) (List.toArray ([.slice (some ⟨gq, oq2, none⟩) (s.acked m12).L.length cq2, .string (s.acked m12).now, .int .u64 ((s.acked m12).last : Int)]))
                  replace x2 := x2.setRow ([.slice (some ⟨gq, oq2, none⟩) (s.acked m12).L.length cq2, .string (s.acked m12).now, .int .u64 ((s.acked m12).last : Int)])
                  replace H0 := H0.setRow (k := (p2)) (by omega) (List.toArray ([.slice (some ⟨gq, oq2, none⟩) (s.acked m12).L.length cq2, .string (s.acked m12).now, .int .u64 ((s.acked m12).last : Int)]))
                  replace Q0 := Q0.setRow (k := (p2)) (by omega) (List.toArray ([.slice (some ⟨gq, oq2, none⟩) (s.acked m12).L.length cq2, .string (s.acked m12).now, .int .u64 ((s.acked m12).last : Int)]))
                  replace H2 := And.intro H2.1 (And.intro H2.2.1 (H2.2.2.setRow (k := (p2)) (by omega) (List.toArray ([.slice (some ⟨gq, oq2, none⟩) (s.acked m12).L.length cq2, .string (s.acked m12).now, .int .u64 ((s.acked m12).last : Int)]))))
                  replace Q2 := Q2.setRow (k := (p2)) (by omega) (List.toArray ([.slice (some ⟨gq, oq2, none⟩) (s.acked m12).L.length cq2, .string (s.acked m12).now, .int .u64 ((s.acked m12).last : Int)]))
                  have hH : Row (v104.setRow p2 (List.toArray ([.slice (some ⟨gq, oq2, none⟩) (s.acked m12).L.length cq2, .string (s.acked m12).now, .int .u64 ((s.acked m12).last : Int)]))) p9 50 [.int .u8 (d : Int), .string tx, .int .u64 (nn : Int), .int .u64 (la : Int), .int .u64 (wa : Int), .int .u64 (be : Int)] ∧ Below w.heap.size w (v104.setRow p2 (List.toArray ([.slice (some ⟨gq, oq2, none⟩) (s.acked m12).L.length cq2, .string (s.acked m12).now, .int .u64 ((s.acked m12).last : Int)]))) := ⟨hHeld.1.setRow_other (k := p2) (by omega) (List.toArray ([.slice (some ⟨gq, oq2, none⟩) (s.acked m12).L.length cq2, .string (s.acked m12).now, .int .u64 ((s.acked m12).last : Int)])), below_row hHeld.2 (show _ ≤ p2 by omega) (List.toArray ([.slice (some ⟨gq, oq2, none⟩) (s.acked m12).L.length cq2, .string (s.acked m12).now, .int .u64 ((s.acked m12).last : Int)]))⟩
                  clear hHeld
                  generalize v104.setRow p2 (List.toArray ([.slice (some ⟨gq, oq2, none⟩) (s.acked m12).L.length cq2, .string (s.acked m12).now, .int .u64 ((s.acked m12).last : Int)])) = v105 at *
                  refine hK.out _ _ hH (fun hHeld => ?_)
                  clear hH
                  clear hK K hd
                  try simp only [Act.put]
                  refine wpAnyH_done (by kernel_rfl) ?_ _
                  try simp only [Act.put]
                  replace x9 := hHeld.1
                  replace bb := hHeld.2
                  clear hHeld
                  go_wp2
                  go_meet
                  obtain ⟨ha1, ha2, H2⟩ := H2
                  exact ⟨g2, cap2, gq, oq2, cq2, s.acked m12, ((HO1.out.mono (Nat.le_refl _) (Nat.le_succ _) (Nat.le_refl _)).acked m12), x1, x2, H2, Q2, bb⟩
            · by_cases hgo : s.goes tk2 wa be = true
              · as_aux_lemma =>
                  have e0 : ((m4 : Int) == 0) = false := by rw [beq_eq_false_iff_ne]; omega
                  have e1 : ((m4 : Int) == 1) = false := by rw [beq_eq_false_iff_ne]; omega
                  clear h4
                  obtain ⟨du, hdu⟩ : ∃ x, x = s.due wa be := ⟨_, rfl⟩
                  have HDU : Hid (s.due wa be = du) := hdu.symm
                  have HGD := Lib.hid (goes_due s tk2 wa be)
                  clear hdu
                  have HGO := Lib.hid hgo
                  clear hgo
                  obtain ⟨s2, hs2⟩ : ∃ x, x = s.next tk2 wa be := ⟨_, rfl⟩
                  have HO2 : Hid (Ok 100 (i + 1) tk2 s2) := by show Ok 100 (i + 1) tk2 s2; rw [hs2]; exact HO1.out.next wa be (Nat.le_refl _)
                  have HS2 : Hid (s.next tk2 wa be = s2) := hs2.symm
                  clear hs2
                  have cx94 : wa102.cell? ⟨p9, 4, none⟩ = some (.int .u64 (wa : Int)) := x9.cell 4
                  have cx95 : wa102.cell? ⟨p9, 5, none⟩ = some (.int .u64 (be : Int)) := x9.cell 5
                  have tok103 : True := True.intro
                  go_wp2_with (first | (refine at_op (.load 47 (.tmp 6)) (by with_reducible rfl) ?_; clear tok103; refine wpList_load_row rfl 47 (.tmp 6) rfl (p2) rfl _ _ _ _ x2 Try.underlying47 rfl infoRSn ?_))
                  clear cx94 cx95
                  have CD := rdue_sn s gq oq cq wa be wa102 HO1.out hu2 (by omega) (by omega) Q0
                  rw [HDU.out] at CD
                  refine (CD).mono ?_
                  rintro e wa104 ⟨rfl, bwa104⟩
                  replace x1 := x1.below bwa104 x1.lt
                  replace x2 := x2.below bwa104 x2.lt
                  replace H0 := H0.keep bwa104
                  replace Q0 := Q0.keep bwa104
                  replace x9 := x9.below bwa104 x9.lt
                  replace bb := bb.trans (bwa104.mono bb.size)
                  clear bwa104
                  clear CD
                  have cx94 : wa104.cell? ⟨p9, 4, none⟩ = some (.int .u64 (wa : Int)) := x9.cell 4
                  have cx95 : wa104.cell? ⟨p9, 5, none⟩ = some (.int .u64 (be : Int)) := x9.cell 5
                  have tok105 : True := True.intro
                  go_wp2_with (first | (refine at_op (.load 42 (.tmp 5)) (by with_reducible rfl) ?_; clear tok105; refine wpList_load_row rfl 42 (.tmp 5) rfl (p1) rfl _ _ _ _ x1 Try.underlying42 rfl infoSn ?_))
                  clear cx94 cx95
                  have CD := due_sn s g cap wa be wa104 HO1.out hu2 (by omega) (by omega) H0
                  rw [HDU.out] at CD
                  refine (CD).mono ?_
                  rintro e wa106 ⟨rfl, bwa106⟩
                  replace x1 := x1.below bwa106 x1.lt
                  replace x2 := x2.below bwa106 x2.lt
                  replace H0 := H0.keep bwa106
                  replace Q0 := Q0.keep bwa106
                  replace x9 := x9.below bwa106 x9.lt
                  replace bb := bb.trans (bwa106.mono bb.size)
                  clear bwa106
                  clear CD
                  have tok107 : True := True.intro
                  go_wp2_with (first | (refine at_op (.load 42 (.tmp 5)) (by with_reducible rfl) ?_; clear tok107; refine wpList_load_row rfl 42 (.tmp 5) rfl (p1) rfl _ _ _ _ x1 Try.underlying42 rfl infoSn ?_))
                  refine (nums_sn s g cap _ HO1.out H0).mono ?_
                  rintro e wa108 ⟨gm, rfl, hmm, bwa108⟩
                  replace x1 := x1.below bwa108 x1.lt
                  replace x2 := x2.below bwa108 x2.lt
                  replace H0 := H0.keep bwa108
                  replace Q0 := Q0.keep bwa108
                  replace x9 := x9.below bwa108 x9.lt
                  replace bb := bb.trans (bwa108.mono bb.size)
                  clear bwa108
                  clear hmm
                  have cx92 : wa108.cell? ⟨p9, 2, none⟩ = some (.int .u64 (nn : Int)) := x9.cell 2
                  have cx94 : wa108.cell? ⟨p9, 4, none⟩ = some (.int .u64 (wa : Int)) := x9.cell 4
                  have cx95 : wa108.cell? ⟨p9, 5, none⟩ = some (.int .u64 (be : Int)) := x9.cell 5
                  have tok109 : True := True.intro
                  go_wp2_with (first | (refine at_op (.load 42 (.tmp 5)) (by with_reducible rfl) ?_; clear tok109; refine wpList_load_row rfl 42 (.tmp 5) rfl (p1) rfl _ _ _ _ x1 Try.underlying42 rfl infoSn ?_))
                  clear cx92 cx94 cx95
                  have CX := next_sn s g cap tk2 wa be nn wa108 HO1.out (by decide) (by omega) hu2 (by omega) (by omega) H0
                  have HNB : Hid (s2.base.num = s.base.num ∧ s2.base.tx = s.base.tx) := by have h := next_base HO1.out tk2 wa be; rw [HS2.out] at h; exact h
                  obtain ⟨X, hX⟩ : ∃ X : ByteArray, X = s2.base.tx ++ ⟨#[62]⟩ ++ s2.top.tx := ⟨_, rfl⟩
                  rw [show s.io tk2 wa be = s2.base.num by unfold Sn.io; rw [if_pos HGO.out, ← HNB.out.1], show s.iN tk2 wa be = s2.top.num by unfold Sn.iN; rw [if_pos HGO.out, HS2.out], show s.ia tk2 wa be nn = nn by unfold Sn.ia; rw [if_pos HGO.out], show s.id tk2 wa be = X by rw [hX]; unfold Sn.id; rw [if_pos HGO.out, HS2.out, HNB.out.2], HGO.out, HS2.out] at CX
                  have HX := Lib.hid hX
                  clear hX
                  have HF : Hid (s.fr tk2 wa be = s2.base) := by show _ = _; unfold Sn.fr; rw [if_pos HGO.out, HS2.out]
                  have HTt : Hid (s.to tk2 wa be = s2.top) := by show _ = _; unfold Sn.to; rw [if_pos HGO.out, HS2.out]
                  have edu : (du : Int) ≤ (tk2 : Int) := by have h := HGD.out; rw [HGO.out, HDU.out] at h; have := of_decide_eq_true h.symm; omega
                  have hfx : s2.base.tx.size ≤ 100 := HO2.out.tx _ HO2.out.baseMem
                  have htx2 : s2.top.tx.size ≤ 100 := HO2.out.tx _ HO2.out.topMem
                  clear HGD HDU
                  refine (CX).mono ?_
                  rintro e wa110 ⟨g2, cap2, rfl, H2, bwa110⟩
                  replace x1 := x1.below bwa110 x1.lt
                  replace x2 := x2.below bwa110 x2.lt
                  replace H0 := H0.keep bwa110
                  replace Q0 := Q0.keep bwa110
                  replace x9 := x9.below bwa110 x9.lt
                  replace bb := bb.trans (bwa110.mono bb.size)
                  clear bwa110
                  clear CX
                  have x12 : Row ((wa110.alloc (.cells #[.nilFunc, .nilFunc, .string ⟨#[]⟩, .slice none 0 0, .int .u64 0] 42 (0, 0))).alloc (.cells #[.int .u64 0, .int .u64 0, .int .u64 0, .int .u64 0, .string ⟨#[]⟩] 24 (0, 0))) wa110.heap.size 42 ([.nilFunc, .nilFunc, .string ⟨#[]⟩, .slice none 0 0, .int .u64 0]) := (Row.new' rfl rfl).alloc _
                  have x13 : Row ((wa110.alloc (.cells #[.nilFunc, .nilFunc, .string ⟨#[]⟩, .slice none 0 0, .int .u64 0] 42 (0, 0))).alloc (.cells #[.int .u64 0, .int .u64 0, .int .u64 0, .int .u64 0, .string ⟨#[]⟩] 24 (0, 0))) (wa110.heap.size + 1) 24 ([.int .u64 0, .int .u64 0, .int .u64 0, .int .u64 0, .string ⟨#[]⟩]) := Row.new' rfl (by simp)
                  have lx1x12 : p1 < wa110.heap.size := x1.lt
                  have lx2x12 : p2 < wa110.heap.size := x2.lt
                  have lH0x12 : g < wa110.heap.size := H0.lt
                  have lQ0x12 : gq < wa110.heap.size := Q0.lt
                  have lx9x12 : p9 < wa110.heap.size := x9.lt
                  have lH2x12 : g2 < wa110.heap.size := H2.lt
                  have lzx12 := bb.size
                  replace x1 := ((x1).alloc (.cells #[.nilFunc, .nilFunc, .string ⟨#[]⟩, .slice none 0 0, .int .u64 0] 42 (0, 0))).alloc (.cells #[.int .u64 0, .int .u64 0, .int .u64 0, .int .u64 0, .string ⟨#[]⟩] 24 (0, 0))
                  replace x2 := ((x2).alloc (.cells #[.nilFunc, .nilFunc, .string ⟨#[]⟩, .slice none 0 0, .int .u64 0] 42 (0, 0))).alloc (.cells #[.int .u64 0, .int .u64 0, .int .u64 0, .int .u64 0, .string ⟨#[]⟩] 24 (0, 0))
                  replace H0 := ((H0).alloc (.cells #[.nilFunc, .nilFunc, .string ⟨#[]⟩, .slice none 0 0, .int .u64 0] 42 (0, 0))).alloc (.cells #[.int .u64 0, .int .u64 0, .int .u64 0, .int .u64 0, .string ⟨#[]⟩] 24 (0, 0))
                  replace Q0 := ((Q0).alloc (.cells #[.nilFunc, .nilFunc, .string ⟨#[]⟩, .slice none 0 0, .int .u64 0] 42 (0, 0))).alloc (.cells #[.int .u64 0, .int .u64 0, .int .u64 0, .int .u64 0, .string ⟨#[]⟩] 24 (0, 0))
                  replace x9 := ((x9).alloc (.cells #[.nilFunc, .nilFunc, .string ⟨#[]⟩, .slice none 0 0, .int .u64 0] 42 (0, 0))).alloc (.cells #[.int .u64 0, .int .u64 0, .int .u64 0, .int .u64 0, .string ⟨#[]⟩] 24 (0, 0))
                  replace H2 := ((H2).alloc (.cells #[.nilFunc, .nilFunc, .string ⟨#[]⟩, .slice none 0 0, .int .u64 0] 42 (0, 0))).alloc (.cells #[.int .u64 0, .int .u64 0, .int .u64 0, .int .u64 0, .string ⟨#[]⟩] 24 (0, 0))
                  replace bb := ((bb).alloc bb.size (.cells #[.nilFunc, .nilFunc, .string ⟨#[]⟩, .slice none 0 0, .int .u64 0] 42 (0, 0))).alloc (by simp; omega) (.cells #[.int .u64 0, .int .u64 0, .int .u64 0, .int .u64 0, .string ⟨#[]⟩] 24 (0, 0))
                  have c94 : _ = some (.int .u64 (wa : Int) : Value) := (((x9).setRow_other (k := wa110.heap.size) (by omega) (List.toArray ((s2.c g2 cap2)))).setRow_other (k := (wa110.heap.size + 1)) (by omega) (List.toArray ([.int .u64 (s2.base.num : Int), .int .u64 (s2.top.num : Int), .int .u64 (nn : Int), .int .u64 (s2.base.num : Int), .string X]))).cell 4
                  have c95 : _ = some (.int .u64 (be : Int) : Value) := (((x9).setRow_other (k := wa110.heap.size) (by omega) (List.toArray ((s2.c g2 cap2)))).setRow_other (k := (wa110.heap.size + 1)) (by omega) (List.toArray ([.int .u64 (s2.base.num : Int), .int .u64 (s2.top.num : Int), .int .u64 (nn : Int), .int .u64 (s2.base.num : Int), .string X]))).cell 5
                  have tok111 : True := True.intro
                  have tok112 : True := True.intro
                  have tok113 : True := True.intro
                  go_wp2_with (first | (refine at_op (.store 42 (.tmp 12) (.tmp 80)) (by with_reducible rfl) ?_; clear tok111; refine wpList_store_row rfl 42 (.tmp 12) (.tmp 80) rfl (wa110.heap.size) _ rfl rfl _ _ x12 infoSn rfl (by first | (simp [Value.oneCell']; done) | exact S15.Sn.c_all _ _ _) ?_) | (refine at_op (.store 24 (.tmp 13) (.tmp 81)) (by with_reducible rfl) ?_; clear tok112; refine wpList_store_row rfl 24 (.tmp 13) (.tmp 81) rfl ((wa110.heap.size + 1)) _ rfl rfl _ _ ((x13).setRow_other (k := wa110.heap.size) (by omega) (List.toArray ((s2.c g2 cap2)))) infoIn rfl (by first | (simp [Value.oneCell']; done) | exact S15.Sn.c_all _ _ _) ?_) | (refine at_op (.load 47 (.tmp 6)) (by with_reducible rfl) ?_; clear tok113; refine wpList_load_row rfl 47 (.tmp 6) rfl (p2) rfl _ _ _ _ (((x2).setRow_other (k := wa110.heap.size) (by omega) (List.toArray ((s2.c g2 cap2)))).setRow_other (k := (wa110.heap.size + 1)) (by omega) (List.toArray ([.int .u64 (s2.base.num : Int), .int .u64 (s2.top.num : Int), .int .u64 (nn : Int), .int .u64 (s2.base.num : Int), .string X]))) Try.underlying47 rfl infoRSn ?_))
                  clear c94 c95
                  obtain ⟨p12, hp12⟩ : ∃ p12, p12 = wa110.heap.size := ⟨_, rfl⟩
                  rw [← hp12] at x12 x13 lx1x12 lx2x12 lH0x12 lQ0x12 lx9x12 lH2x12 lzx12 ⊢
                  generalize (wa110.alloc (.cells #[.nilFunc, .nilFunc, .string ⟨#[]⟩, .slice none 0 0, .int .u64 0] 42 (0, 0))).alloc (.cells #[.int .u64 0, .int .u64 0, .int .u64 0, .int .u64 0, .string ⟨#[]⟩] 24 (0, 0)) = wa114 at *
                  clear hp12
                  replace x1 := x1.setRow_other (k := p12) (by omega) (List.toArray ((s2.c g2 cap2)))
                  replace x2 := x2.setRow_other (k := p12) (by omega) (List.toArray ((s2.c g2 cap2)))
                  replace H0 := H0.setRow (k := (p12)) (by omega) (List.toArray ((s2.c g2 cap2)))
                  replace Q0 := Q0.setRow (k := (p12)) (by omega) (List.toArray ((s2.c g2 cap2)))
                  replace x9 := x9.setRow_other (k := p12) (by omega) (List.toArray ((s2.c g2 cap2)))
                  replace H2 := H2.setRow (k := (p12)) (by omega) (List.toArray ((s2.c g2 cap2)))
                  replace x12 := x12.setRow ((s2.c g2 cap2))
                  replace x13 := x13.setRow_other (k := p12) (by omega) (List.toArray ((s2.c g2 cap2)))
                  replace bb := below_row bb (show _ ≤ p12 by omega) (List.toArray ((s2.c g2 cap2)))
                  generalize wa114.setRow p12 (List.toArray ((s2.c g2 cap2))) = wa115 at *
                  replace x1 := x1.setRow_other (k := (p12 + 1)) (by omega) (List.toArray ([.int .u64 (s2.base.num : Int), .int .u64 (s2.top.num : Int), .int .u64 (nn : Int), .int .u64 (s2.base.num : Int), .string X]))
                  replace x2 := x2.setRow_other (k := (p12 + 1)) (by omega) (List.toArray ([.int .u64 (s2.base.num : Int), .int .u64 (s2.top.num : Int), .int .u64 (nn : Int), .int .u64 (s2.base.num : Int), .string X]))
                  replace H0 := H0.setRow (k := ((p12 + 1))) (by omega) (List.toArray ([.int .u64 (s2.base.num : Int), .int .u64 (s2.top.num : Int), .int .u64 (nn : Int), .int .u64 (s2.base.num : Int), .string X]))
                  replace Q0 := Q0.setRow (k := ((p12 + 1))) (by omega) (List.toArray ([.int .u64 (s2.base.num : Int), .int .u64 (s2.top.num : Int), .int .u64 (nn : Int), .int .u64 (s2.base.num : Int), .string X]))
                  replace x9 := x9.setRow_other (k := (p12 + 1)) (by omega) (List.toArray ([.int .u64 (s2.base.num : Int), .int .u64 (s2.top.num : Int), .int .u64 (nn : Int), .int .u64 (s2.base.num : Int), .string X]))
                  replace H2 := H2.setRow (k := ((p12 + 1))) (by omega) (List.toArray ([.int .u64 (s2.base.num : Int), .int .u64 (s2.top.num : Int), .int .u64 (nn : Int), .int .u64 (s2.base.num : Int), .string X]))
                  replace x12 := x12.setRow_other (k := (p12 + 1)) (by omega) (List.toArray ([.int .u64 (s2.base.num : Int), .int .u64 (s2.top.num : Int), .int .u64 (nn : Int), .int .u64 (s2.base.num : Int), .string X]))
                  replace x13 := x13.setRow ([.int .u64 (s2.base.num : Int), .int .u64 (s2.top.num : Int), .int .u64 (nn : Int), .int .u64 (s2.base.num : Int), .string X])
                  replace bb := below_row bb (show _ ≤ (p12 + 1) by omega) (List.toArray ([.int .u64 (s2.base.num : Int), .int .u64 (s2.top.num : Int), .int .u64 (nn : Int), .int .u64 (s2.base.num : Int), .string X]))
                  generalize wa115.setRow ((p12 + 1)) (List.toArray ([.int .u64 (s2.base.num : Int), .int .u64 (s2.top.num : Int), .int .u64 (nn : Int), .int .u64 (s2.base.num : Int), .string X])) = wa116 at *
                  have CXR := rnext_sn s gq oq cq tk2 wa be wa116 HO1.out (by omega) hu2 (by omega) (by omega) Q0
                  rw [HF.out, HTt.out, HGO.out, HS2.out] at CXR
                  clear HF HTt HS2 HGO
                  refine (CXR).mono ?_
                  rintro e wa117 ⟨gq2, oq2, cq2, rfl, Q2, bwa117⟩
                  replace x1 := x1.below bwa117 x1.lt
                  replace x2 := x2.below bwa117 x2.lt
                  replace H0 := H0.keep bwa117
                  replace Q0 := Q0.keep bwa117
                  replace x9 := x9.below bwa117 x9.lt
                  replace H2 := H2.keep bwa117
                  replace x12 := x12.below bwa117 x12.lt
                  replace x13 := x13.below bwa117 x13.lt
                  replace bb := bb.trans (bwa117.mono bb.size)
                  clear bwa117
                  clear CXR
                  have x15 : Row (((wa117.alloc (.cells #[.slice none 0 0, .string ⟨#[]⟩, .int .u64 0] 47 (0, 0))).alloc (.cells #[.int .u64 0, .int .u64 0, .string ⟨#[]⟩] 61 (0, 0))).alloc (.cells #[.int .u64 0, .int .u64 0, .string ⟨#[]⟩] 61 (0, 0))) wa117.heap.size 47 ([.slice none 0 0, .string ⟨#[]⟩, .int .u64 0]) := ((Row.new' rfl rfl).alloc _).alloc _
                  have x16 : Row (((wa117.alloc (.cells #[.slice none 0 0, .string ⟨#[]⟩, .int .u64 0] 47 (0, 0))).alloc (.cells #[.int .u64 0, .int .u64 0, .string ⟨#[]⟩] 61 (0, 0))).alloc (.cells #[.int .u64 0, .int .u64 0, .string ⟨#[]⟩] 61 (0, 0))) (wa117.heap.size + 1) 61 ([.int .u64 0, .int .u64 0, .string ⟨#[]⟩]) := (Row.new' rfl (by simp)).alloc _
                  have x17 : Row (((wa117.alloc (.cells #[.slice none 0 0, .string ⟨#[]⟩, .int .u64 0] 47 (0, 0))).alloc (.cells #[.int .u64 0, .int .u64 0, .string ⟨#[]⟩] 61 (0, 0))).alloc (.cells #[.int .u64 0, .int .u64 0, .string ⟨#[]⟩] 61 (0, 0))) (wa117.heap.size + 2) 61 ([.int .u64 0, .int .u64 0, .string ⟨#[]⟩]) := Row.new' rfl (by simp)
                  have lx1x15 : p1 < wa117.heap.size := x1.lt
                  have lx2x15 : p2 < wa117.heap.size := x2.lt
                  have lH0x15 : g < wa117.heap.size := H0.lt
                  have lQ0x15 : gq < wa117.heap.size := Q0.lt
                  have lx9x15 : p9 < wa117.heap.size := x9.lt
                  have lH2x15 : g2 < wa117.heap.size := H2.lt
                  have lx12x15 : p12 < wa117.heap.size := x12.lt
                  have lx13x15 : (p12 + 1) < wa117.heap.size := x13.lt
                  have lQ2x15 : gq2 < wa117.heap.size := Q2.lt
                  have lzx15 := bb.size
                  replace x1 := (((x1).alloc (.cells #[.slice none 0 0, .string ⟨#[]⟩, .int .u64 0] 47 (0, 0))).alloc (.cells #[.int .u64 0, .int .u64 0, .string ⟨#[]⟩] 61 (0, 0))).alloc (.cells #[.int .u64 0, .int .u64 0, .string ⟨#[]⟩] 61 (0, 0))
                  replace x2 := (((x2).alloc (.cells #[.slice none 0 0, .string ⟨#[]⟩, .int .u64 0] 47 (0, 0))).alloc (.cells #[.int .u64 0, .int .u64 0, .string ⟨#[]⟩] 61 (0, 0))).alloc (.cells #[.int .u64 0, .int .u64 0, .string ⟨#[]⟩] 61 (0, 0))
                  replace H0 := (((H0).alloc (.cells #[.slice none 0 0, .string ⟨#[]⟩, .int .u64 0] 47 (0, 0))).alloc (.cells #[.int .u64 0, .int .u64 0, .string ⟨#[]⟩] 61 (0, 0))).alloc (.cells #[.int .u64 0, .int .u64 0, .string ⟨#[]⟩] 61 (0, 0))
                  replace Q0 := (((Q0).alloc (.cells #[.slice none 0 0, .string ⟨#[]⟩, .int .u64 0] 47 (0, 0))).alloc (.cells #[.int .u64 0, .int .u64 0, .string ⟨#[]⟩] 61 (0, 0))).alloc (.cells #[.int .u64 0, .int .u64 0, .string ⟨#[]⟩] 61 (0, 0))
                  replace x9 := (((x9).alloc (.cells #[.slice none 0 0, .string ⟨#[]⟩, .int .u64 0] 47 (0, 0))).alloc (.cells #[.int .u64 0, .int .u64 0, .string ⟨#[]⟩] 61 (0, 0))).alloc (.cells #[.int .u64 0, .int .u64 0, .string ⟨#[]⟩] 61 (0, 0))
                  replace H2 := (((H2).alloc (.cells #[.slice none 0 0, .string ⟨#[]⟩, .int .u64 0] 47 (0, 0))).alloc (.cells #[.int .u64 0, .int .u64 0, .string ⟨#[]⟩] 61 (0, 0))).alloc (.cells #[.int .u64 0, .int .u64 0, .string ⟨#[]⟩] 61 (0, 0))
                  replace x12 := (((x12).alloc (.cells #[.slice none 0 0, .string ⟨#[]⟩, .int .u64 0] 47 (0, 0))).alloc (.cells #[.int .u64 0, .int .u64 0, .string ⟨#[]⟩] 61 (0, 0))).alloc (.cells #[.int .u64 0, .int .u64 0, .string ⟨#[]⟩] 61 (0, 0))
                  replace x13 := (((x13).alloc (.cells #[.slice none 0 0, .string ⟨#[]⟩, .int .u64 0] 47 (0, 0))).alloc (.cells #[.int .u64 0, .int .u64 0, .string ⟨#[]⟩] 61 (0, 0))).alloc (.cells #[.int .u64 0, .int .u64 0, .string ⟨#[]⟩] 61 (0, 0))
                  replace Q2 := (((Q2).alloc (.cells #[.slice none 0 0, .string ⟨#[]⟩, .int .u64 0] 47 (0, 0))).alloc (.cells #[.int .u64 0, .int .u64 0, .string ⟨#[]⟩] 61 (0, 0))).alloc (.cells #[.int .u64 0, .int .u64 0, .string ⟨#[]⟩] 61 (0, 0))
                  replace bb := (((bb).alloc bb.size (.cells #[.slice none 0 0, .string ⟨#[]⟩, .int .u64 0] 47 (0, 0))).alloc (by simp; omega) (.cells #[.int .u64 0, .int .u64 0, .string ⟨#[]⟩] 61 (0, 0))).alloc (by simp; omega) (.cells #[.int .u64 0, .int .u64 0, .string ⟨#[]⟩] 61 (0, 0))
                  have tok118 : True := True.intro
                  have tok119 : True := True.intro
                  have tok120 : True := True.intro
                  have tok121 : True := True.intro
                  go_wp2_with (first | (refine at_op (.store 47 (.tmp 15) (.tmp 91)) (by with_reducible rfl) ?_; clear tok118; refine wpList_store_row rfl 47 (.tmp 15) (.tmp 91) rfl (wa117.heap.size) _ rfl rfl _ _ x15 infoRSn rfl (by first | (simp [Value.oneCell']; done) | exact S15.Sn.c_all _ _ _) ?_) | (refine at_op (.store 61 (.tmp 16) (.tmp 92)) (by with_reducible rfl) ?_; clear tok119; refine wpList_store_row rfl 61 (.tmp 16) (.tmp 92) rfl ((wa117.heap.size + 1)) _ rfl rfl _ _ ((x16).setRow_other (k := wa117.heap.size) (by omega) (List.toArray ([.slice (some ⟨gq2, oq2, none⟩) s2.L.length cq2, .string s2.now, .int .u64 (s2.last : Int)]))) infoRSt rfl (by first | (simp [Value.oneCell']; done) | exact S15.Sn.c_all _ _ _) ?_) | (refine at_op (.store 61 (.tmp 17) (.tmp 93)) (by with_reducible rfl) ?_; clear tok120; refine wpList_store_row rfl 61 (.tmp 17) (.tmp 93) rfl ((wa117.heap.size + 2)) _ rfl rfl _ _ (((x17).setRow_other (k := wa117.heap.size) (by omega) (List.toArray ([.slice (some ⟨gq2, oq2, none⟩) s2.L.length cq2, .string s2.now, .int .u64 (s2.last : Int)]))).setRow_other (k := (wa117.heap.size + 1)) (by omega) (List.toArray ([.int .u64 (s2.base.num : Int), .int .u64 (s2.base.tick : Int), .string s2.base.tx]))) infoRSt rfl (by first | (simp [Value.oneCell']; done) | exact S15.Sn.c_all _ _ _) ?_) | (clear tok121; (refine at_dst (some 106) (by with_reducible rfl) ?_; refine wpList_rowT (by rfl) 42 (.tmp 5) rfl (p1) rfl _ _ _ ((((x1).setRow_other (k := wa117.heap.size) (by omega) (List.toArray ([.slice (some ⟨gq2, oq2, none⟩) s2.L.length cq2, .string s2.now, .int .u64 (s2.last : Int)]))).setRow_other (k := (wa117.heap.size + 1)) (by omega) (List.toArray ([.int .u64 (s2.base.num : Int), .int .u64 (s2.base.tick : Int), .string s2.base.tx]))).setRow_other (k := (wa117.heap.size + 2)) (by omega) (List.toArray ([.int .u64 (s2.top.num : Int), .int .u64 (s2.top.tick : Int), .string s2.top.tx]))) Try.underlying42 rfl infoSn ?_)))
                  obtain ⟨p15, hp15⟩ : ∃ p15, p15 = wa117.heap.size := ⟨_, rfl⟩
                  rw [← hp15] at x15 x16 x17 lx1x15 lx2x15 lH0x15 lQ0x15 lx9x15 lH2x15 lx12x15 lx13x15 lQ2x15 lzx15 ⊢
                  generalize ((wa117.alloc (.cells #[.slice none 0 0, .string ⟨#[]⟩, .int .u64 0] 47 (0, 0))).alloc (.cells #[.int .u64 0, .int .u64 0, .string ⟨#[]⟩] 61 (0, 0))).alloc (.cells #[.int .u64 0, .int .u64 0, .string ⟨#[]⟩] 61 (0, 0)) = wa122 at *
                  clear hp15
                  replace x1 := x1.setRow_other (k := p15) (by omega) (List.toArray ([.slice (some ⟨gq2, oq2, none⟩) s2.L.length cq2, .string s2.now, .int .u64 (s2.last : Int)]))
                  replace x2 := x2.setRow_other (k := p15) (by omega) (List.toArray ([.slice (some ⟨gq2, oq2, none⟩) s2.L.length cq2, .string s2.now, .int .u64 (s2.last : Int)]))
                  replace H0 := H0.setRow (k := (p15)) (by omega) (List.toArray ([.slice (some ⟨gq2, oq2, none⟩) s2.L.length cq2, .string s2.now, .int .u64 (s2.last : Int)]))
                  replace Q0 := Q0.setRow (k := (p15)) (by omega) (List.toArray ([.slice (some ⟨gq2, oq2, none⟩) s2.L.length cq2, .string s2.now, .int .u64 (s2.last : Int)]))
                  replace x9 := x9.setRow_other (k := p15) (by omega) (List.toArray ([.slice (some ⟨gq2, oq2, none⟩) s2.L.length cq2, .string s2.now, .int .u64 (s2.last : Int)]))
                  replace H2 := H2.setRow (k := (p15)) (by omega) (List.toArray ([.slice (some ⟨gq2, oq2, none⟩) s2.L.length cq2, .string s2.now, .int .u64 (s2.last : Int)]))
                  replace x12 := x12.setRow_other (k := p15) (by omega) (List.toArray ([.slice (some ⟨gq2, oq2, none⟩) s2.L.length cq2, .string s2.now, .int .u64 (s2.last : Int)]))
                  replace x13 := x13.setRow_other (k := p15) (by omega) (List.toArray ([.slice (some ⟨gq2, oq2, none⟩) s2.L.length cq2, .string s2.now, .int .u64 (s2.last : Int)]))
                  replace Q2 := Q2.setRow (k := (p15)) (by omega) (List.toArray ([.slice (some ⟨gq2, oq2, none⟩) s2.L.length cq2, .string s2.now, .int .u64 (s2.last : Int)]))
                  replace x15 := x15.setRow ([.slice (some ⟨gq2, oq2, none⟩) s2.L.length cq2, .string s2.now, .int .u64 (s2.last : Int)])
                  replace x16 := x16.setRow_other (k := p15) (by omega) (List.toArray ([.slice (some ⟨gq2, oq2, none⟩) s2.L.length cq2, .string s2.now, .int .u64 (s2.last : Int)]))
                  replace x17 := x17.setRow_other (k := p15) (by omega) (List.toArray ([.slice (some ⟨gq2, oq2, none⟩) s2.L.length cq2, .string s2.now, .int .u64 (s2.last : Int)]))
                  replace bb := below_row bb (show _ ≤ p15 by omega) (List.toArray ([.slice (some ⟨gq2, oq2, none⟩) s2.L.length cq2, .string s2.now, .int .u64 (s2.last : Int)]))
                  generalize wa122.setRow p15 (List.toArray ([.slice (some ⟨gq2, oq2, none⟩) s2.L.length cq2, .string s2.now, .int .u64 (s2.last : Int)])) = wa123 at *
                  replace x1 := x1.setRow_other (k := (p15 + 1)) (by omega) (List.toArray ([.int .u64 (s2.base.num : Int), .int .u64 (s2.base.tick : Int), .string s2.base.tx]))
                  replace x2 := x2.setRow_other (k := (p15 + 1)) (by omega) (List.toArray ([.int .u64 (s2.base.num : Int), .int .u64 (s2.base.tick : Int), .string s2.base.tx]))
                  replace H0 := H0.setRow (k := ((p15 + 1))) (by omega) (List.toArray ([.int .u64 (s2.base.num : Int), .int .u64 (s2.base.tick : Int), .string s2.base.tx]))
                  replace Q0 := Q0.setRow (k := ((p15 + 1))) (by omega) (List.toArray ([.int .u64 (s2.base.num : Int), .int .u64 (s2.base.tick : Int), .string s2.base.tx]))
                  replace x9 := x9.setRow_other (k := (p15 + 1)) (by omega) (List.toArray ([.int .u64 (s2.base.num : Int), .int .u64 (s2.base.tick : Int), .string s2.base.tx]))
                  replace H2 := H2.setRow (k := ((p15 + 1))) (by omega) (List.toArray ([.int .u64 (s2.base.num : Int), .int .u64 (s2.base.tick : Int), .string s2.base.tx]))
                  replace x12 := x12.setRow_other (k := (p15 + 1)) (by omega) (List.toArray ([.int .u64 (s2.base.num : Int), .int .u64 (s2.base.tick : Int), .string s2.base.tx]))
                  replace x13 := x13.setRow_other (k := (p15 + 1)) (by omega) (List.toArray ([.int .u64 (s2.base.num : Int), .int .u64 (s2.base.tick : Int), .string s2.base.tx]))
                  replace Q2 := Q2.setRow (k := ((p15 + 1))) (by omega) (List.toArray ([.int .u64 (s2.base.num : Int), .int .u64 (s2.base.tick : Int), .string s2.base.tx]))
                  replace x15 := x15.setRow_other (k := (p15 + 1)) (by omega) (List.toArray ([.int .u64 (s2.base.num : Int), .int .u64 (s2.base.tick : Int), .string s2.base.tx]))
                  replace x16 := x16.setRow ([.int .u64 (s2.base.num : Int), .int .u64 (s2.base.tick : Int), .string s2.base.tx])
                  replace x17 := x17.setRow_other (k := (p15 + 1)) (by omega) (List.toArray ([.int .u64 (s2.base.num : Int), .int .u64 (s2.base.tick : Int), .string s2.base.tx]))
                  replace bb := below_row bb (show _ ≤ (p15 + 1) by omega) (List.toArray ([.int .u64 (s2.base.num : Int), .int .u64 (s2.base.tick : Int), .string s2.base.tx]))
                  generalize wa123.setRow ((p15 + 1)) (List.toArray ([.int .u64 (s2.base.num : Int), .int .u64 (s2.base.tick : Int), .string s2.base.tx])) = wa124 at *
                  replace x1 := x1.setRow_other (k := (p15 + 2)) (by omega) (List.toArray ([.int .u64 (s2.top.num : Int), .int .u64 (s2.top.tick : Int), .string s2.top.tx]))
                  replace x2 := x2.setRow_other (k := (p15 + 2)) (by omega) (List.toArray ([.int .u64 (s2.top.num : Int), .int .u64 (s2.top.tick : Int), .string s2.top.tx]))
                  replace H0 := H0.setRow (k := ((p15 + 2))) (by omega) (List.toArray ([.int .u64 (s2.top.num : Int), .int .u64 (s2.top.tick : Int), .string s2.top.tx]))
                  replace Q0 := Q0.setRow (k := ((p15 + 2))) (by omega) (List.toArray ([.int .u64 (s2.top.num : Int), .int .u64 (s2.top.tick : Int), .string s2.top.tx]))
                  replace x9 := x9.setRow_other (k := (p15 + 2)) (by omega) (List.toArray ([.int .u64 (s2.top.num : Int), .int .u64 (s2.top.tick : Int), .string s2.top.tx]))
                  replace H2 := H2.setRow (k := ((p15 + 2))) (by omega) (List.toArray ([.int .u64 (s2.top.num : Int), .int .u64 (s2.top.tick : Int), .string s2.top.tx]))
                  replace x12 := x12.setRow_other (k := (p15 + 2)) (by omega) (List.toArray ([.int .u64 (s2.top.num : Int), .int .u64 (s2.top.tick : Int), .string s2.top.tx]))
                  replace x13 := x13.setRow_other (k := (p15 + 2)) (by omega) (List.toArray ([.int .u64 (s2.top.num : Int), .int .u64 (s2.top.tick : Int), .string s2.top.tx]))
                  replace Q2 := Q2.setRow (k := ((p15 + 2))) (by omega) (List.toArray ([.int .u64 (s2.top.num : Int), .int .u64 (s2.top.tick : Int), .string s2.top.tx]))
                  replace x15 := x15.setRow_other (k := (p15 + 2)) (by omega) (List.toArray ([.int .u64 (s2.top.num : Int), .int .u64 (s2.top.tick : Int), .string s2.top.tx]))
                  replace x16 := x16.setRow_other (k := (p15 + 2)) (by omega) (List.toArray ([.int .u64 (s2.top.num : Int), .int .u64 (s2.top.tick : Int), .string s2.top.tx]))
                  replace x17 := x17.setRow ([.int .u64 (s2.top.num : Int), .int .u64 (s2.top.tick : Int), .string s2.top.tx])
                  replace bb := below_row bb (show _ ≤ (p15 + 2) by omega) (List.toArray ([.int .u64 (s2.top.num : Int), .int .u64 (s2.top.tick : Int), .string s2.top.tx]))
                  generalize wa124.setRow ((p15 + 2)) (List.toArray ([.int .u64 (s2.top.num : Int), .int .u64 (s2.top.tick : Int), .string s2.top.tx])) = wa125 at *
                  refine (nums_sn s g cap _ HO1.out H0).mono ?_
                  rintro e wa126 ⟨gm2, rfl, hmm, bwa126⟩
                  replace x1 := x1.below bwa126 x1.lt
                  replace x2 := x2.below bwa126 x2.lt
                  replace H0 := H0.keep bwa126
                  replace Q0 := Q0.keep bwa126
                  replace x9 := x9.below bwa126 x9.lt
                  replace H2 := H2.keep bwa126
                  replace x12 := x12.below bwa126 x12.lt
                  replace x13 := x13.below bwa126 x13.lt
                  replace Q2 := Q2.keep bwa126
                  replace x15 := x15.below bwa126 x15.lt
                  replace x16 := x16.below bwa126 x16.lt
                  replace x17 := x17.below bwa126 x17.lt
                  replace bb := bb.trans (bwa126.mono bb.size)
                  clear bwa126
                  clear hmm edu
                  have hs1 : (⟨#[62]⟩ : ByteArray).size = 1 := rfl
                  have hs3 : (s2.base.tx ++ ⟨#[62]⟩ : ByteArray).size = s2.base.tx.size + 1 := by rw [ByteArray.size_append]; rfl
                  have cx160 : wa126.cell? ⟨(p15 + 1), 0, none⟩ = some (.int .u64 (s2.base.num : Int)) := x16.cell 0
                  have cx162 : wa126.cell? ⟨(p15 + 1), 2, none⟩ = some (.string s2.base.tx) := x16.cell 2
                  have cx170 : wa126.cell? ⟨(p15 + 2), 0, none⟩ = some (.int .u64 (s2.top.num : Int)) := x17.cell 0
                  have cx172 : wa126.cell? ⟨(p15 + 2), 2, none⟩ = some (.string s2.top.tx) := x17.cell 2
                  have cx92 : wa126.cell? ⟨p9, 2, none⟩ = some (.int .u64 (nn : Int)) := x9.cell 2
                  have hX := HX.out
                  subst hX
                  have tok127 : True := True.intro
                  go_wp2_with (first | (clear tok127; (refine at_dst (some 115) (by with_reducible rfl) ?_; refine wpList_rowT (by rfl) 24 (.tmp 13) rfl ((p12 + 1)) rfl _ _ _ (x13) Try.underlying24 rfl infoIn ?_)))
                  clear cx160 cx162
                  clear cx170 cx172
                  clear cx92
                  clear x13 x16 x17 x9 H0 Q0
                  have n1b := st_ne H2.st HO2.out.pos x1 (sn_no _ _ _)
                  have n2b := st_ne H2.st HO2.out.pos x2 (rc_no _ _ _ (fun a => by simp) (fun a => by simp))
                  have n3b := st_ne Q2.st HO2.out.pos x1 (sn_no _ _ _)
                  have n4b := st_ne Q2.st HO2.out.pos x2 (rc_no _ _ _ (fun a => by simp) (fun a => by simp))
                  refine wp_region_held_drew (S := fun w' => Row w' p12 42 ((s2.c g2 cap2)) ∧ Row w' p15 47 [.slice (some ⟨gq2, oq2, none⟩) s2.L.length cq2, .string s2.now, .int .u64 (s2.last : Int)] ∧ Below w.heap.size w w') (by kernel_rfl) (⟨x12.drew, x15.drew, bb.drew⟩) (fun hHeld => ?_)
                  replace x1 := x1.drew
                  replace x2 := x2.drew
                  replace H2 := H2.drew
                  replace Q2 := Q2.drew
                  generalize wa126.drew = wd128 at *
                  refine take_d 0 (some 142) (.agg ((s2.c g2 cap2)).toArray) rfl (by kernel_rfl) (by kernel_rfl) (by kernel_rfl) (fun _ _ _ h => h) (fun oi h => by cases h; exact yieldsIf_load_mid (by rfl) 42 (.tmp 12) rfl p12 0 rfl ((s2.c g2 cap2)) _ (fun w' hS' => hS'.1.range) Try.underlying42 rfl infoSn) hHeld ?_
                  try simp only [Act.put, List.setIfInBounds_toArray, List.set_cons_zero, List.set_cons_succ]
                  refine take_d 1 (some 143) (.agg #[.slice (some ⟨gq2, oq2, none⟩) s2.L.length cq2, .string s2.now, .int .u64 (s2.last : Int)]) rfl (by kernel_rfl) (by kernel_rfl) (by kernel_rfl) (fun _ _ _ h => h) (fun oi h => by cases h; exact yieldsIf_load_mid (by rfl) 47 (.tmp 15) rfl p15 0 rfl ([.slice (some ⟨gq2, oq2, none⟩) s2.L.length cq2, .string s2.now, .int .u64 (s2.last : Int)]) _ (fun w' hS' => hS'.2.1.range) Try.underlying47 rfl infoRSn) hHeld ?_
                  try simp only [Act.put, List.setIfInBounds_toArray, List.set_cons_zero, List.set_cons_succ]
                  refine one_d 2 none rfl (by kernel_rfl) ?_
                  intro o ho1 hd K hK
                  cases ho1
                  refine step_store_row rfl 42 (.tmp 5) (.tmp 142) rfl (p1) ((s2.c g2 cap2)) rfl rfl _ _ x1 infoSn rfl (by first | (simp [Value.oneCell']; done) | exact S15.Sn.c_all _ _ _) ?_
                  rw [hd]
                  replace x1 := x1.setRow ((s2.c g2 cap2))
                  replace x2 := x2.setRow_other (k := p1) (by omega) (List.toArray ((s2.c g2 cap2)))
                  replace H2 := H2.setRow (k := (p1)) (by omega) (List.toArray ((s2.c g2 cap2)))
                  replace Q2 := Q2.setRow (k := (p1)) (by omega) (List.toArray ((s2.c g2 cap2)))
                  have hH : Row (wd128.setRow p1 (List.toArray ((s2.c g2 cap2)))) p12 42 ((s2.c g2 cap2)) ∧ Row (wd128.setRow p1 (List.toArray ((s2.c g2 cap2)))) p15 47 [.slice (some ⟨gq2, oq2, none⟩) s2.L.length cq2, .string s2.now, .int .u64 (s2.last : Int)] ∧ Below w.heap.size w (wd128.setRow p1 (List.toArray ((s2.c g2 cap2)))) := ⟨hHeld.1.setRow_other (k := p1) (by omega) (List.toArray ((s2.c g2 cap2))), hHeld.2.1.setRow_other (k := p1) (by omega) (List.toArray ((s2.c g2 cap2))), below_row hHeld.2.2 (show _ ≤ p1 by omega) (List.toArray ((s2.c g2 cap2)))⟩
                  clear hHeld
                  generalize wd128.setRow p1 (List.toArray ((s2.c g2 cap2))) = v129 at *
                  refine hK.out _ _ hH (fun hHeld => ?_)
                  clear hH
                  clear hK K hd
                  try simp only [Act.put]
                  refine one_d 3 none rfl (by kernel_rfl) ?_
                  intro o ho1 hd K hK
                  cases ho1
                  refine step_store_row rfl 47 (.tmp 6) (.tmp 143) rfl (p2) ([.slice (some ⟨gq2, oq2, none⟩) s2.L.length cq2, .string s2.now, .int .u64 (s2.last : Int)]) rfl rfl _ _ x2 infoRSn rfl (by first | (simp [Value.oneCell']; done) | exact S15.Sn.c_all _ _ _) ?_
                  rw [hd]
                  replace x1 := x1.setRow_other (k := p2) (by omega) (List.toArray ([.slice (some ⟨gq2, oq2, none⟩) s2.L.length cq2, .string s2.now, .int .u64 (s2.last : Int)]))
                  replace x2 := x2.setRow ([.slice (some ⟨gq2, oq2, none⟩) s2.L.length cq2, .string s2.now, .int .u64 (s2.last : Int)])
                  replace H2 := H2.setRow (k := (p2)) (by omega) (List.toArray ([.slice (some ⟨gq2, oq2, none⟩) s2.L.length cq2, .string s2.now, .int .u64 (s2.last : Int)]))
                  replace Q2 := Q2.setRow (k := (p2)) (by omega) (List.toArray ([.slice (some ⟨gq2, oq2, none⟩) s2.L.length cq2, .string s2.now, .int .u64 (s2.last : Int)]))
                  have hH : Row (v129.setRow p2 (List.toArray ([.slice (some ⟨gq2, oq2, none⟩) s2.L.length cq2, .string s2.now, .int .u64 (s2.last : Int)]))) p12 42 ((s2.c g2 cap2)) ∧ Row (v129.setRow p2 (List.toArray ([.slice (some ⟨gq2, oq2, none⟩) s2.L.length cq2, .string s2.now, .int .u64 (s2.last : Int)]))) p15 47 [.slice (some ⟨gq2, oq2, none⟩) s2.L.length cq2, .string s2.now, .int .u64 (s2.last : Int)] ∧ Below w.heap.size w (v129.setRow p2 (List.toArray ([.slice (some ⟨gq2, oq2, none⟩) s2.L.length cq2, .string s2.now, .int .u64 (s2.last : Int)]))) := ⟨hHeld.1.setRow_other (k := p2) (by omega) (List.toArray ([.slice (some ⟨gq2, oq2, none⟩) s2.L.length cq2, .string s2.now, .int .u64 (s2.last : Int)])), hHeld.2.1.setRow_other (k := p2) (by omega) (List.toArray ([.slice (some ⟨gq2, oq2, none⟩) s2.L.length cq2, .string s2.now, .int .u64 (s2.last : Int)])), below_row hHeld.2.2 (show _ ≤ p2 by omega) (List.toArray ([.slice (some ⟨gq2, oq2, none⟩) s2.L.length cq2, .string s2.now, .int .u64 (s2.last : Int)]))⟩
                  clear hHeld
                  generalize v129.setRow p2 (List.toArray ([.slice (some ⟨gq2, oq2, none⟩) s2.L.length cq2, .string s2.now, .int .u64 (s2.last : Int)])) = v130 at *
                  refine hK.out _ _ hH (fun hHeld => ?_)
                  clear hH
                  clear hK K hd
                  try simp only [Act.put]
                  refine wpAnyH_done (by kernel_rfl) ?_ _
                  try simp only [Act.put]
                  replace x12 := hHeld.1
                  replace x15 := hHeld.2.1
                  replace bb := hHeld.2.2
                  clear hHeld
                  go_wp2
                  go_meet
                  exact ⟨g2, cap2, gq2, oq2, cq2, s2, HO2, x1, x2, H2, Q2, bb⟩
              · have hgo : s.goes tk2 wa be = false := by simpa using hgo
                as_aux_lemma =>
                  have e0 : ((m4 : Int) == 0) = false := by rw [beq_eq_false_iff_ne]; omega
                  have e1 : ((m4 : Int) == 1) = false := by rw [beq_eq_false_iff_ne]; omega
                  clear h4
                  obtain ⟨du, hdu⟩ : ∃ x, x = s.due wa be := ⟨_, rfl⟩
                  have HDU : Hid (s.due wa be = du) := hdu.symm
                  have HGD := Lib.hid (goes_due s tk2 wa be)
                  clear hdu
                  have HGO := Lib.hid hgo
                  clear hgo
                  obtain ⟨s2, hs2⟩ : ∃ x, x = s.next tk2 wa be := ⟨_, rfl⟩
                  have HO2 : Hid (Ok 100 (i + 1) tk2 s2) := by show Ok 100 (i + 1) tk2 s2; rw [hs2]; exact HO1.out.next wa be (Nat.le_refl _)
                  have HS2 : Hid (s.next tk2 wa be = s2) := hs2.symm
                  clear hs2
                  have cx94 : wa102.cell? ⟨p9, 4, none⟩ = some (.int .u64 (wa : Int)) := x9.cell 4
                  have cx95 : wa102.cell? ⟨p9, 5, none⟩ = some (.int .u64 (be : Int)) := x9.cell 5
                  have tok103 : True := True.intro
                  go_wp2_with (first | (refine at_op (.load 47 (.tmp 6)) (by with_reducible rfl) ?_; clear tok103; refine wpList_load_row rfl 47 (.tmp 6) rfl (p2) rfl _ _ _ _ x2 Try.underlying47 rfl infoRSn ?_))
                  clear cx94 cx95
                  have CD := rdue_sn s gq oq cq wa be wa102 HO1.out hu2 (by omega) (by omega) Q0
                  rw [HDU.out] at CD
                  refine (CD).mono ?_
                  rintro e wa104 ⟨rfl, bwa104⟩
                  replace x1 := x1.below bwa104 x1.lt
                  replace x2 := x2.below bwa104 x2.lt
                  replace H0 := H0.keep bwa104
                  replace Q0 := Q0.keep bwa104
                  replace x9 := x9.below bwa104 x9.lt
                  replace bb := bb.trans (bwa104.mono bb.size)
                  clear bwa104
                  clear CD
                  have cx94 : wa104.cell? ⟨p9, 4, none⟩ = some (.int .u64 (wa : Int)) := x9.cell 4
                  have cx95 : wa104.cell? ⟨p9, 5, none⟩ = some (.int .u64 (be : Int)) := x9.cell 5
                  have tok105 : True := True.intro
                  go_wp2_with (first | (refine at_op (.load 42 (.tmp 5)) (by with_reducible rfl) ?_; clear tok105; refine wpList_load_row rfl 42 (.tmp 5) rfl (p1) rfl _ _ _ _ x1 Try.underlying42 rfl infoSn ?_))
                  clear cx94 cx95
                  have CD := due_sn s g cap wa be wa104 HO1.out hu2 (by omega) (by omega) H0
                  rw [HDU.out] at CD
                  refine (CD).mono ?_
                  rintro e wa106 ⟨rfl, bwa106⟩
                  replace x1 := x1.below bwa106 x1.lt
                  replace x2 := x2.below bwa106 x2.lt
                  replace H0 := H0.keep bwa106
                  replace Q0 := Q0.keep bwa106
                  replace x9 := x9.below bwa106 x9.lt
                  replace bb := bb.trans (bwa106.mono bb.size)
                  clear bwa106
                  clear CD
                  have tok107 : True := True.intro
                  go_wp2_with (first | (refine at_op (.load 42 (.tmp 5)) (by with_reducible rfl) ?_; clear tok107; refine wpList_load_row rfl 42 (.tmp 5) rfl (p1) rfl _ _ _ _ x1 Try.underlying42 rfl infoSn ?_))
                  refine (nums_sn s g cap _ HO1.out H0).mono ?_
                  rintro e wa108 ⟨gm, rfl, hmm, bwa108⟩
                  replace x1 := x1.below bwa108 x1.lt
                  replace x2 := x2.below bwa108 x2.lt
                  replace H0 := H0.keep bwa108
                  replace Q0 := Q0.keep bwa108
                  replace x9 := x9.below bwa108 x9.lt
                  replace bb := bb.trans (bwa108.mono bb.size)
                  clear bwa108
                  clear hmm
                  have cx92 : wa108.cell? ⟨p9, 2, none⟩ = some (.int .u64 (nn : Int)) := x9.cell 2
                  have cx94 : wa108.cell? ⟨p9, 4, none⟩ = some (.int .u64 (wa : Int)) := x9.cell 4
                  have cx95 : wa108.cell? ⟨p9, 5, none⟩ = some (.int .u64 (be : Int)) := x9.cell 5
                  have tok109 : True := True.intro
                  go_wp2_with (first | (refine at_op (.load 42 (.tmp 5)) (by with_reducible rfl) ?_; clear tok109; refine wpList_load_row rfl 42 (.tmp 5) rfl (p1) rfl _ _ _ _ x1 Try.underlying42 rfl infoSn ?_))
                  clear cx92 cx94 cx95
                  have CX := next_sn s g cap tk2 wa be nn wa108 HO1.out (by decide) (by omega) hu2 (by omega) (by omega) H0
                  rw [show s.io tk2 wa be = 0 by unfold Sn.io; rw [HGO.out]; rfl, show s.iN tk2 wa be = 0 by unfold Sn.iN; rw [HGO.out]; rfl, show s.ia tk2 wa be nn = 0 by unfold Sn.ia; rw [HGO.out]; rfl, show s.id tk2 wa be = ⟨#[]⟩ by unfold Sn.id; rw [HGO.out]; rfl, HGO.out, HS2.out] at CX
                  simp only [show ((0 : Nat) : Int) = 0 from rfl] at CX
                  have HF : Hid (s.fr tk2 wa be = zero) := by show _ = _; unfold Sn.fr; rw [HGO.out]; rfl
                  have HTt : Hid (s.to tk2 wa be = zero) := by show _ = _; unfold Sn.to; rw [HGO.out]; rfl
                  have edu : ¬ (du : Int) ≤ (tk2 : Int) := by have h := HGD.out; rw [HGO.out, HDU.out] at h; have := of_decide_eq_false h.symm; omega
                  have ed : decide (du ≤ tk2) = false := decide_eq_false (by omega)
                  clear HGD HDU
                  refine (CX).mono ?_
                  rintro e wa110 ⟨g2, cap2, rfl, H2, bwa110⟩
                  replace x1 := x1.below bwa110 x1.lt
                  replace x2 := x2.below bwa110 x2.lt
                  replace H0 := H0.keep bwa110
                  replace Q0 := Q0.keep bwa110
                  replace x9 := x9.below bwa110 x9.lt
                  replace bb := bb.trans (bwa110.mono bb.size)
                  clear bwa110
                  clear CX
                  have x12 : Row ((wa110.alloc (.cells #[.nilFunc, .nilFunc, .string ⟨#[]⟩, .slice none 0 0, .int .u64 0] 42 (0, 0))).alloc (.cells #[.int .u64 0, .int .u64 0, .int .u64 0, .int .u64 0, .string ⟨#[]⟩] 24 (0, 0))) wa110.heap.size 42 ([.nilFunc, .nilFunc, .string ⟨#[]⟩, .slice none 0 0, .int .u64 0]) := (Row.new' rfl rfl).alloc _
                  have x13 : Row ((wa110.alloc (.cells #[.nilFunc, .nilFunc, .string ⟨#[]⟩, .slice none 0 0, .int .u64 0] 42 (0, 0))).alloc (.cells #[.int .u64 0, .int .u64 0, .int .u64 0, .int .u64 0, .string ⟨#[]⟩] 24 (0, 0))) (wa110.heap.size + 1) 24 ([.int .u64 0, .int .u64 0, .int .u64 0, .int .u64 0, .string ⟨#[]⟩]) := Row.new' rfl (by simp)
                  have lx1x12 : p1 < wa110.heap.size := x1.lt
                  have lx2x12 : p2 < wa110.heap.size := x2.lt
                  have lH0x12 : g < wa110.heap.size := H0.lt
                  have lQ0x12 : gq < wa110.heap.size := Q0.lt
                  have lx9x12 : p9 < wa110.heap.size := x9.lt
                  have lH2x12 : g2 < wa110.heap.size := H2.lt
                  have lzx12 := bb.size
                  replace x1 := ((x1).alloc (.cells #[.nilFunc, .nilFunc, .string ⟨#[]⟩, .slice none 0 0, .int .u64 0] 42 (0, 0))).alloc (.cells #[.int .u64 0, .int .u64 0, .int .u64 0, .int .u64 0, .string ⟨#[]⟩] 24 (0, 0))
                  replace x2 := ((x2).alloc (.cells #[.nilFunc, .nilFunc, .string ⟨#[]⟩, .slice none 0 0, .int .u64 0] 42 (0, 0))).alloc (.cells #[.int .u64 0, .int .u64 0, .int .u64 0, .int .u64 0, .string ⟨#[]⟩] 24 (0, 0))
                  replace H0 := ((H0).alloc (.cells #[.nilFunc, .nilFunc, .string ⟨#[]⟩, .slice none 0 0, .int .u64 0] 42 (0, 0))).alloc (.cells #[.int .u64 0, .int .u64 0, .int .u64 0, .int .u64 0, .string ⟨#[]⟩] 24 (0, 0))
                  replace Q0 := ((Q0).alloc (.cells #[.nilFunc, .nilFunc, .string ⟨#[]⟩, .slice none 0 0, .int .u64 0] 42 (0, 0))).alloc (.cells #[.int .u64 0, .int .u64 0, .int .u64 0, .int .u64 0, .string ⟨#[]⟩] 24 (0, 0))
                  replace x9 := ((x9).alloc (.cells #[.nilFunc, .nilFunc, .string ⟨#[]⟩, .slice none 0 0, .int .u64 0] 42 (0, 0))).alloc (.cells #[.int .u64 0, .int .u64 0, .int .u64 0, .int .u64 0, .string ⟨#[]⟩] 24 (0, 0))
                  replace H2 := ((H2).alloc (.cells #[.nilFunc, .nilFunc, .string ⟨#[]⟩, .slice none 0 0, .int .u64 0] 42 (0, 0))).alloc (.cells #[.int .u64 0, .int .u64 0, .int .u64 0, .int .u64 0, .string ⟨#[]⟩] 24 (0, 0))
                  replace bb := ((bb).alloc bb.size (.cells #[.nilFunc, .nilFunc, .string ⟨#[]⟩, .slice none 0 0, .int .u64 0] 42 (0, 0))).alloc (by simp; omega) (.cells #[.int .u64 0, .int .u64 0, .int .u64 0, .int .u64 0, .string ⟨#[]⟩] 24 (0, 0))
                  have c94 : _ = some (.int .u64 (wa : Int) : Value) := (((x9).setRow_other (k := wa110.heap.size) (by omega) (List.toArray ((s2.c g2 cap2)))).setRow_other (k := (wa110.heap.size + 1)) (by omega) (List.toArray ([.int .u64 0, .int .u64 0, .int .u64 0, .int .u64 0, .string ⟨#[]⟩]))).cell 4
                  have c95 : _ = some (.int .u64 (be : Int) : Value) := (((x9).setRow_other (k := wa110.heap.size) (by omega) (List.toArray ((s2.c g2 cap2)))).setRow_other (k := (wa110.heap.size + 1)) (by omega) (List.toArray ([.int .u64 0, .int .u64 0, .int .u64 0, .int .u64 0, .string ⟨#[]⟩]))).cell 5
                  have tok111 : True := True.intro
                  have tok112 : True := True.intro
                  have tok113 : True := True.intro
                  go_wp2_with (first | (refine at_op (.store 42 (.tmp 12) (.tmp 80)) (by with_reducible rfl) ?_; clear tok111; refine wpList_store_row rfl 42 (.tmp 12) (.tmp 80) rfl (wa110.heap.size) _ rfl rfl _ _ x12 infoSn rfl (by first | (simp [Value.oneCell']; done) | exact S15.Sn.c_all _ _ _) ?_) | (refine at_op (.store 24 (.tmp 13) (.tmp 81)) (by with_reducible rfl) ?_; clear tok112; refine wpList_store_row rfl 24 (.tmp 13) (.tmp 81) rfl ((wa110.heap.size + 1)) _ rfl rfl _ _ ((x13).setRow_other (k := wa110.heap.size) (by omega) (List.toArray ((s2.c g2 cap2)))) infoIn rfl (by first | (simp [Value.oneCell']; done) | exact S15.Sn.c_all _ _ _) ?_) | (refine at_op (.load 47 (.tmp 6)) (by with_reducible rfl) ?_; clear tok113; refine wpList_load_row rfl 47 (.tmp 6) rfl (p2) rfl _ _ _ _ (((x2).setRow_other (k := wa110.heap.size) (by omega) (List.toArray ((s2.c g2 cap2)))).setRow_other (k := (wa110.heap.size + 1)) (by omega) (List.toArray ([.int .u64 0, .int .u64 0, .int .u64 0, .int .u64 0, .string ⟨#[]⟩]))) Try.underlying47 rfl infoRSn ?_))
                  clear c94 c95
                  obtain ⟨p12, hp12⟩ : ∃ p12, p12 = wa110.heap.size := ⟨_, rfl⟩
                  rw [← hp12] at x12 x13 lx1x12 lx2x12 lH0x12 lQ0x12 lx9x12 lH2x12 lzx12 ⊢
                  generalize (wa110.alloc (.cells #[.nilFunc, .nilFunc, .string ⟨#[]⟩, .slice none 0 0, .int .u64 0] 42 (0, 0))).alloc (.cells #[.int .u64 0, .int .u64 0, .int .u64 0, .int .u64 0, .string ⟨#[]⟩] 24 (0, 0)) = wa114 at *
                  clear hp12
                  replace x1 := x1.setRow_other (k := p12) (by omega) (List.toArray ((s2.c g2 cap2)))
                  replace x2 := x2.setRow_other (k := p12) (by omega) (List.toArray ((s2.c g2 cap2)))
                  replace H0 := H0.setRow (k := (p12)) (by omega) (List.toArray ((s2.c g2 cap2)))
                  replace Q0 := Q0.setRow (k := (p12)) (by omega) (List.toArray ((s2.c g2 cap2)))
                  replace x9 := x9.setRow_other (k := p12) (by omega) (List.toArray ((s2.c g2 cap2)))
                  replace H2 := H2.setRow (k := (p12)) (by omega) (List.toArray ((s2.c g2 cap2)))
                  replace x12 := x12.setRow ((s2.c g2 cap2))
                  replace x13 := x13.setRow_other (k := p12) (by omega) (List.toArray ((s2.c g2 cap2)))
                  replace bb := below_row bb (show _ ≤ p12 by omega) (List.toArray ((s2.c g2 cap2)))
                  generalize wa114.setRow p12 (List.toArray ((s2.c g2 cap2))) = wa115 at *
                  replace x1 := x1.setRow_other (k := (p12 + 1)) (by omega) (List.toArray ([.int .u64 0, .int .u64 0, .int .u64 0, .int .u64 0, .string ⟨#[]⟩]))
                  replace x2 := x2.setRow_other (k := (p12 + 1)) (by omega) (List.toArray ([.int .u64 0, .int .u64 0, .int .u64 0, .int .u64 0, .string ⟨#[]⟩]))
                  replace H0 := H0.setRow (k := ((p12 + 1))) (by omega) (List.toArray ([.int .u64 0, .int .u64 0, .int .u64 0, .int .u64 0, .string ⟨#[]⟩]))
                  replace Q0 := Q0.setRow (k := ((p12 + 1))) (by omega) (List.toArray ([.int .u64 0, .int .u64 0, .int .u64 0, .int .u64 0, .string ⟨#[]⟩]))
                  replace x9 := x9.setRow_other (k := (p12 + 1)) (by omega) (List.toArray ([.int .u64 0, .int .u64 0, .int .u64 0, .int .u64 0, .string ⟨#[]⟩]))
                  replace H2 := H2.setRow (k := ((p12 + 1))) (by omega) (List.toArray ([.int .u64 0, .int .u64 0, .int .u64 0, .int .u64 0, .string ⟨#[]⟩]))
                  replace x12 := x12.setRow_other (k := (p12 + 1)) (by omega) (List.toArray ([.int .u64 0, .int .u64 0, .int .u64 0, .int .u64 0, .string ⟨#[]⟩]))
                  replace x13 := x13.setRow ([.int .u64 0, .int .u64 0, .int .u64 0, .int .u64 0, .string ⟨#[]⟩])
                  replace bb := below_row bb (show _ ≤ (p12 + 1) by omega) (List.toArray ([.int .u64 0, .int .u64 0, .int .u64 0, .int .u64 0, .string ⟨#[]⟩]))
                  generalize wa115.setRow ((p12 + 1)) (List.toArray ([.int .u64 0, .int .u64 0, .int .u64 0, .int .u64 0, .string ⟨#[]⟩])) = wa116 at *
                  have CXR := rnext_sn s gq oq cq tk2 wa be wa116 HO1.out (by omega) hu2 (by omega) (by omega) Q0
                  rw [HF.out, HTt.out, HGO.out, HS2.out] at CXR
                  simp only [show ((zero.num : Nat) : Int) = 0 from rfl, show ((zero.tick : Nat) : Int) = 0 from rfl, show zero.tx = ⟨#[]⟩ from rfl] at CXR
                  clear HF HTt HS2 HGO
                  refine (CXR).mono ?_
                  rintro e wa117 ⟨gq2, oq2, cq2, rfl, Q2, bwa117⟩
                  replace x1 := x1.below bwa117 x1.lt
                  replace x2 := x2.below bwa117 x2.lt
                  replace H0 := H0.keep bwa117
                  replace Q0 := Q0.keep bwa117
                  replace x9 := x9.below bwa117 x9.lt
                  replace H2 := H2.keep bwa117
                  replace x12 := x12.below bwa117 x12.lt
                  replace x13 := x13.below bwa117 x13.lt
                  replace bb := bb.trans (bwa117.mono bb.size)
                  clear bwa117
                  clear CXR
                  have x15 : Row (((wa117.alloc (.cells #[.slice none 0 0, .string ⟨#[]⟩, .int .u64 0] 47 (0, 0))).alloc (.cells #[.int .u64 0, .int .u64 0, .string ⟨#[]⟩] 61 (0, 0))).alloc (.cells #[.int .u64 0, .int .u64 0, .string ⟨#[]⟩] 61 (0, 0))) wa117.heap.size 47 ([.slice none 0 0, .string ⟨#[]⟩, .int .u64 0]) := ((Row.new' rfl rfl).alloc _).alloc _
                  have x16 : Row (((wa117.alloc (.cells #[.slice none 0 0, .string ⟨#[]⟩, .int .u64 0] 47 (0, 0))).alloc (.cells #[.int .u64 0, .int .u64 0, .string ⟨#[]⟩] 61 (0, 0))).alloc (.cells #[.int .u64 0, .int .u64 0, .string ⟨#[]⟩] 61 (0, 0))) (wa117.heap.size + 1) 61 ([.int .u64 0, .int .u64 0, .string ⟨#[]⟩]) := (Row.new' rfl (by simp)).alloc _
                  have x17 : Row (((wa117.alloc (.cells #[.slice none 0 0, .string ⟨#[]⟩, .int .u64 0] 47 (0, 0))).alloc (.cells #[.int .u64 0, .int .u64 0, .string ⟨#[]⟩] 61 (0, 0))).alloc (.cells #[.int .u64 0, .int .u64 0, .string ⟨#[]⟩] 61 (0, 0))) (wa117.heap.size + 2) 61 ([.int .u64 0, .int .u64 0, .string ⟨#[]⟩]) := Row.new' rfl (by simp)
                  have lx1x15 : p1 < wa117.heap.size := x1.lt
                  have lx2x15 : p2 < wa117.heap.size := x2.lt
                  have lH0x15 : g < wa117.heap.size := H0.lt
                  have lQ0x15 : gq < wa117.heap.size := Q0.lt
                  have lx9x15 : p9 < wa117.heap.size := x9.lt
                  have lH2x15 : g2 < wa117.heap.size := H2.lt
                  have lx12x15 : p12 < wa117.heap.size := x12.lt
                  have lx13x15 : (p12 + 1) < wa117.heap.size := x13.lt
                  have lQ2x15 : gq2 < wa117.heap.size := Q2.lt
                  have lzx15 := bb.size
                  replace x1 := (((x1).alloc (.cells #[.slice none 0 0, .string ⟨#[]⟩, .int .u64 0] 47 (0, 0))).alloc (.cells #[.int .u64 0, .int .u64 0, .string ⟨#[]⟩] 61 (0, 0))).alloc (.cells #[.int .u64 0, .int .u64 0, .string ⟨#[]⟩] 61 (0, 0))
                  replace x2 := (((x2).alloc (.cells #[.slice none 0 0, .string ⟨#[]⟩, .int .u64 0] 47 (0, 0))).alloc (.cells #[.int .u64 0, .int .u64 0, .string ⟨#[]⟩] 61 (0, 0))).alloc (.cells #[.int .u64 0, .int .u64 0, .string ⟨#[]⟩] 61 (0, 0))
                  replace H0 := (((H0).alloc (.cells #[.slice none 0 0, .string ⟨#[]⟩, .int .u64 0] 47 (0, 0))).alloc (.cells #[.int .u64 0, .int .u64 0, .string ⟨#[]⟩] 61 (0, 0))).alloc (.cells #[.int .u64 0, .int .u64 0, .string ⟨#[]⟩] 61 (0, 0))
                  replace Q0 := (((Q0).alloc (.cells #[.slice none 0 0, .string ⟨#[]⟩, .int .u64 0] 47 (0, 0))).alloc (.cells #[.int .u64 0, .int .u64 0, .string ⟨#[]⟩] 61 (0, 0))).alloc (.cells #[.int .u64 0, .int .u64 0, .string ⟨#[]⟩] 61 (0, 0))
                  replace x9 := (((x9).alloc (.cells #[.slice none 0 0, .string ⟨#[]⟩, .int .u64 0] 47 (0, 0))).alloc (.cells #[.int .u64 0, .int .u64 0, .string ⟨#[]⟩] 61 (0, 0))).alloc (.cells #[.int .u64 0, .int .u64 0, .string ⟨#[]⟩] 61 (0, 0))
                  replace H2 := (((H2).alloc (.cells #[.slice none 0 0, .string ⟨#[]⟩, .int .u64 0] 47 (0, 0))).alloc (.cells #[.int .u64 0, .int .u64 0, .string ⟨#[]⟩] 61 (0, 0))).alloc (.cells #[.int .u64 0, .int .u64 0, .string ⟨#[]⟩] 61 (0, 0))
                  replace x12 := (((x12).alloc (.cells #[.slice none 0 0, .string ⟨#[]⟩, .int .u64 0] 47 (0, 0))).alloc (.cells #[.int .u64 0, .int .u64 0, .string ⟨#[]⟩] 61 (0, 0))).alloc (.cells #[.int .u64 0, .int .u64 0, .string ⟨#[]⟩] 61 (0, 0))
                  replace x13 := (((x13).alloc (.cells #[.slice none 0 0, .string ⟨#[]⟩, .int .u64 0] 47 (0, 0))).alloc (.cells #[.int .u64 0, .int .u64 0, .string ⟨#[]⟩] 61 (0, 0))).alloc (.cells #[.int .u64 0, .int .u64 0, .string ⟨#[]⟩] 61 (0, 0))
                  replace Q2 := (((Q2).alloc (.cells #[.slice none 0 0, .string ⟨#[]⟩, .int .u64 0] 47 (0, 0))).alloc (.cells #[.int .u64 0, .int .u64 0, .string ⟨#[]⟩] 61 (0, 0))).alloc (.cells #[.int .u64 0, .int .u64 0, .string ⟨#[]⟩] 61 (0, 0))
                  replace bb := (((bb).alloc bb.size (.cells #[.slice none 0 0, .string ⟨#[]⟩, .int .u64 0] 47 (0, 0))).alloc (by simp; omega) (.cells #[.int .u64 0, .int .u64 0, .string ⟨#[]⟩] 61 (0, 0))).alloc (by simp; omega) (.cells #[.int .u64 0, .int .u64 0, .string ⟨#[]⟩] 61 (0, 0))
                  have tok118 : True := True.intro
                  have tok119 : True := True.intro
                  have tok120 : True := True.intro
                  have tok121 : True := True.intro
                  go_wp2_with (first | (refine at_op (.store 47 (.tmp 15) (.tmp 91)) (by with_reducible rfl) ?_; clear tok118; refine wpList_store_row rfl 47 (.tmp 15) (.tmp 91) rfl (wa117.heap.size) _ rfl rfl _ _ x15 infoRSn rfl (by first | (simp [Value.oneCell']; done) | exact S15.Sn.c_all _ _ _) ?_) | (refine at_op (.store 61 (.tmp 16) (.tmp 92)) (by with_reducible rfl) ?_; clear tok119; refine wpList_store_row rfl 61 (.tmp 16) (.tmp 92) rfl ((wa117.heap.size + 1)) _ rfl rfl _ _ ((x16).setRow_other (k := wa117.heap.size) (by omega) (List.toArray ([.slice (some ⟨gq2, oq2, none⟩) s2.L.length cq2, .string s2.now, .int .u64 (s2.last : Int)]))) infoRSt rfl (by first | (simp [Value.oneCell']; done) | exact S15.Sn.c_all _ _ _) ?_) | (refine at_op (.store 61 (.tmp 17) (.tmp 93)) (by with_reducible rfl) ?_; clear tok120; refine wpList_store_row rfl 61 (.tmp 17) (.tmp 93) rfl ((wa117.heap.size + 2)) _ rfl rfl _ _ (((x17).setRow_other (k := wa117.heap.size) (by omega) (List.toArray ([.slice (some ⟨gq2, oq2, none⟩) s2.L.length cq2, .string s2.now, .int .u64 (s2.last : Int)]))).setRow_other (k := (wa117.heap.size + 1)) (by omega) (List.toArray ([.int .u64 0, .int .u64 0, .string ⟨#[]⟩]))) infoRSt rfl (by first | (simp [Value.oneCell']; done) | exact S15.Sn.c_all _ _ _) ?_) | (clear tok121; (refine at_dst (some 106) (by with_reducible rfl) ?_; refine wpList_rowT (by rfl) 42 (.tmp 5) rfl (p1) rfl _ _ _ ((((x1).setRow_other (k := wa117.heap.size) (by omega) (List.toArray ([.slice (some ⟨gq2, oq2, none⟩) s2.L.length cq2, .string s2.now, .int .u64 (s2.last : Int)]))).setRow_other (k := (wa117.heap.size + 1)) (by omega) (List.toArray ([.int .u64 0, .int .u64 0, .string ⟨#[]⟩]))).setRow_other (k := (wa117.heap.size + 2)) (by omega) (List.toArray ([.int .u64 0, .int .u64 0, .string ⟨#[]⟩]))) Try.underlying42 rfl infoSn ?_)))
                  obtain ⟨p15, hp15⟩ : ∃ p15, p15 = wa117.heap.size := ⟨_, rfl⟩
                  rw [← hp15] at x15 x16 x17 lx1x15 lx2x15 lH0x15 lQ0x15 lx9x15 lH2x15 lx12x15 lx13x15 lQ2x15 lzx15 ⊢
                  generalize ((wa117.alloc (.cells #[.slice none 0 0, .string ⟨#[]⟩, .int .u64 0] 47 (0, 0))).alloc (.cells #[.int .u64 0, .int .u64 0, .string ⟨#[]⟩] 61 (0, 0))).alloc (.cells #[.int .u64 0, .int .u64 0, .string ⟨#[]⟩] 61 (0, 0)) = wa122 at *
                  clear hp15
                  replace x1 := x1.setRow_other (k := p15) (by omega) (List.toArray ([.slice (some ⟨gq2, oq2, none⟩) s2.L.length cq2, .string s2.now, .int .u64 (s2.last : Int)]))
                  replace x2 := x2.setRow_other (k := p15) (by omega) (List.toArray ([.slice (some ⟨gq2, oq2, none⟩) s2.L.length cq2, .string s2.now, .int .u64 (s2.last : Int)]))
                  replace H0 := H0.setRow (k := (p15)) (by omega) (List.toArray ([.slice (some ⟨gq2, oq2, none⟩) s2.L.length cq2, .string s2.now, .int .u64 (s2.last : Int)]))
                  replace Q0 := Q0.setRow (k := (p15)) (by omega) (List.toArray ([.slice (some ⟨gq2, oq2, none⟩) s2.L.length cq2, .string s2.now, .int .u64 (s2.last : Int)]))
                  replace x9 := x9.setRow_other (k := p15) (by omega) (List.toArray ([.slice (some ⟨gq2, oq2, none⟩) s2.L.length cq2, .string s2.now, .int .u64 (s2.last : Int)]))
                  replace H2 := H2.setRow (k := (p15)) (by omega) (List.toArray ([.slice (some ⟨gq2, oq2, none⟩) s2.L.length cq2, .string s2.now, .int .u64 (s2.last : Int)]))
                  replace x12 := x12.setRow_other (k := p15) (by omega) (List.toArray ([.slice (some ⟨gq2, oq2, none⟩) s2.L.length cq2, .string s2.now, .int .u64 (s2.last : Int)]))
                  replace x13 := x13.setRow_other (k := p15) (by omega) (List.toArray ([.slice (some ⟨gq2, oq2, none⟩) s2.L.length cq2, .string s2.now, .int .u64 (s2.last : Int)]))
                  replace Q2 := Q2.setRow (k := (p15)) (by omega) (List.toArray ([.slice (some ⟨gq2, oq2, none⟩) s2.L.length cq2, .string s2.now, .int .u64 (s2.last : Int)]))
                  replace x15 := x15.setRow ([.slice (some ⟨gq2, oq2, none⟩) s2.L.length cq2, .string s2.now, .int .u64 (s2.last : Int)])
                  replace x16 := x16.setRow_other (k := p15) (by omega) (List.toArray ([.slice (some ⟨gq2, oq2, none⟩) s2.L.length cq2, .string s2.now, .int .u64 (s2.last : Int)]))
                  replace x17 := x17.setRow_other (k := p15) (by omega) (List.toArray ([.slice (some ⟨gq2, oq2, none⟩) s2.L.length cq2, .string s2.now, .int .u64 (s2.last : Int)]))
                  replace bb := below_row bb (show _ ≤ p15 by omega) (List.toArray ([.slice (some ⟨gq2, oq2, none⟩) s2.L.length cq2, .string s2.now, .int .u64 (s2.last : Int)]))
                  generalize wa122.setRow p15 (List.toArray ([.slice (some ⟨gq2, oq2, none⟩) s2.L.length cq2, .string s2.now, .int .u64 (s2.last : Int)])) = wa123 at *
                  replace x1 := x1.setRow_other (k := (p15 + 1)) (by omega) (List.toArray ([.int .u64 0, .int .u64 0, .string ⟨#[]⟩]))
                  replace x2 := x2.setRow_other (k := (p15 + 1)) (by omega) (List.toArray ([.int .u64 0, .int .u64 0, .string ⟨#[]⟩]))
                  replace H0 := H0.setRow (k := ((p15 + 1))) (by omega) (List.toArray ([.int .u64 0, .int .u64 0, .string ⟨#[]⟩]))
                  replace Q0 := Q0.setRow (k := ((p15 + 1))) (by omega) (List.toArray ([.int .u64 0, .int .u64 0, .string ⟨#[]⟩]))
                  replace x9 := x9.setRow_other (k := (p15 + 1)) (by omega) (List.toArray ([.int .u64 0, .int .u64 0, .string ⟨#[]⟩]))
                  replace H2 := H2.setRow (k := ((p15 + 1))) (by omega) (List.toArray ([.int .u64 0, .int .u64 0, .string ⟨#[]⟩]))
                  replace x12 := x12.setRow_other (k := (p15 + 1)) (by omega) (List.toArray ([.int .u64 0, .int .u64 0, .string ⟨#[]⟩]))
                  replace x13 := x13.setRow_other (k := (p15 + 1)) (by omega) (List.toArray ([.int .u64 0, .int .u64 0, .string ⟨#[]⟩]))
                  replace Q2 := Q2.setRow (k := ((p15 + 1))) (by omega) (List.toArray ([.int .u64 0, .int .u64 0, .string ⟨#[]⟩]))
                  replace x15 := x15.setRow_other (k := (p15 + 1)) (by omega) (List.toArray ([.int .u64 0, .int .u64 0, .string ⟨#[]⟩]))
                  replace x16 := x16.setRow ([.int .u64 0, .int .u64 0, .string ⟨#[]⟩])
                  replace x17 := x17.setRow_other (k := (p15 + 1)) (by omega) (List.toArray ([.int .u64 0, .int .u64 0, .string ⟨#[]⟩]))
                  replace bb := below_row bb (show _ ≤ (p15 + 1) by omega) (List.toArray ([.int .u64 0, .int .u64 0, .string ⟨#[]⟩]))
                  generalize wa123.setRow ((p15 + 1)) (List.toArray ([.int .u64 0, .int .u64 0, .string ⟨#[]⟩])) = wa124 at *
                  replace x1 := x1.setRow_other (k := (p15 + 2)) (by omega) (List.toArray ([.int .u64 0, .int .u64 0, .string ⟨#[]⟩]))
                  replace x2 := x2.setRow_other (k := (p15 + 2)) (by omega) (List.toArray ([.int .u64 0, .int .u64 0, .string ⟨#[]⟩]))
                  replace H0 := H0.setRow (k := ((p15 + 2))) (by omega) (List.toArray ([.int .u64 0, .int .u64 0, .string ⟨#[]⟩]))
                  replace Q0 := Q0.setRow (k := ((p15 + 2))) (by omega) (List.toArray ([.int .u64 0, .int .u64 0, .string ⟨#[]⟩]))
                  replace x9 := x9.setRow_other (k := (p15 + 2)) (by omega) (List.toArray ([.int .u64 0, .int .u64 0, .string ⟨#[]⟩]))
                  replace H2 := H2.setRow (k := ((p15 + 2))) (by omega) (List.toArray ([.int .u64 0, .int .u64 0, .string ⟨#[]⟩]))
                  replace x12 := x12.setRow_other (k := (p15 + 2)) (by omega) (List.toArray ([.int .u64 0, .int .u64 0, .string ⟨#[]⟩]))
                  replace x13 := x13.setRow_other (k := (p15 + 2)) (by omega) (List.toArray ([.int .u64 0, .int .u64 0, .string ⟨#[]⟩]))
                  replace Q2 := Q2.setRow (k := ((p15 + 2))) (by omega) (List.toArray ([.int .u64 0, .int .u64 0, .string ⟨#[]⟩]))
                  replace x15 := x15.setRow_other (k := (p15 + 2)) (by omega) (List.toArray ([.int .u64 0, .int .u64 0, .string ⟨#[]⟩]))
                  replace x16 := x16.setRow_other (k := (p15 + 2)) (by omega) (List.toArray ([.int .u64 0, .int .u64 0, .string ⟨#[]⟩]))
                  replace x17 := x17.setRow ([.int .u64 0, .int .u64 0, .string ⟨#[]⟩])
                  replace bb := below_row bb (show _ ≤ (p15 + 2) by omega) (List.toArray ([.int .u64 0, .int .u64 0, .string ⟨#[]⟩]))
                  generalize wa124.setRow ((p15 + 2)) (List.toArray ([.int .u64 0, .int .u64 0, .string ⟨#[]⟩])) = wa125 at *
                  refine (nums_sn s g cap _ HO1.out H0).mono ?_
                  rintro e wa126 ⟨gm2, rfl, hmm, bwa126⟩
                  replace x1 := x1.below bwa126 x1.lt
                  replace x2 := x2.below bwa126 x2.lt
                  replace H0 := H0.keep bwa126
                  replace Q0 := Q0.keep bwa126
                  replace x9 := x9.below bwa126 x9.lt
                  replace H2 := H2.keep bwa126
                  replace x12 := x12.below bwa126 x12.lt
                  replace x13 := x13.below bwa126 x13.lt
                  replace Q2 := Q2.keep bwa126
                  replace x15 := x15.below bwa126 x15.lt
                  replace x16 := x16.below bwa126 x16.lt
                  replace x17 := x17.below bwa126 x17.lt
                  replace bb := bb.trans (bwa126.mono bb.size)
                  clear bwa126
                  clear hmm edu ed
                  have cx130 : wa126.cell? ⟨(p12 + 1), 0, none⟩ = some (.int .u64 0) := x13.cell 0
                  have cx131 : wa126.cell? ⟨(p12 + 1), 1, none⟩ = some (.int .u64 0) := x13.cell 1
                  have cx132 : wa126.cell? ⟨(p12 + 1), 2, none⟩ = some (.int .u64 0) := x13.cell 2
                  have cx133 : wa126.cell? ⟨(p12 + 1), 3, none⟩ = some (.int .u64 0) := x13.cell 3
                  have cx134 : wa126.cell? ⟨(p12 + 1), 4, none⟩ = some (.string ⟨#[]⟩) := x13.cell 4
                  go_wp2
                  clear cx130 cx131 cx132 cx133 cx134
                  clear x13 x16 x17 x9 H0 Q0
                  have n1b := st_ne H2.st HO2.out.pos x1 (sn_no _ _ _)
                  have n2b := st_ne H2.st HO2.out.pos x2 (rc_no _ _ _ (fun a => by simp) (fun a => by simp))
                  have n3b := st_ne Q2.st HO2.out.pos x1 (sn_no _ _ _)
                  have n4b := st_ne Q2.st HO2.out.pos x2 (rc_no _ _ _ (fun a => by simp) (fun a => by simp))
                  refine wp_region_held_drew (S := fun w' => Row w' p12 42 ((s2.c g2 cap2)) ∧ Row w' p15 47 [.slice (some ⟨gq2, oq2, none⟩) s2.L.length cq2, .string s2.now, .int .u64 (s2.last : Int)] ∧ Below w.heap.size w w') (by kernel_rfl) (⟨x12.drew, x15.drew, bb.drew⟩) (fun hHeld => ?_)
                  replace x1 := x1.drew
                  replace x2 := x2.drew
                  replace H2 := H2.drew
                  replace Q2 := Q2.drew
                  generalize wa126.drew = wd127 at *
                  refine take_d 0 (some 142) (.agg ((s2.c g2 cap2)).toArray) rfl (by kernel_rfl) (by kernel_rfl) (by kernel_rfl) (fun _ _ _ h => h) (fun oi h => by cases h; exact yieldsIf_load_mid (by rfl) 42 (.tmp 12) rfl p12 0 rfl ((s2.c g2 cap2)) _ (fun w' hS' => hS'.1.range) Try.underlying42 rfl infoSn) hHeld ?_
                  try simp only [Act.put, List.setIfInBounds_toArray, List.set_cons_zero, List.set_cons_succ]
                  refine take_d 1 (some 143) (.agg #[.slice (some ⟨gq2, oq2, none⟩) s2.L.length cq2, .string s2.now, .int .u64 (s2.last : Int)]) rfl (by kernel_rfl) (by kernel_rfl) (by kernel_rfl) (fun _ _ _ h => h) (fun oi h => by cases h; exact yieldsIf_load_mid (by rfl) 47 (.tmp 15) rfl p15 0 rfl ([.slice (some ⟨gq2, oq2, none⟩) s2.L.length cq2, .string s2.now, .int .u64 (s2.last : Int)]) _ (fun w' hS' => hS'.2.1.range) Try.underlying47 rfl infoRSn) hHeld ?_
                  try simp only [Act.put, List.setIfInBounds_toArray, List.set_cons_zero, List.set_cons_succ]
                  refine one_d 2 none rfl (by kernel_rfl) ?_
                  intro o ho1 hd K hK
                  cases ho1
                  refine step_store_row rfl 42 (.tmp 5) (.tmp 142) rfl (p1) ((s2.c g2 cap2)) rfl rfl _ _ x1 infoSn rfl (by first | (simp [Value.oneCell']; done) | exact S15.Sn.c_all _ _ _) ?_
                  rw [hd]
                  replace x1 := x1.setRow ((s2.c g2 cap2))
                  replace x2 := x2.setRow_other (k := p1) (by omega) (List.toArray ((s2.c g2 cap2)))
                  replace H2 := H2.setRow (k := (p1)) (by omega) (List.toArray ((s2.c g2 cap2)))
                  replace Q2 := Q2.setRow (k := (p1)) (by omega) (List.toArray ((s2.c g2 cap2)))
                  have hH : Row (wd127.setRow p1 (List.toArray ((s2.c g2 cap2)))) p12 42 ((s2.c g2 cap2)) ∧ Row (wd127.setRow p1 (List.toArray ((s2.c g2 cap2)))) p15 47 [.slice (some ⟨gq2, oq2, none⟩) s2.L.length cq2, .string s2.now, .int .u64 (s2.last : Int)] ∧ Below w.heap.size w (wd127.setRow p1 (List.toArray ((s2.c g2 cap2)))) := ⟨hHeld.1.setRow_other (k := p1) (by omega) (List.toArray ((s2.c g2 cap2))), hHeld.2.1.setRow_other (k := p1) (by omega) (List.toArray ((s2.c g2 cap2))), below_row hHeld.2.2 (show _ ≤ p1 by omega) (List.toArray ((s2.c g2 cap2)))⟩
                  clear hHeld
                  generalize wd127.setRow p1 (List.toArray ((s2.c g2 cap2))) = v128 at *
                  refine hK.out _ _ hH (fun hHeld => ?_)
                  clear hH
                  clear hK K hd
                  try simp only [Act.put]
                  refine one_d 3 none rfl (by kernel_rfl) ?_
                  intro o ho1 hd K hK
                  cases ho1
                  refine step_store_row rfl 47 (.tmp 6) (.tmp 143) rfl (p2) ([.slice (some ⟨gq2, oq2, none⟩) s2.L.length cq2, .string s2.now, .int .u64 (s2.last : Int)]) rfl rfl _ _ x2 infoRSn rfl (by first | (simp [Value.oneCell']; done) | exact S15.Sn.c_all _ _ _) ?_
                  rw [hd]
                  replace x1 := x1.setRow_other (k := p2) (by omega) (List.toArray ([.slice (some ⟨gq2, oq2, none⟩) s2.L.length cq2, .string s2.now, .int .u64 (s2.last : Int)]))
                  replace x2 := x2.setRow ([.slice (some ⟨gq2, oq2, none⟩) s2.L.length cq2, .string s2.now, .int .u64 (s2.last : Int)])
                  replace H2 := H2.setRow (k := (p2)) (by omega) (List.toArray ([.slice (some ⟨gq2, oq2, none⟩) s2.L.length cq2, .string s2.now, .int .u64 (s2.last : Int)]))
                  replace Q2 := Q2.setRow (k := (p2)) (by omega) (List.toArray ([.slice (some ⟨gq2, oq2, none⟩) s2.L.length cq2, .string s2.now, .int .u64 (s2.last : Int)]))
                  have hH : Row (v128.setRow p2 (List.toArray ([.slice (some ⟨gq2, oq2, none⟩) s2.L.length cq2, .string s2.now, .int .u64 (s2.last : Int)]))) p12 42 ((s2.c g2 cap2)) ∧ Row (v128.setRow p2 (List.toArray ([.slice (some ⟨gq2, oq2, none⟩) s2.L.length cq2, .string s2.now, .int .u64 (s2.last : Int)]))) p15 47 [.slice (some ⟨gq2, oq2, none⟩) s2.L.length cq2, .string s2.now, .int .u64 (s2.last : Int)] ∧ Below w.heap.size w (v128.setRow p2 (List.toArray ([.slice (some ⟨gq2, oq2, none⟩) s2.L.length cq2, .string s2.now, .int .u64 (s2.last : Int)]))) := ⟨hHeld.1.setRow_other (k := p2) (by omega) (List.toArray ([.slice (some ⟨gq2, oq2, none⟩) s2.L.length cq2, .string s2.now, .int .u64 (s2.last : Int)])), hHeld.2.1.setRow_other (k := p2) (by omega) (List.toArray ([.slice (some ⟨gq2, oq2, none⟩) s2.L.length cq2, .string s2.now, .int .u64 (s2.last : Int)])), below_row hHeld.2.2 (show _ ≤ p2 by omega) (List.toArray ([.slice (some ⟨gq2, oq2, none⟩) s2.L.length cq2, .string s2.now, .int .u64 (s2.last : Int)]))⟩
                  clear hHeld
                  generalize v128.setRow p2 (List.toArray ([.slice (some ⟨gq2, oq2, none⟩) s2.L.length cq2, .string s2.now, .int .u64 (s2.last : Int)])) = v129 at *
                  refine hK.out _ _ hH (fun hHeld => ?_)
                  clear hH
                  clear hK K hd
                  try simp only [Act.put]
                  refine wpAnyH_done (by kernel_rfl) ?_ _
                  try simp only [Act.put]
                  replace x12 := hHeld.1
                  replace x15 := hHeld.2.1
                  replace bb := hHeld.2.2
                  clear hHeld
                  go_wp2
                  go_meet
                  exact ⟨g2, cap2, gq2, oq2, cq2, s2, HO2, x1, x2, H2, Q2, bb⟩
          case rest =>
            as_aux_lemma =>
              clear x1 x2 x9 H0 Q0 bb
              obtain ⟨g2, cap2, gq2, oq2, cq2, s2, HO2, x1, x2, H2, Q2, bb⟩ := hcut
              have hp1 := HO2.out.pos
              have hp8 := HO2.out.few
              have tok601 : True := True.intro
              go_wp2_with (first | (refine at_op (.load 42 (.tmp 5)) (by with_reducible rfl) ?_; clear tok601; refine wpList_load_row rfl 42 (.tmp 5) rfl (p1) rfl _ _ _ _ x1 Try.underlying42 rfl infoSn ?_))
              refine (nums_sn s2 g2 cap2 _ HO2.out H2).mono ?_
              rintro e wa602 ⟨gn, rfl, hn, bwa602⟩
              replace x1 := x1.below bwa602 x1.lt
              replace x2 := x2.below bwa602 x2.lt
              replace H2 := H2.keep bwa602
              replace Q2 := Q2.keep bwa602
              replace bb := bb.trans (bwa602.mono bb.size)
              clear bwa602
              obtain ⟨Bn, hBn⟩ : ∃ B, B = wc.heap.size := ⟨_, rfl⟩
              rw [← hBn] at hn
              clear hBn
              have HB0 : Hid (s2.L[0]? = some s2.base) := base_get hp1
              go_wp2
              by_cases em : s2.L.length = 1
              · have em2 : ((s2.L.length : Int) == 1) = true := by rw [beq_iff_eq]; omega
                have htb : s2.top = s2.base := by have h1 := top_get hp1; have h2 := base_get hp1; rw [em] at h1; rw [h2] at h1; exact (Option.some.inj h1).symm
                obtain ⟨qb, hqb⟩ : ∃ x, x = s2.quiet := ⟨_, rfl⟩
                have hq : (s2.now.toList == s2.base.tx.toList) = qb := by rw [beqS, hqb]; unfold Sn.quiet Sn.unsent; rw [htb]; simp [em]
                have hq' : s2.quiet = qb := hqb.symm
                have CQt : Hid (∀ wx, Held wx s2 g2 cap2 → Calls Try.prog 26 #[.agg (s2.c g2 cap2).toArray] wx fun e w' => e = .returned (.bool qb) ∧ Below wx.heap.size wx w') := fun wx hx => by have h := quiet_sn s2 g2 cap2 wx HO2.out hx; rw [hq'] at h; exact h
                clear hq' em hqb htb
                refine wp_region_held_drew (S := fun w' => Row w' p1 42 ((s2.c g2 cap2)) ∧ Row w' p2 47 [.slice (some ⟨gq2, oq2, none⟩) s2.L.length cq2, .string s2.now, .int .u64 (s2.last : Int)] ∧ S15.RHeld w' s2 gq2 oq2 cq2 ∧ w'.ownsRow Bn 22 1 (.slice (some ⟨gn, 0, none⟩) s2.L.length s2.L.length) s2.L.length (nums s2.L) ∧ Below w.heap.size w w') (by kernel_rfl) (⟨x1.drew, x2.drew, Q2.drew, hn.drew, bb.drew⟩) (fun hHeld => ?_)
                replace H2 := H2.drew
                generalize wa602.drew = wd603 at *
                refine take_d 0 (some 167) (.slice (some ⟨gn, 0, none⟩) s2.L.length s2.L.length) rfl (by kernel_rfl) (by kernel_rfl) (by kernel_rfl) (fun _ _ _ h => h) (fun oi h => by cases h; exact Or.inl ⟨by rfl, fun w' hS' => by go_simp⟩) hHeld ?_
                try simp only [Act.put, List.setIfInBounds_toArray, List.set_cons_zero, List.set_cons_succ]
                refine take_d 1 (some 168) (.int .i64 (s2.L.length : Int)) rfl (by kernel_rfl) (by kernel_rfl) (by kernel_rfl) (fun _ _ _ h => h) (fun oi h => by cases h; exact Or.inl ⟨by rfl, fun w' hS' => by go_simp⟩) hHeld ?_
                try simp only [Act.put, List.setIfInBounds_toArray, List.set_cons_zero, List.set_cons_succ]
                refine take_d 2 (some 169) (.pointer (some ⟨p2, 0, none⟩)) rfl (by kernel_rfl) (by kernel_rfl) (by kernel_rfl) (fun _ _ _ h => h) (fun oi h => by cases h; exact Or.inl ⟨by rfl, fun w' hS' => by go_simp⟩) hHeld ?_
                try simp only [Act.put, List.setIfInBounds_toArray, List.set_cons_zero, List.set_cons_succ]
                refine take_d 3 (some 170) (.slice (some ⟨gq2, oq2, none⟩) s2.L.length cq2) rfl (by kernel_rfl) (by kernel_rfl) (by kernel_rfl) (fun _ _ _ h => h) (fun oi h => by cases h; exact Or.inl ⟨by rfl, fun w' hS' => by have c : w'.cell? ⟨p2, 0, none⟩ = some (.slice (some ⟨gq2, oq2, none⟩) s2.L.length cq2) := hS'.2.1.cell 0; go_simp⟩) hHeld ?_
                try simp only [Act.put, List.setIfInBounds_toArray, List.set_cons_zero, List.set_cons_succ]
                refine take_d 4 (some 171) (.int .i64 (s2.L.length : Int)) rfl (by kernel_rfl) (by kernel_rfl) (by kernel_rfl) (fun _ _ _ h => h) (fun oi h => by cases h; exact Or.inl ⟨by rfl, fun w' hS' => by go_simp⟩) hHeld ?_
                try simp only [Act.put, List.setIfInBounds_toArray, List.set_cons_zero, List.set_cons_succ]
                refine take_d 5 (some 172) (.bool false) rfl (by kernel_rfl) (by kernel_rfl) (by kernel_rfl) (fun _ _ _ h => h) (fun oi h => by cases h; exact Or.inl ⟨by rfl, fun w' hS' => by go_simp⟩) hHeld ?_
                try simp only [Act.put, List.setIfInBounds_toArray, List.set_cons_zero, List.set_cons_succ]
                refine take_d 6 (some 173) (.bool false) rfl (by kernel_rfl) (by kernel_rfl) (by kernel_rfl) (fun _ _ _ h => h) (fun oi h => by cases h; exact Or.inl ⟨by rfl, fun w' hS' => by go_simp⟩) hHeld ?_
                try simp only [Act.put, List.setIfInBounds_toArray, List.set_cons_zero, List.set_cons_succ]
                refine take_d 7 (some 174) (.agg ((s2.c g2 cap2)).toArray) rfl (by kernel_rfl) (by kernel_rfl) (by kernel_rfl) (fun _ _ _ h => h) (fun oi h => by cases h; exact yieldsIf_load_mid (by rfl) 42 (.tmp 5) rfl p1 0 rfl ((s2.c g2 cap2)) _ (fun w' hS' => hS'.1.range) Try.underlying42 rfl infoSn) hHeld ?_
                try simp only [Act.put, List.setIfInBounds_toArray, List.set_cons_zero, List.set_cons_succ]
                refine take_d 9 (some 176) (.pointer (some ⟨p2, 1, none⟩)) rfl (by kernel_rfl) (by kernel_rfl) (by kernel_rfl) (fun _ _ _ h => h) (fun oi h => by cases h; exact Or.inl ⟨by rfl, fun w' hS' => by go_simp⟩) hHeld ?_
                try simp only [Act.put, List.setIfInBounds_toArray, List.set_cons_zero, List.set_cons_succ]
                refine take_d 10 (some 177) (.string s2.now) rfl (by kernel_rfl) (by kernel_rfl) (by kernel_rfl) (fun _ _ _ h => h) (fun oi h => by cases h; exact Or.inl ⟨by rfl, fun w' hS' => by have c : w'.cell? ⟨p2, 1, none⟩ = some (.string s2.now) := hS'.2.1.cell 1; go_simp⟩) hHeld ?_
                try simp only [Act.put, List.setIfInBounds_toArray, List.set_cons_zero, List.set_cons_succ]
                refine one_d 8 (some 175) rfl (by kernel_rfl) ?_
                intro o ho1 hd K hK
                cases ho1
                go_simp
                refine (current_sn s2 g2 cap2 _ HO2.out H2).mono ?_
                rintro e v604 ⟨rfl, bb0⟩
                replace H2 := H2.keep bb0
                refine hK.out _ _ (⟨hHeld.1.below bb0 hHeld.1.lt, hHeld.2.1.below bb0 hHeld.2.1.lt, hHeld.2.2.1.keep bb0, ownN hHeld.2.2.2.1 bb0, hHeld.2.2.2.2.trans (bb0.mono hHeld.2.2.2.2.size)⟩) (fun hHeld => ?_)
                clear bb0
                clear hK K hd
                try simp only [Act.put, List.setIfInBounds_toArray, List.set_cons_zero, List.set_cons_succ]
                refine take_d 11 (some 178) (.bool false) rfl (by kernel_rfl) (by kernel_rfl) (by kernel_rfl) (fun _ _ _ h => h) (fun oi h => by cases h; exact Or.inl ⟨by rfl, fun w' hS' => by go_simp⟩) hHeld ?_
                try simp only [Act.put, List.setIfInBounds_toArray, List.set_cons_zero, List.set_cons_succ]
                refine take_d 12 (some 179) (.bool false) rfl (by kernel_rfl) (by kernel_rfl) (by kernel_rfl) (fun _ _ _ h => h) (fun oi h => by cases h; exact Or.inl ⟨by rfl, fun w' hS' => by go_simp⟩) hHeld ?_
                try simp only [Act.put, List.setIfInBounds_toArray, List.set_cons_zero, List.set_cons_succ]
                refine take_d 13 (some 180) (.bool false) rfl (by kernel_rfl) (by kernel_rfl) (by kernel_rfl) (fun _ _ _ h => h) (fun oi h => by cases h; exact Or.inl ⟨by rfl, fun w' hS' => by go_simp⟩) hHeld ?_
                try simp only [Act.put, List.setIfInBounds_toArray, List.set_cons_zero, List.set_cons_succ]
                refine take_d 14 (some 181) (.agg ((s2.c g2 cap2)).toArray) rfl (by kernel_rfl) (by kernel_rfl) (by kernel_rfl) (fun _ _ _ h => h) (fun oi h => by cases h; exact yieldsIf_load_mid (by rfl) 42 (.tmp 5) rfl p1 0 rfl ((s2.c g2 cap2)) _ (fun w' hS' => hS'.1.range) Try.underlying42 rfl infoSn) hHeld ?_
                try simp only [Act.put, List.setIfInBounds_toArray, List.set_cons_zero, List.set_cons_succ]
                refine take_d 16 (some 183) (.pointer (some ⟨p2, 0, none⟩)) rfl (by kernel_rfl) (by kernel_rfl) (by kernel_rfl) (fun _ _ _ h => h) (fun oi h => by cases h; exact Or.inl ⟨by rfl, fun w' hS' => by go_simp⟩) hHeld ?_
                try simp only [Act.put, List.setIfInBounds_toArray, List.set_cons_zero, List.set_cons_succ]
                refine take_d 17 (some 184) (.slice (some ⟨gq2, oq2, none⟩) s2.L.length cq2) rfl (by kernel_rfl) (by kernel_rfl) (by kernel_rfl) (fun _ _ _ h => h) (fun oi h => by cases h; exact Or.inl ⟨by rfl, fun w' hS' => by have c : w'.cell? ⟨p2, 0, none⟩ = some (.slice (some ⟨gq2, oq2, none⟩) s2.L.length cq2) := hS'.2.1.cell 0; go_simp⟩) hHeld ?_
                try simp only [Act.put, List.setIfInBounds_toArray, List.set_cons_zero, List.set_cons_succ]
                refine take_d 18 (some 185) (.pointer (some ⟨gq2, oq2, none⟩)) rfl (by kernel_rfl) (by kernel_rfl) (by kernel_rfl) (fun _ _ _ h => h) (fun oi h => by cases h; exact Or.inl ⟨by rfl, fun w' hS' => by have h9 : ¬ s2.L = [] := (fun hh => by rw [hh] at hp1; simp at hp1); go_simp⟩) hHeld ?_
                try simp only [Act.put, List.setIfInBounds_toArray, List.set_cons_zero, List.set_cons_succ]
                refine take_d 19 (some 186) (.pointer (some ⟨gq2, oq2 + 2, none⟩)) rfl (by kernel_rfl) (by kernel_rfl) (by kernel_rfl) (fun _ _ _ h => h) (fun oi h => by cases h; exact Or.inl ⟨by rfl, fun w' hS' => by go_simp⟩) hHeld ?_
                try simp only [Act.put, List.setIfInBounds_toArray, List.set_cons_zero, List.set_cons_succ]
                refine take_d 20 (some 187) (.string s2.base.tx) rfl (by kernel_rfl) (by kernel_rfl) (by kernel_rfl) (fun _ _ _ h => h) (fun oi h => by cases h; exact Or.inl ⟨by rfl, fun w' hS' => by have c := (hS'.2.2.1).st.tx HB0.out; simp only [Nat.zero_mul, Nat.add_zero] at c; go_simp⟩) hHeld ?_
                try simp only [Act.put, List.setIfInBounds_toArray, List.set_cons_zero, List.set_cons_succ]
                refine one_d 15 (some 182) rfl (by kernel_rfl) ?_
                intro o ho1 hd K hK
                cases ho1
                go_simp
                refine (first_sn s2 g2 cap2 _ HO2.out H2).mono ?_
                rintro e v605 ⟨rfl, bb0⟩
                replace H2 := H2.keep bb0
                refine hK.out _ _ (⟨hHeld.1.below bb0 hHeld.1.lt, hHeld.2.1.below bb0 hHeld.2.1.lt, hHeld.2.2.1.keep bb0, ownN hHeld.2.2.2.1 bb0, hHeld.2.2.2.2.trans (bb0.mono hHeld.2.2.2.2.size)⟩) (fun hHeld => ?_)
                clear bb0
                clear hK K hd
                try simp only [Act.put, List.setIfInBounds_toArray, List.set_cons_zero, List.set_cons_succ]
                refine take_d 21 (some 188) (.bool false) rfl (by kernel_rfl) (by kernel_rfl) (by kernel_rfl) (fun _ _ _ h => h) (fun oi h => by cases h; exact Or.inl ⟨by rfl, fun w' hS' => by go_simp⟩) hHeld ?_
                try simp only [Act.put, List.setIfInBounds_toArray, List.set_cons_zero, List.set_cons_succ]
                refine take_d 22 (some 189) (.bool false) rfl (by kernel_rfl) (by kernel_rfl) (by kernel_rfl) (fun _ _ _ h => h) (fun oi h => by cases h; exact Or.inl ⟨by rfl, fun w' hS' => by go_simp⟩) hHeld ?_
                try simp only [Act.put, List.setIfInBounds_toArray, List.set_cons_zero, List.set_cons_succ]
                refine take_d 23 (some 190) (.bool false) rfl (by kernel_rfl) (by kernel_rfl) (by kernel_rfl) (fun _ _ _ h => h) (fun oi h => by cases h; exact Or.inl ⟨by rfl, fun w' hS' => by go_simp⟩) hHeld ?_
                try simp only [Act.put, List.setIfInBounds_toArray, List.set_cons_zero, List.set_cons_succ]
                refine take_d 24 (some 191) (.agg ((s2.c g2 cap2)).toArray) rfl (by kernel_rfl) (by kernel_rfl) (by kernel_rfl) (fun _ _ _ h => h) (fun oi h => by cases h; exact yieldsIf_load_mid (by rfl) 42 (.tmp 5) rfl p1 0 rfl ((s2.c g2 cap2)) _ (fun w' hS' => hS'.1.range) Try.underlying42 rfl infoSn) hHeld ?_
                try simp only [Act.put, List.setIfInBounds_toArray, List.set_cons_zero, List.set_cons_succ]
                refine take_d 26 (some 193) (.slice (some ⟨gn, 0, none⟩) s2.L.length s2.L.length) rfl (by kernel_rfl) (by kernel_rfl) (by kernel_rfl) (fun _ _ _ h => h) (fun oi h => by cases h; exact Or.inl ⟨by rfl, fun w' hS' => by go_simp⟩) hHeld ?_
                try simp only [Act.put, List.setIfInBounds_toArray, List.set_cons_zero, List.set_cons_succ]
                refine take_d 27 (some 194) (.int .i64 (s2.L.length : Int)) rfl (by kernel_rfl) (by kernel_rfl) (by kernel_rfl) (fun _ _ _ h => h) (fun oi h => by cases h; exact Or.inl ⟨by rfl, fun w' hS' => by go_simp⟩) hHeld ?_
                try simp only [Act.put, List.setIfInBounds_toArray, List.set_cons_zero, List.set_cons_succ]
                refine take_d 28 (some 195) (.bool true) rfl (by kernel_rfl) (by kernel_rfl) (by kernel_rfl) (fun _ _ _ h => h) (fun oi h => by cases h; exact Or.inl ⟨by rfl, fun w' hS' => by go_simp⟩) hHeld ?_
                try simp only [Act.put, List.setIfInBounds_toArray, List.set_cons_zero, List.set_cons_succ]
                refine one_d 25 (some 192) rfl (by kernel_rfl) ?_
                intro o ho1 hd K hK
                cases ho1
                go_simp
                refine (CQt.out _ H2).mono ?_
                rintro e v606 ⟨rfl, bb0⟩
                replace H2 := H2.keep bb0
                refine hK.out _ _ (⟨hHeld.1.below bb0 hHeld.1.lt, hHeld.2.1.below bb0 hHeld.2.1.lt, hHeld.2.2.1.keep bb0, ownN hHeld.2.2.2.1 bb0, hHeld.2.2.2.2.trans (bb0.mono hHeld.2.2.2.2.size)⟩) (fun hHeld => ?_)
                clear bb0
                clear hK K hd
                try simp only [Act.put, List.setIfInBounds_toArray, List.set_cons_zero, List.set_cons_succ]
                refine take_d 29 (some 196) (.bool true) rfl (by kernel_rfl) (by kernel_rfl) (by kernel_rfl) (fun _ _ _ h => h) (fun oi h => by cases h; exact Or.inl ⟨by rfl, fun w' hS' => by go_simp⟩) hHeld ?_
                try simp only [Act.put, List.setIfInBounds_toArray, List.set_cons_zero, List.set_cons_succ]
                refine take_d 30 (some 197) (.pointer (some ⟨p2, 1, none⟩)) rfl (by kernel_rfl) (by kernel_rfl) (by kernel_rfl) (fun _ _ _ h => h) (fun oi h => by cases h; exact Or.inl ⟨by rfl, fun w' hS' => by go_simp⟩) hHeld ?_
                try simp only [Act.put, List.setIfInBounds_toArray, List.set_cons_zero, List.set_cons_succ]
                refine take_d 31 (some 198) (.string s2.now) rfl (by kernel_rfl) (by kernel_rfl) (by kernel_rfl) (fun _ _ _ h => h) (fun oi h => by cases h; exact Or.inl ⟨by rfl, fun w' hS' => by have c : w'.cell? ⟨p2, 1, none⟩ = some (.string s2.now) := hS'.2.1.cell 1; go_simp⟩) hHeld ?_
                try simp only [Act.put, List.setIfInBounds_toArray, List.set_cons_zero, List.set_cons_succ]
                refine take_d 32 (some 199) (.pointer (some ⟨p2, 0, none⟩)) rfl (by kernel_rfl) (by kernel_rfl) (by kernel_rfl) (fun _ _ _ h => h) (fun oi h => by cases h; exact Or.inl ⟨by rfl, fun w' hS' => by go_simp⟩) hHeld ?_
                try simp only [Act.put, List.setIfInBounds_toArray, List.set_cons_zero, List.set_cons_succ]
                refine take_d 33 (some 200) (.slice (some ⟨gq2, oq2, none⟩) s2.L.length cq2) rfl (by kernel_rfl) (by kernel_rfl) (by kernel_rfl) (fun _ _ _ h => h) (fun oi h => by cases h; exact Or.inl ⟨by rfl, fun w' hS' => by have c : w'.cell? ⟨p2, 0, none⟩ = some (.slice (some ⟨gq2, oq2, none⟩) s2.L.length cq2) := hS'.2.1.cell 0; go_simp⟩) hHeld ?_
                try simp only [Act.put, List.setIfInBounds_toArray, List.set_cons_zero, List.set_cons_succ]
                refine take_d 34 (some 201) (.pointer (some ⟨gq2, oq2, none⟩)) rfl (by kernel_rfl) (by kernel_rfl) (by kernel_rfl) (fun _ _ _ h => h) (fun oi h => by cases h; exact Or.inl ⟨by rfl, fun w' hS' => by have h9 : ¬ s2.L = [] := (fun hh => by rw [hh] at hp1; simp at hp1); go_simp⟩) hHeld ?_
                try simp only [Act.put, List.setIfInBounds_toArray, List.set_cons_zero, List.set_cons_succ]
                refine take_d 35 (some 202) (.pointer (some ⟨gq2, oq2 + 2, none⟩)) rfl (by kernel_rfl) (by kernel_rfl) (by kernel_rfl) (fun _ _ _ h => h) (fun oi h => by cases h; exact Or.inl ⟨by rfl, fun w' hS' => by go_simp⟩) hHeld ?_
                try simp only [Act.put, List.setIfInBounds_toArray, List.set_cons_zero, List.set_cons_succ]
                refine take_d 36 (some 203) (.string s2.base.tx) rfl (by kernel_rfl) (by kernel_rfl) (by kernel_rfl) (fun _ _ _ h => h) (fun oi h => by cases h; exact Or.inl ⟨by rfl, fun w' hS' => by have c := (hS'.2.2.1).st.tx HB0.out; simp only [Nat.zero_mul, Nat.add_zero] at c; go_simp⟩) hHeld ?_
                try simp only [Act.put, List.setIfInBounds_toArray, List.set_cons_zero, List.set_cons_succ]
                refine take_d 37 (some 204) (.bool qb) rfl (by kernel_rfl) (by kernel_rfl) (by kernel_rfl) (fun _ _ _ h => h) (fun oi h => by cases h; exact Or.inl ⟨by rfl, fun w' hS' => by go_simp⟩) hHeld ?_
                try simp only [Act.put, List.setIfInBounds_toArray, List.set_cons_zero, List.set_cons_succ]
                refine take_d 38 (some 205) (.bool qb) rfl (by kernel_rfl) (by kernel_rfl) (by kernel_rfl) (fun _ _ _ h => h) (fun oi h => by cases h; exact Or.inl ⟨by rfl, fun w' hS' => by go_simp⟩) hHeld ?_
                try simp only [Act.put, List.setIfInBounds_toArray, List.set_cons_zero, List.set_cons_succ]
                refine take_d 39 (some 206) (.bool false) rfl (by kernel_rfl) (by kernel_rfl) (by kernel_rfl) (fun _ _ _ h => h) (fun oi h => by cases h; exact Or.inl ⟨by rfl, fun w' hS' => by go_simp⟩) hHeld ?_
                try simp only [Act.put, List.setIfInBounds_toArray, List.set_cons_zero, List.set_cons_succ]
                refine take_d 40 (some 207) (.bool false) rfl (by kernel_rfl) (by kernel_rfl) (by kernel_rfl) (fun _ _ _ h => h) (fun oi h => by cases h; exact Or.inl ⟨by rfl, fun w' hS' => by go_simp⟩) hHeld ?_
                try simp only [Act.put, List.setIfInBounds_toArray, List.set_cons_zero, List.set_cons_succ]
                refine wpAnyH_done (by kernel_rfl) ?_ _
                try simp only [Act.put]
                replace x1 := hHeld.1
                replace x2 := hHeld.2.1
                replace Q2 := hHeld.2.2.1
                replace hn := hHeld.2.2.2.1
                replace bb := hHeld.2.2.2.2
                clear hHeld
                clear CQt em2 hq
                go_wp2
                go_loopg [210] s2.L.length (fun gg kv wr => ∃ k : Nat, k ≤ s2.L.length ∧ s2.L.length - k ≤ gg ∧ kv = .int .i64 (k : Int) ∧ Row wr p1 42 (s2.c g2 cap2) ∧ Row wr p2 47 [.slice (some ⟨gq2, oq2, none⟩) s2.L.length cq2, .string s2.now, .int .u64 (s2.last : Int)] ∧ Held wr s2 g2 cap2 ∧ RHeld wr s2 gq2 oq2 cq2 ∧ wr.ownsRow Bn 22 1 (.slice (some ⟨gn, 0, none⟩) s2.L.length s2.L.length) s2.L.length (nums s2.L) ∧ Below w.heap.size w wr)
                case atStart => exact ⟨0, Nat.zero_le _, by omega, rfl, x1, x2, H2, Q2, hn, bb⟩
                case round =>
                  clear x1 x2 H2 Q2 hn bb
                  obtain ⟨k, hk, hkg, rfl, x1, x2, H2, Q2, hn, bb⟩ := hrel
                  by_cases hkl : k < s2.L.length
                  · have hks : (k : Int) < (s2.L.length : Int) := by omega
                    obtain ⟨p, hp⟩ : ∃ p, s2.L[k]? = some p := ⟨_, List.getElem?_eq_getElem hkl⟩
                    have HP := Lib.hid hp
                    clear hp
                    go_wp2
                    refine wp_region_held_drew (S := fun w' => Row w' p1 42 ((s2.c g2 cap2)) ∧ Row w' p2 47 [.slice (some ⟨gq2, oq2, none⟩) s2.L.length cq2, .string s2.now, .int .u64 (s2.last : Int)] ∧ S15.Held w' s2 g2 cap2 ∧ S15.RHeld w' s2 gq2 oq2 cq2 ∧ w'.ownsRow Bn 22 1 (.slice (some ⟨gn, 0, none⟩) s2.L.length s2.L.length) s2.L.length (nums s2.L) ∧ Below w.heap.size w w') (by kernel_rfl) (⟨x1.drew, x2.drew, H2.drew, Q2.drew, hn.drew, bb.drew⟩) (fun hHeld => ?_)
                    generalize wr.drew = wd701 at *
                    refine take_d 0 (some 213) (.slice (some ⟨gn, 0, none⟩) s2.L.length s2.L.length) rfl (by kernel_rfl) (by kernel_rfl) (by kernel_rfl) (fun _ _ _ h => h) (fun oi h => by cases h; exact Or.inl ⟨by rfl, fun w' hS' => by go_simp⟩) hHeld ?_
                    try simp only [Act.put, List.setIfInBounds_toArray, List.set_cons_zero, List.set_cons_succ]
                    refine take_d 1 (some 214) (.int .i64 (k : Int)) rfl (by kernel_rfl) (by kernel_rfl) (by kernel_rfl) (fun _ _ _ h => h) (fun oi h => by cases h; exact Or.inl ⟨by rfl, fun w' hS' => by go_simp⟩) hHeld ?_
                    try simp only [Act.put, List.setIfInBounds_toArray, List.set_cons_zero, List.set_cons_succ]
                    refine take_d 2 (some 215) (.pointer (some ⟨gn, k, none⟩)) rfl (by kernel_rfl) (by kernel_rfl) (by kernel_rfl) (fun _ _ _ h => h) (fun oi h => by cases h; exact Or.inl ⟨by rfl, fun w' hS' => by go_simp⟩) hHeld ?_
                    try simp only [Act.put, List.setIfInBounds_toArray, List.set_cons_zero, List.set_cons_succ]
                    refine take_d 3 (some 216) (.int .u64 (p.num : Int)) rfl (by kernel_rfl) (by kernel_rfl) (by kernel_rfl) (fun _ _ _ h => h) (fun oi h => by cases h; exact Or.inl ⟨by rfl, fun w' hS' => by have c := ((hS'.2.2.2.2.1).cellAt k (by omega)).trans (nums_at HP.out); go_simp⟩) hHeld ?_
                    try simp only [Act.put, List.setIfInBounds_toArray, List.set_cons_zero, List.set_cons_succ]
                    refine take_d 4 (some 217) (.pointer (some ⟨p2, 0, none⟩)) rfl (by kernel_rfl) (by kernel_rfl) (by kernel_rfl) (fun _ _ _ h => h) (fun oi h => by cases h; exact Or.inl ⟨by rfl, fun w' hS' => by go_simp⟩) hHeld ?_
                    try simp only [Act.put, List.setIfInBounds_toArray, List.set_cons_zero, List.set_cons_succ]
                    refine take_d 5 (some 218) (.slice (some ⟨gq2, oq2, none⟩) s2.L.length cq2) rfl (by kernel_rfl) (by kernel_rfl) (by kernel_rfl) (fun _ _ _ h => h) (fun oi h => by cases h; exact Or.inl ⟨by rfl, fun w' hS' => by have c : w'.cell? ⟨p2, 0, none⟩ = some (.slice (some ⟨gq2, oq2, none⟩) s2.L.length cq2) := hS'.2.1.cell 0; go_simp⟩) hHeld ?_
                    try simp only [Act.put, List.setIfInBounds_toArray, List.set_cons_zero, List.set_cons_succ]
                    refine take_d 6 (some 219) (.int .i64 (k : Int)) rfl (by kernel_rfl) (by kernel_rfl) (by kernel_rfl) (fun _ _ _ h => h) (fun oi h => by cases h; exact Or.inl ⟨by rfl, fun w' hS' => by go_simp⟩) hHeld ?_
                    try simp only [Act.put, List.setIfInBounds_toArray, List.set_cons_zero, List.set_cons_succ]
                    refine take_d 7 (some 220) (.pointer (some ⟨gq2, oq2 + k * 3, none⟩)) rfl (by kernel_rfl) (by kernel_rfl) (by kernel_rfl) (fun _ _ _ h => h) (fun oi h => by cases h; exact Or.inl ⟨by rfl, fun w' hS' => by go_simp⟩) hHeld ?_
                    try simp only [Act.put, List.setIfInBounds_toArray, List.set_cons_zero, List.set_cons_succ]
                    refine take_d 8 (some 221) (.pointer (some ⟨gq2, oq2 + k * 3, none⟩)) rfl (by kernel_rfl) (by kernel_rfl) (by kernel_rfl) (fun _ _ _ h => h) (fun oi h => by cases h; exact Or.inl ⟨by rfl, fun w' hS' => by go_simp⟩) hHeld ?_
                    try simp only [Act.put, List.setIfInBounds_toArray, List.set_cons_zero, List.set_cons_succ]
                    refine take_d 9 (some 222) (.int .u64 (p.num : Int)) rfl (by kernel_rfl) (by kernel_rfl) (by kernel_rfl) (fun _ _ _ h => h) (fun oi h => by cases h; exact Or.inl ⟨by rfl, fun w' hS' => by have c := (hS'.2.2.2.1).st.num HP.out; go_simp⟩) hHeld ?_
                    try simp only [Act.put, List.setIfInBounds_toArray, List.set_cons_zero, List.set_cons_succ]
                    refine take_d 10 (some 223) (.bool false) rfl (by kernel_rfl) (by kernel_rfl) (by kernel_rfl) (fun _ _ _ h => h) (fun oi h => by cases h; exact Or.inl ⟨by rfl, fun w' hS' => by go_simp⟩) hHeld ?_
                    try simp only [Act.put, List.setIfInBounds_toArray, List.set_cons_zero, List.set_cons_succ]
                    refine wpAnyH_done (by kernel_rfl) ?_ _
                    try simp only [Act.put]
                    replace x1 := hHeld.1
                    replace x2 := hHeld.2.1
                    replace H2 := hHeld.2.2.1
                    replace Q2 := hHeld.2.2.2.1
                    replace hn := hHeld.2.2.2.2.1
                    replace bb := hHeld.2.2.2.2.2
                    clear hHeld
                    go_wp2
                    go_roundg (s2.L.length - (k + 1))
                    case measure => omega
                    case rel => exact ⟨k + 1, by omega, by omega, by go_num, x1, x2, H2, Q2, hn, bb⟩
                  · obtain rfl : k = s2.L.length := by omega
                    clear hn
                    go_wp2
                    go_roundg (len1 - (i + 1))
                    case measure => omega
                    case rel => exact ⟨i + 1, tk2, g2, cap2, gq2, oq2, cq2, s2, by omega, by omega, by go_num, rfl, hu1, HO2, x1, x2, H2, Q2, bb⟩
              · have em2 : ((s2.L.length : Int) == 1) = false := by rw [beq_eq_false_iff_ne]; omega
                have hq' : s2.quiet = false := by unfold Sn.quiet; simp [em]
                have CQt : Hid (∀ wx, Held wx s2 g2 cap2 → Calls Try.prog 26 #[.agg (s2.c g2 cap2).toArray] wx fun e w' => e = .returned (.bool false) ∧ Below wx.heap.size wx w') := fun wx hx => by have h := quiet_sn s2 g2 cap2 wx HO2.out hx; rw [hq'] at h; exact h
                clear hq' em
                refine wp_region_held_drew (S := fun w' => Row w' p1 42 ((s2.c g2 cap2)) ∧ Row w' p2 47 [.slice (some ⟨gq2, oq2, none⟩) s2.L.length cq2, .string s2.now, .int .u64 (s2.last : Int)] ∧ S15.RHeld w' s2 gq2 oq2 cq2 ∧ w'.ownsRow Bn 22 1 (.slice (some ⟨gn, 0, none⟩) s2.L.length s2.L.length) s2.L.length (nums s2.L) ∧ Below w.heap.size w w') (by kernel_rfl) (⟨x1.drew, x2.drew, Q2.drew, hn.drew, bb.drew⟩) (fun hHeld => ?_)
                replace H2 := H2.drew
                generalize wa602.drew = wd603 at *
                refine take_d 0 (some 167) (.slice (some ⟨gn, 0, none⟩) s2.L.length s2.L.length) rfl (by kernel_rfl) (by kernel_rfl) (by kernel_rfl) (fun _ _ _ h => h) (fun oi h => by cases h; exact Or.inl ⟨by rfl, fun w' hS' => by go_simp⟩) hHeld ?_
                try simp only [Act.put, List.setIfInBounds_toArray, List.set_cons_zero, List.set_cons_succ]
                refine take_d 1 (some 168) (.int .i64 (s2.L.length : Int)) rfl (by kernel_rfl) (by kernel_rfl) (by kernel_rfl) (fun _ _ _ h => h) (fun oi h => by cases h; exact Or.inl ⟨by rfl, fun w' hS' => by go_simp⟩) hHeld ?_
                try simp only [Act.put, List.setIfInBounds_toArray, List.set_cons_zero, List.set_cons_succ]
                refine take_d 2 (some 169) (.pointer (some ⟨p2, 0, none⟩)) rfl (by kernel_rfl) (by kernel_rfl) (by kernel_rfl) (fun _ _ _ h => h) (fun oi h => by cases h; exact Or.inl ⟨by rfl, fun w' hS' => by go_simp⟩) hHeld ?_
                try simp only [Act.put, List.setIfInBounds_toArray, List.set_cons_zero, List.set_cons_succ]
                refine take_d 3 (some 170) (.slice (some ⟨gq2, oq2, none⟩) s2.L.length cq2) rfl (by kernel_rfl) (by kernel_rfl) (by kernel_rfl) (fun _ _ _ h => h) (fun oi h => by cases h; exact Or.inl ⟨by rfl, fun w' hS' => by have c : w'.cell? ⟨p2, 0, none⟩ = some (.slice (some ⟨gq2, oq2, none⟩) s2.L.length cq2) := hS'.2.1.cell 0; go_simp⟩) hHeld ?_
                try simp only [Act.put, List.setIfInBounds_toArray, List.set_cons_zero, List.set_cons_succ]
                refine take_d 4 (some 171) (.int .i64 (s2.L.length : Int)) rfl (by kernel_rfl) (by kernel_rfl) (by kernel_rfl) (fun _ _ _ h => h) (fun oi h => by cases h; exact Or.inl ⟨by rfl, fun w' hS' => by go_simp⟩) hHeld ?_
                try simp only [Act.put, List.setIfInBounds_toArray, List.set_cons_zero, List.set_cons_succ]
                refine take_d 5 (some 172) (.bool false) rfl (by kernel_rfl) (by kernel_rfl) (by kernel_rfl) (fun _ _ _ h => h) (fun oi h => by cases h; exact Or.inl ⟨by rfl, fun w' hS' => by go_simp⟩) hHeld ?_
                try simp only [Act.put, List.setIfInBounds_toArray, List.set_cons_zero, List.set_cons_succ]
                refine take_d 6 (some 173) (.bool false) rfl (by kernel_rfl) (by kernel_rfl) (by kernel_rfl) (fun _ _ _ h => h) (fun oi h => by cases h; exact Or.inl ⟨by rfl, fun w' hS' => by go_simp⟩) hHeld ?_
                try simp only [Act.put, List.setIfInBounds_toArray, List.set_cons_zero, List.set_cons_succ]
                refine take_d 7 (some 174) (.agg ((s2.c g2 cap2)).toArray) rfl (by kernel_rfl) (by kernel_rfl) (by kernel_rfl) (fun _ _ _ h => h) (fun oi h => by cases h; exact yieldsIf_load_mid (by rfl) 42 (.tmp 5) rfl p1 0 rfl ((s2.c g2 cap2)) _ (fun w' hS' => hS'.1.range) Try.underlying42 rfl infoSn) hHeld ?_
                try simp only [Act.put, List.setIfInBounds_toArray, List.set_cons_zero, List.set_cons_succ]
                refine take_d 9 (some 176) (.pointer (some ⟨p2, 1, none⟩)) rfl (by kernel_rfl) (by kernel_rfl) (by kernel_rfl) (fun _ _ _ h => h) (fun oi h => by cases h; exact Or.inl ⟨by rfl, fun w' hS' => by go_simp⟩) hHeld ?_
                try simp only [Act.put, List.setIfInBounds_toArray, List.set_cons_zero, List.set_cons_succ]
                refine take_d 10 (some 177) (.string s2.now) rfl (by kernel_rfl) (by kernel_rfl) (by kernel_rfl) (fun _ _ _ h => h) (fun oi h => by cases h; exact Or.inl ⟨by rfl, fun w' hS' => by have c : w'.cell? ⟨p2, 1, none⟩ = some (.string s2.now) := hS'.2.1.cell 1; go_simp⟩) hHeld ?_
                try simp only [Act.put, List.setIfInBounds_toArray, List.set_cons_zero, List.set_cons_succ]
                refine one_d 8 (some 175) rfl (by kernel_rfl) ?_
                intro o ho1 hd K hK
                cases ho1
                go_simp
                refine (current_sn s2 g2 cap2 _ HO2.out H2).mono ?_
                rintro e v604 ⟨rfl, bb0⟩
                replace H2 := H2.keep bb0
                refine hK.out _ _ (⟨hHeld.1.below bb0 hHeld.1.lt, hHeld.2.1.below bb0 hHeld.2.1.lt, hHeld.2.2.1.keep bb0, ownN hHeld.2.2.2.1 bb0, hHeld.2.2.2.2.trans (bb0.mono hHeld.2.2.2.2.size)⟩) (fun hHeld => ?_)
                clear bb0
                clear hK K hd
                try simp only [Act.put, List.setIfInBounds_toArray, List.set_cons_zero, List.set_cons_succ]
                refine take_d 11 (some 178) (.bool false) rfl (by kernel_rfl) (by kernel_rfl) (by kernel_rfl) (fun _ _ _ h => h) (fun oi h => by cases h; exact Or.inl ⟨by rfl, fun w' hS' => by go_simp⟩) hHeld ?_
                try simp only [Act.put, List.setIfInBounds_toArray, List.set_cons_zero, List.set_cons_succ]
                refine take_d 12 (some 179) (.bool false) rfl (by kernel_rfl) (by kernel_rfl) (by kernel_rfl) (fun _ _ _ h => h) (fun oi h => by cases h; exact Or.inl ⟨by rfl, fun w' hS' => by go_simp⟩) hHeld ?_
                try simp only [Act.put, List.setIfInBounds_toArray, List.set_cons_zero, List.set_cons_succ]
                refine take_d 13 (some 180) (.bool false) rfl (by kernel_rfl) (by kernel_rfl) (by kernel_rfl) (fun _ _ _ h => h) (fun oi h => by cases h; exact Or.inl ⟨by rfl, fun w' hS' => by go_simp⟩) hHeld ?_
                try simp only [Act.put, List.setIfInBounds_toArray, List.set_cons_zero, List.set_cons_succ]
                refine take_d 14 (some 181) (.agg ((s2.c g2 cap2)).toArray) rfl (by kernel_rfl) (by kernel_rfl) (by kernel_rfl) (fun _ _ _ h => h) (fun oi h => by cases h; exact yieldsIf_load_mid (by rfl) 42 (.tmp 5) rfl p1 0 rfl ((s2.c g2 cap2)) _ (fun w' hS' => hS'.1.range) Try.underlying42 rfl infoSn) hHeld ?_
                try simp only [Act.put, List.setIfInBounds_toArray, List.set_cons_zero, List.set_cons_succ]
                refine take_d 16 (some 183) (.pointer (some ⟨p2, 0, none⟩)) rfl (by kernel_rfl) (by kernel_rfl) (by kernel_rfl) (fun _ _ _ h => h) (fun oi h => by cases h; exact Or.inl ⟨by rfl, fun w' hS' => by go_simp⟩) hHeld ?_
                try simp only [Act.put, List.setIfInBounds_toArray, List.set_cons_zero, List.set_cons_succ]
                refine take_d 17 (some 184) (.slice (some ⟨gq2, oq2, none⟩) s2.L.length cq2) rfl (by kernel_rfl) (by kernel_rfl) (by kernel_rfl) (fun _ _ _ h => h) (fun oi h => by cases h; exact Or.inl ⟨by rfl, fun w' hS' => by have c : w'.cell? ⟨p2, 0, none⟩ = some (.slice (some ⟨gq2, oq2, none⟩) s2.L.length cq2) := hS'.2.1.cell 0; go_simp⟩) hHeld ?_
                try simp only [Act.put, List.setIfInBounds_toArray, List.set_cons_zero, List.set_cons_succ]
                refine take_d 18 (some 185) (.pointer (some ⟨gq2, oq2, none⟩)) rfl (by kernel_rfl) (by kernel_rfl) (by kernel_rfl) (fun _ _ _ h => h) (fun oi h => by cases h; exact Or.inl ⟨by rfl, fun w' hS' => by have h9 : ¬ s2.L = [] := (fun hh => by rw [hh] at hp1; simp at hp1); go_simp⟩) hHeld ?_
                try simp only [Act.put, List.setIfInBounds_toArray, List.set_cons_zero, List.set_cons_succ]
                refine take_d 19 (some 186) (.pointer (some ⟨gq2, oq2 + 2, none⟩)) rfl (by kernel_rfl) (by kernel_rfl) (by kernel_rfl) (fun _ _ _ h => h) (fun oi h => by cases h; exact Or.inl ⟨by rfl, fun w' hS' => by go_simp⟩) hHeld ?_
                try simp only [Act.put, List.setIfInBounds_toArray, List.set_cons_zero, List.set_cons_succ]
                refine take_d 20 (some 187) (.string s2.base.tx) rfl (by kernel_rfl) (by kernel_rfl) (by kernel_rfl) (fun _ _ _ h => h) (fun oi h => by cases h; exact Or.inl ⟨by rfl, fun w' hS' => by have c := (hS'.2.2.1).st.tx HB0.out; simp only [Nat.zero_mul, Nat.add_zero] at c; go_simp⟩) hHeld ?_
                try simp only [Act.put, List.setIfInBounds_toArray, List.set_cons_zero, List.set_cons_succ]
                refine one_d 15 (some 182) rfl (by kernel_rfl) ?_
                intro o ho1 hd K hK
                cases ho1
                go_simp
                refine (first_sn s2 g2 cap2 _ HO2.out H2).mono ?_
                rintro e v605 ⟨rfl, bb0⟩
                replace H2 := H2.keep bb0
                refine hK.out _ _ (⟨hHeld.1.below bb0 hHeld.1.lt, hHeld.2.1.below bb0 hHeld.2.1.lt, hHeld.2.2.1.keep bb0, ownN hHeld.2.2.2.1 bb0, hHeld.2.2.2.2.trans (bb0.mono hHeld.2.2.2.2.size)⟩) (fun hHeld => ?_)
                clear bb0
                clear hK K hd
                try simp only [Act.put, List.setIfInBounds_toArray, List.set_cons_zero, List.set_cons_succ]
                refine take_d 21 (some 188) (.bool false) rfl (by kernel_rfl) (by kernel_rfl) (by kernel_rfl) (fun _ _ _ h => h) (fun oi h => by cases h; exact Or.inl ⟨by rfl, fun w' hS' => by go_simp⟩) hHeld ?_
                try simp only [Act.put, List.setIfInBounds_toArray, List.set_cons_zero, List.set_cons_succ]
                refine take_d 22 (some 189) (.bool false) rfl (by kernel_rfl) (by kernel_rfl) (by kernel_rfl) (fun _ _ _ h => h) (fun oi h => by cases h; exact Or.inl ⟨by rfl, fun w' hS' => by go_simp⟩) hHeld ?_
                try simp only [Act.put, List.setIfInBounds_toArray, List.set_cons_zero, List.set_cons_succ]
                refine take_d 23 (some 190) (.bool false) rfl (by kernel_rfl) (by kernel_rfl) (by kernel_rfl) (fun _ _ _ h => h) (fun oi h => by cases h; exact Or.inl ⟨by rfl, fun w' hS' => by go_simp⟩) hHeld ?_
                try simp only [Act.put, List.setIfInBounds_toArray, List.set_cons_zero, List.set_cons_succ]
                refine take_d 24 (some 191) (.agg ((s2.c g2 cap2)).toArray) rfl (by kernel_rfl) (by kernel_rfl) (by kernel_rfl) (fun _ _ _ h => h) (fun oi h => by cases h; exact yieldsIf_load_mid (by rfl) 42 (.tmp 5) rfl p1 0 rfl ((s2.c g2 cap2)) _ (fun w' hS' => hS'.1.range) Try.underlying42 rfl infoSn) hHeld ?_
                try simp only [Act.put, List.setIfInBounds_toArray, List.set_cons_zero, List.set_cons_succ]
                refine take_d 26 (some 193) (.slice (some ⟨gn, 0, none⟩) s2.L.length s2.L.length) rfl (by kernel_rfl) (by kernel_rfl) (by kernel_rfl) (fun _ _ _ h => h) (fun oi h => by cases h; exact Or.inl ⟨by rfl, fun w' hS' => by go_simp⟩) hHeld ?_
                try simp only [Act.put, List.setIfInBounds_toArray, List.set_cons_zero, List.set_cons_succ]
                refine take_d 27 (some 194) (.int .i64 (s2.L.length : Int)) rfl (by kernel_rfl) (by kernel_rfl) (by kernel_rfl) (fun _ _ _ h => h) (fun oi h => by cases h; exact Or.inl ⟨by rfl, fun w' hS' => by go_simp⟩) hHeld ?_
                try simp only [Act.put, List.setIfInBounds_toArray, List.set_cons_zero, List.set_cons_succ]
                refine take_d 28 (some 195) (.bool false) rfl (by kernel_rfl) (by kernel_rfl) (by kernel_rfl) (fun _ _ _ h => h) (fun oi h => by cases h; exact Or.inl ⟨by rfl, fun w' hS' => by go_simp⟩) hHeld ?_
                try simp only [Act.put, List.setIfInBounds_toArray, List.set_cons_zero, List.set_cons_succ]
                refine one_d 25 (some 192) rfl (by kernel_rfl) ?_
                intro o ho1 hd K hK
                cases ho1
                go_simp
                refine (CQt.out _ H2).mono ?_
                rintro e v606 ⟨rfl, bb0⟩
                replace H2 := H2.keep bb0
                refine hK.out _ _ (⟨hHeld.1.below bb0 hHeld.1.lt, hHeld.2.1.below bb0 hHeld.2.1.lt, hHeld.2.2.1.keep bb0, ownN hHeld.2.2.2.1 bb0, hHeld.2.2.2.2.trans (bb0.mono hHeld.2.2.2.2.size)⟩) (fun hHeld => ?_)
                clear bb0
                clear hK K hd
                try simp only [Act.put, List.setIfInBounds_toArray, List.set_cons_zero, List.set_cons_succ]
                refine take_d 29 (some 196) (.bool false) rfl (by kernel_rfl) (by kernel_rfl) (by kernel_rfl) (fun _ _ _ h => h) (fun oi h => by cases h; exact Or.inl ⟨by rfl, fun w' hS' => by go_simp⟩) hHeld ?_
                try simp only [Act.put, List.setIfInBounds_toArray, List.set_cons_zero, List.set_cons_succ]
                refine take_d 30 (some 197) (undef) rfl (by kernel_rfl) (by kernel_rfl) (by kernel_rfl) (fun _ _ _ h => h) (fun oi h => by cases h; exact Or.inr ⟨by rfl, rfl⟩) hHeld ?_
                try simp only [Act.put, List.setIfInBounds_toArray, List.set_cons_zero, List.set_cons_succ]
                refine take_d 31 (some 198) (undef) rfl (by kernel_rfl) (by kernel_rfl) (by kernel_rfl) (fun _ _ _ h => h) (fun oi h => by cases h; exact Or.inr ⟨by rfl, rfl⟩) hHeld ?_
                try simp only [Act.put, List.setIfInBounds_toArray, List.set_cons_zero, List.set_cons_succ]
                refine take_d 32 (some 199) (undef) rfl (by kernel_rfl) (by kernel_rfl) (by kernel_rfl) (fun _ _ _ h => h) (fun oi h => by cases h; exact Or.inr ⟨by rfl, rfl⟩) hHeld ?_
                try simp only [Act.put, List.setIfInBounds_toArray, List.set_cons_zero, List.set_cons_succ]
                refine take_d 33 (some 200) (undef) rfl (by kernel_rfl) (by kernel_rfl) (by kernel_rfl) (fun _ _ _ h => h) (fun oi h => by cases h; exact Or.inr ⟨by rfl, rfl⟩) hHeld ?_
                try simp only [Act.put, List.setIfInBounds_toArray, List.set_cons_zero, List.set_cons_succ]
                refine take_d 34 (some 201) (undef) rfl (by kernel_rfl) (by kernel_rfl) (by kernel_rfl) (fun _ _ _ h => h) (fun oi h => by cases h; exact Or.inr ⟨by rfl, rfl⟩) hHeld ?_
                try simp only [Act.put, List.setIfInBounds_toArray, List.set_cons_zero, List.set_cons_succ]
                refine take_d 35 (some 202) (undef) rfl (by kernel_rfl) (by kernel_rfl) (by kernel_rfl) (fun _ _ _ h => h) (fun oi h => by cases h; exact Or.inr ⟨by rfl, rfl⟩) hHeld ?_
                try simp only [Act.put, List.setIfInBounds_toArray, List.set_cons_zero, List.set_cons_succ]
                refine take_d 36 (some 203) (undef) rfl (by kernel_rfl) (by kernel_rfl) (by kernel_rfl) (fun _ _ _ h => h) (fun oi h => by cases h; exact Or.inr ⟨by rfl, rfl⟩) hHeld ?_
                try simp only [Act.put, List.setIfInBounds_toArray, List.set_cons_zero, List.set_cons_succ]
                refine take_d 37 (some 204) (undef) rfl (by kernel_rfl) (by kernel_rfl) (by kernel_rfl) (fun _ _ _ h => h) (fun oi h => by cases h; exact Or.inr ⟨by rfl, rfl⟩) hHeld ?_
                try simp only [Act.put, List.setIfInBounds_toArray, List.set_cons_zero, List.set_cons_succ]
                refine take_d 38 (some 205) (.bool false) rfl (by kernel_rfl) (by kernel_rfl) (by kernel_rfl) (fun _ _ _ h => h) (fun oi h => by cases h; exact Or.inl ⟨by rfl, fun w' hS' => by go_simp⟩) hHeld ?_
                try simp only [Act.put, List.setIfInBounds_toArray, List.set_cons_zero, List.set_cons_succ]
                refine take_d 39 (some 206) (.bool false) rfl (by kernel_rfl) (by kernel_rfl) (by kernel_rfl) (fun _ _ _ h => h) (fun oi h => by cases h; exact Or.inl ⟨by rfl, fun w' hS' => by go_simp⟩) hHeld ?_
                try simp only [Act.put, List.setIfInBounds_toArray, List.set_cons_zero, List.set_cons_succ]
                refine take_d 40 (some 207) (.bool false) rfl (by kernel_rfl) (by kernel_rfl) (by kernel_rfl) (fun _ _ _ h => h) (fun oi h => by cases h; exact Or.inl ⟨by rfl, fun w' hS' => by go_simp⟩) hHeld ?_
                try simp only [Act.put, List.setIfInBounds_toArray, List.set_cons_zero, List.set_cons_succ]
                refine wpAnyH_done (by kernel_rfl) ?_ _
                try simp only [Act.put]
                replace x1 := hHeld.1
                replace x2 := hHeld.2.1
                replace Q2 := hHeld.2.2.1
                replace hn := hHeld.2.2.2.1
                replace bb := hHeld.2.2.2.2
                clear hHeld
                clear CQt em2
                go_wp2
                go_loopg [210] s2.L.length (fun gg kv wr => ∃ k : Nat, k ≤ s2.L.length ∧ s2.L.length - k ≤ gg ∧ kv = .int .i64 (k : Int) ∧ Row wr p1 42 (s2.c g2 cap2) ∧ Row wr p2 47 [.slice (some ⟨gq2, oq2, none⟩) s2.L.length cq2, .string s2.now, .int .u64 (s2.last : Int)] ∧ Held wr s2 g2 cap2 ∧ RHeld wr s2 gq2 oq2 cq2 ∧ wr.ownsRow Bn 22 1 (.slice (some ⟨gn, 0, none⟩) s2.L.length s2.L.length) s2.L.length (nums s2.L) ∧ Below w.heap.size w wr)
                case atStart => exact ⟨0, Nat.zero_le _, by omega, rfl, x1, x2, H2, Q2, hn, bb⟩
                case round =>
                  clear x1 x2 H2 Q2 hn bb
                  obtain ⟨k, hk, hkg, rfl, x1, x2, H2, Q2, hn, bb⟩ := hrel
                  by_cases hkl : k < s2.L.length
                  · have hks : (k : Int) < (s2.L.length : Int) := by omega
                    obtain ⟨p, hp⟩ : ∃ p, s2.L[k]? = some p := ⟨_, List.getElem?_eq_getElem hkl⟩
                    have HP := Lib.hid hp
                    clear hp
                    go_wp2
                    refine wp_region_held_drew (S := fun w' => Row w' p1 42 ((s2.c g2 cap2)) ∧ Row w' p2 47 [.slice (some ⟨gq2, oq2, none⟩) s2.L.length cq2, .string s2.now, .int .u64 (s2.last : Int)] ∧ S15.Held w' s2 g2 cap2 ∧ S15.RHeld w' s2 gq2 oq2 cq2 ∧ w'.ownsRow Bn 22 1 (.slice (some ⟨gn, 0, none⟩) s2.L.length s2.L.length) s2.L.length (nums s2.L) ∧ Below w.heap.size w w') (by kernel_rfl) (⟨x1.drew, x2.drew, H2.drew, Q2.drew, hn.drew, bb.drew⟩) (fun hHeld => ?_)
                    generalize wr.drew = wd701 at *
                    refine take_d 0 (some 213) (.slice (some ⟨gn, 0, none⟩) s2.L.length s2.L.length) rfl (by kernel_rfl) (by kernel_rfl) (by kernel_rfl) (fun _ _ _ h => h) (fun oi h => by cases h; exact Or.inl ⟨by rfl, fun w' hS' => by go_simp⟩) hHeld ?_
                    try simp only [Act.put, List.setIfInBounds_toArray, List.set_cons_zero, List.set_cons_succ]
                    refine take_d 1 (some 214) (.int .i64 (k : Int)) rfl (by kernel_rfl) (by kernel_rfl) (by kernel_rfl) (fun _ _ _ h => h) (fun oi h => by cases h; exact Or.inl ⟨by rfl, fun w' hS' => by go_simp⟩) hHeld ?_
                    try simp only [Act.put, List.setIfInBounds_toArray, List.set_cons_zero, List.set_cons_succ]
                    refine take_d 2 (some 215) (.pointer (some ⟨gn, k, none⟩)) rfl (by kernel_rfl) (by kernel_rfl) (by kernel_rfl) (fun _ _ _ h => h) (fun oi h => by cases h; exact Or.inl ⟨by rfl, fun w' hS' => by go_simp⟩) hHeld ?_
                    try simp only [Act.put, List.setIfInBounds_toArray, List.set_cons_zero, List.set_cons_succ]
                    refine take_d 3 (some 216) (.int .u64 (p.num : Int)) rfl (by kernel_rfl) (by kernel_rfl) (by kernel_rfl) (fun _ _ _ h => h) (fun oi h => by cases h; exact Or.inl ⟨by rfl, fun w' hS' => by have c := ((hS'.2.2.2.2.1).cellAt k (by omega)).trans (nums_at HP.out); go_simp⟩) hHeld ?_
                    try simp only [Act.put, List.setIfInBounds_toArray, List.set_cons_zero, List.set_cons_succ]
                    refine take_d 4 (some 217) (.pointer (some ⟨p2, 0, none⟩)) rfl (by kernel_rfl) (by kernel_rfl) (by kernel_rfl) (fun _ _ _ h => h) (fun oi h => by cases h; exact Or.inl ⟨by rfl, fun w' hS' => by go_simp⟩) hHeld ?_
                    try simp only [Act.put, List.setIfInBounds_toArray, List.set_cons_zero, List.set_cons_succ]
                    refine take_d 5 (some 218) (.slice (some ⟨gq2, oq2, none⟩) s2.L.length cq2) rfl (by kernel_rfl) (by kernel_rfl) (by kernel_rfl) (fun _ _ _ h => h) (fun oi h => by cases h; exact Or.inl ⟨by rfl, fun w' hS' => by have c : w'.cell? ⟨p2, 0, none⟩ = some (.slice (some ⟨gq2, oq2, none⟩) s2.L.length cq2) := hS'.2.1.cell 0; go_simp⟩) hHeld ?_
                    try simp only [Act.put, List.setIfInBounds_toArray, List.set_cons_zero, List.set_cons_succ]
                    refine take_d 6 (some 219) (.int .i64 (k : Int)) rfl (by kernel_rfl) (by kernel_rfl) (by kernel_rfl) (fun _ _ _ h => h) (fun oi h => by cases h; exact Or.inl ⟨by rfl, fun w' hS' => by go_simp⟩) hHeld ?_
                    try simp only [Act.put, List.setIfInBounds_toArray, List.set_cons_zero, List.set_cons_succ]
                    refine take_d 7 (some 220) (.pointer (some ⟨gq2, oq2 + k * 3, none⟩)) rfl (by kernel_rfl) (by kernel_rfl) (by kernel_rfl) (fun _ _ _ h => h) (fun oi h => by cases h; exact Or.inl ⟨by rfl, fun w' hS' => by go_simp⟩) hHeld ?_
                    try simp only [Act.put, List.setIfInBounds_toArray, List.set_cons_zero, List.set_cons_succ]
                    refine take_d 8 (some 221) (.pointer (some ⟨gq2, oq2 + k * 3, none⟩)) rfl (by kernel_rfl) (by kernel_rfl) (by kernel_rfl) (fun _ _ _ h => h) (fun oi h => by cases h; exact Or.inl ⟨by rfl, fun w' hS' => by go_simp⟩) hHeld ?_
                    try simp only [Act.put, List.setIfInBounds_toArray, List.set_cons_zero, List.set_cons_succ]
                    refine take_d 9 (some 222) (.int .u64 (p.num : Int)) rfl (by kernel_rfl) (by kernel_rfl) (by kernel_rfl) (fun _ _ _ h => h) (fun oi h => by cases h; exact Or.inl ⟨by rfl, fun w' hS' => by have c := (hS'.2.2.2.1).st.num HP.out; go_simp⟩) hHeld ?_
                    try simp only [Act.put, List.setIfInBounds_toArray, List.set_cons_zero, List.set_cons_succ]
                    refine take_d 10 (some 223) (.bool false) rfl (by kernel_rfl) (by kernel_rfl) (by kernel_rfl) (fun _ _ _ h => h) (fun oi h => by cases h; exact Or.inl ⟨by rfl, fun w' hS' => by go_simp⟩) hHeld ?_
                    try simp only [Act.put, List.setIfInBounds_toArray, List.set_cons_zero, List.set_cons_succ]
                    refine wpAnyH_done (by kernel_rfl) ?_ _
                    try simp only [Act.put]
                    replace x1 := hHeld.1
                    replace x2 := hHeld.2.1
                    replace H2 := hHeld.2.2.1
                    replace Q2 := hHeld.2.2.2.1
                    replace hn := hHeld.2.2.2.2.1
                    replace bb := hHeld.2.2.2.2.2
                    clear hHeld
                    go_wp2
                    go_roundg (s2.L.length - (k + 1))
                    case measure => omega
                    case rel => exact ⟨k + 1, by omega, by omega, by go_num, x1, x2, H2, Q2, hn, bb⟩
                  · obtain rfl : k = s2.L.length := by omega
                    clear hn
                    go_wp2
                    go_roundg (len1 - (i + 1))
                    case measure => omega
                    case rel => exact ⟨i + 1, tk2, g2, cap2, gq2, oq2, cq2, s2, by omega, by omega, by go_num, rfl, hu1, HO2, x1, x2, H2, Q2, bb⟩
        · have e1 : (100 : Int) < (tx.size : Int) := by omega
          go_wp2_with (refine wpList_load_mid rfl 50 (.tmp 40) rfl b (off + i * 6) rfl _ _ hr Try.underlying50 rfl infoActP ?_)
          go_ret
          exact ⟨rfl, bb.alloc bb.size _⟩
      · obtain rfl : i = len1 := by omega
        go_wp2
        go_ret
        exact ⟨rfl, bb⟩
  · by_cases hc : 60 < len1
    · have g1 : (60 : Int) < (len1 : Int) := by omega
      clear hb
      have bb : Below w.heap.size w w := Below.refl _ _
      go_enter Try.func4, Try.ntmps4
      go_wp2_with fail
      refine (CL.out _).mono ?_
      rintro e wa2 ⟨rfl, bwa2⟩
      replace bb := bb.trans (bwa2.mono bb.size)
      clear bwa2
      go_wp2
      go_ret
      exact ⟨rfl, bb⟩
    · have g1 : ¬ (60 : Int) < (len1 : Int) := by omega
      have g2 : (100 : Int) < (a0.size : Int) := by omega
      clear hb
      have bb : Below w.heap.size w w := Below.refl _ _
      go_enter Try.func4, Try.ntmps4
      go_wp2_with fail
      refine (CL.out _).mono ?_
      rintro e wa2 ⟨rfl, bwa2⟩
      replace bb := bb.trans (bwa2.mono bb.size)
      clear bwa2
      go_wp2
      go_ret
      exact ⟨rfl, bb⟩

end Go.Proofs.Ytngoighdpmeepaa.SenderPlaysW
