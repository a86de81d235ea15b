/-
  Layer 7: SealApart: what its walk asks.
-/
import Derived.Test.YtjkaignfomlflaaGreatMod23
import Derived.OpenShut
namespace Go.Proofs.YtjkaignfomlflaaGreat.SealApartW
open Go.RowKit
set_option linter.unusedVariables false
set_option maxRecDepth 20000

/-- Bytes that lie in a block, cell by cell. -/
def CellsB (w : World) (g : Nat) (l : List UInt8) : Prop := ∀ j, j < l.length → w.cell? ⟨g, j, none⟩ = some (.int .u8 ((l.getD j 0).toNat : Int))
theorem CellsB.below {w w' : World} {B g : Nat} {l : List UInt8} (h : CellsB w g l) (hb : Below B w w') (hg : g < B) : CellsB w' g l := fun j hj => (hb.cell (p := ⟨g, j, none⟩) hg).trans (h j hj)
theorem CellsB.text {w : World} {g cap : Nat} {l : List UInt8} (h : CellsB w g l) : (convert 49 9 (.slice (some ⟨g, 0, none⟩) l.length cap)).run Tryz.prog w = .ok (.string ⟨l.toArray⟩) w :=
  run_convert_bytes_back (P := Tryz.prog) w 49 9 5 ⟨g, 0, none⟩ cap l Tryz.underlying49 Tryz.underlying5 Tryz.underlying9 (fun t ht => by
    have e : (⟨g, 0, none⟩ : Addr).add t = ⟨g, t, none⟩ := by unfold Addr.add; split <;> simp_all
    rw [e, h t ht]; simp [List.getD_eq_getElem?_getD, ht])
theorem conv_any (s : ByteArray) (hs : s.size ≤ 1000) (w : World) :
    ∃ cap wc, (convert 9 49 (.string s)).run Tryz.prog w = .ok (.slice (some ⟨w.heap.size, 0, none⟩) s.size cap) wc ∧ s.size ≤ cap ∧ CellsB wc w.heap.size s.data.toList ∧ (∀ j, j < s.size → wc.frozen? ⟨w.heap.size, j, none⟩ = false) ∧ Below w.heap.size w wc ∧ w.heap.size < wc.heap.size := by
  have hcv := run_bytes_of_string (P := Tryz.prog) w 9 49 5 s Tryz.underlying9 Tryz.underlying49 Tryz.underlying5
  have hge := grownCap_ge w s.size 0 5
  obtain ⟨g', cap', hv, _, _, _, _, hcell, _⟩ := isBytes_conv w s (by omega)
  refine ⟨grownCap w s.size 0 5, _, hcv, hge, fun j hj => ?_, fun j hj => ?_, ((Below.refl _ _).drew).alloc (Nat.le_refl _) _, by show w.heap.size < (w.heap.push _).size; simp⟩
  · cases hv
    exact hcell j _ (c8_at hj)
  · generalize grownCap w s.size 0 5 = cap at *
    have hsz := bytesRow_size s cap hge
    have hh : (w.drew.alloc (.cells (bytesRow s cap) 5 ((bytesRow s cap).size, (bytesRow s cap).size + 1))).heap[w.heap.size]? = some (.cells (bytesRow s cap) 5 ((bytesRow s cap).size, (bytesRow s cap).size + 1)) := by
      show (w.heap.push _)[w.heap.size]? = _; simp
    simp only [World.frozen?, hh]
    simp
    omega
theorem CellsB.set {w : World} {g p : Nat} {l : List UInt8} (h : CellsB w g l) (hp : p < l.length) (x : UInt8) : CellsB (w.setCell ⟨g, p, none⟩ (.int .u8 (x.toNat : Int))) g (l.set p x) := fun j hj => by
  rw [List.length_set] at hj
  by_cases e : j = p
  · subst e
    rw [World.cell?_setCell_same _ _ _ (h j hj)]
    simp [List.getD_eq_getElem?_getD, hj]
  · rw [World.cell?_setCell_other _ _ _ _ (fun hh => by cases hh; exact e rfl), h j hj]
    simp [List.getD_eq_getElem?_getD, Ne.symm e]

theorem list17 {α : Type} {l : List α} (h : l.length = 17) : ∃ v0 v1 v2 v3 v4 v5 v6 v7 v8 v9 v10 v11 v12 v13 v14 v15 v16, l = [v0, v1, v2, v3, v4, v5, v6, v7, v8, v9, v10, v11, v12, v13, v14, v15, v16] := by
  match l, h with
  | [v0, v1, v2, v3, v4, v5, v6, v7, v8, v9, v10, v11, v12, v13, v14, v15, v16], _ => exact ⟨_, _, _, _, _, _, _, _, _, _, _, _, _, _, _, _, _,  rfl⟩

/-- What the walk asks. -/
structure Apart (key : ByteArray) (i j m n : Nat) (body S T U : ByteArray) (Y : List Value) (O1 O2 O3 : ByteArray) (E1 E2 E3 : Int) : Prop where
  CN : ∀ wx, Calls Tryz.prog 9 #[.string key] wx fun e w' => e = .returned (.tuple #[.agg Y.toArray, .int .i64 0]) ∧ Below wx.heap.size wx w'
  CS : ∀ wx, Calls Tryz.prog 10 #[.agg Y.toArray, .int .u64 (i : Int), .int .u64 (m : Int), .string body] wx fun e w' => e = .returned (.string S) ∧ Below wx.heap.size wx w'
  R1 : ∀ wx, Calls Tryz.prog 12 #[.string key, .int .u64 (j : Int), .int .u64 (n : Int), .string S] wx fun e w' => e = .returned (.tuple #[.string O1, .int .i64 E1]) ∧ Below wx.heap.size wx w'
  P1 : ∀ wx, Calls Tryz.prog 11 #[.agg Y.toArray, .int .u64 (j : Int), .int .u64 (n : Int), .string S] wx fun e w' => e = .returned (.tuple #[.string O1, .int .i64 E1]) ∧ Below wx.heap.size wx w'
  R2 : ∀ wx, Calls Tryz.prog 12 #[.string key, .int .u64 (i : Int), .int .u64 (m : Int), .string T] wx fun e w' => e = .returned (.tuple #[.string O2, .int .i64 E2]) ∧ Below wx.heap.size wx w'
  P2 : ∀ wx, Calls Tryz.prog 11 #[.agg Y.toArray, .int .u64 (i : Int), .int .u64 (m : Int), .string T] wx fun e w' => e = .returned (.tuple #[.string O2, .int .i64 E2]) ∧ Below wx.heap.size wx w'
  R3 : ∀ wx, Calls Tryz.prog 12 #[.string key, .int .u64 (i : Int), .int .u64 (m : Int), .string U] wx fun e w' => e = .returned (.tuple #[.string O3, .int .i64 E3]) ∧ Below wx.heap.size wx w'
  P3 : ∀ wx, Calls Tryz.prog 11 #[.agg Y.toArray, .int .u64 (i : Int), .int .u64 (m : Int), .string U] wx fun e w' => e = .returned (.tuple #[.string O3, .int .i64 E3]) ∧ Below wx.heap.size wx w'
  len : Y.length = 17
  all : Y.toArray.all (·.oneCell') = true
  same : i = j → m = n → E1 = 0 ∧ O1 = body
  other : E1 ≠ 0 → E1 = 8 ∧ O1 = ⟨#[]⟩
  whole : T = S → E2 = 0

theorem open_cases (key : List UInt8) (id n : Nat) (s : List UInt8) (h : 16 ≤ s.length) : ((Z7.openE key id n s : Nat) : Int) ≠ 0 → ((Z7.openE key id n s : Nat) : Int) = 8 ∧ (⟨(Z7.openL key id n s).toArray⟩ : ByteArray) = ⟨#[]⟩ := by
  have h16 : ¬ s.length < 16 := by omega
  have e1 : Z7.openE key id n s = if Z7.opens key id n s then 0 else 8 := by unfold Z7.openE; rw [if_neg h16]
  have e2 : Z7.openL key id n s = if Z7.opens key id n s then Z7.bodyL key n s else [] := by unfold Z7.openL; rw [if_neg h16]
  rw [e1, e2]
  cases Z7.opens key id n s with
  | true => intro h; exact absurd rfl h
  | false => intro _; exact ⟨rfl, rfl⟩

theorem apart_of (key : ByteArray) (i j m n : Nat) (body S T U : ByteArray) (hS : S = ⟨(Z7.sealL key.data.toList i m body.data.toList).toArray⟩) (hT : T.size = S.size) (hU : U.size ≤ S.size) (h1 : 1 ≤ key.size) (h2 : key.size ≤ 64) (hi : i ≤ 18446744073709551615) (hj : j ≤ 18446744073709551615) (hm : m ≤ 18446744073709551615) (hn : n ≤ 18446744073709551615) (hb : body.size ≤ 100) :
    ∃ Y O1 O2 O3 E1 E2 E3, Apart key i j m n body S T U Y O1 O2 O3 E1 E2 E3 := by
  have hs : S.size = body.size + 16 := by rw [hS, size_ofL, Z7.sealL_length, size_toL]
  have hSl : S.data.toList = Z7.sealL key.data.toList i m body.data.toList := by rw [hS]
  refine ⟨keyBox key.data.toList, _, _, _, _, _, _, fun wx => sealNew_yes key h1 h2 wx, fun wx => ?_, fun wx => refOpen_any key (by omega) j n S hj hn (by omega) wx, fun wx => open_any _ _ (.inl rfl) j n S hj hn (by omega) wx, fun wx => refOpen_any key (by omega) i m T hi hm (by omega) wx, fun wx => open_any _ _ (.inl rfl) i m T hi hm (by omega) wx, fun wx => refOpen_any key (by omega) i m U hi hm (by omega) wx, fun wx => open_any _ _ (.inl rfl) i m U hi hm (by omega) wx, keyBox_length _, keyBox_all _, fun e1 e2 => ?_, open_cases _ _ _ _ (by rw [size_toL]; omega), fun e => ?_⟩
  · rw [hS]; exact seal_any _ _ (.inl rfl) i m body hi hm (by omega) wx
  · subst e1; subst e2
    rw [hSl, Z7.openE_seal, Z7.openL_seal]
    exact ⟨rfl, (bytes_of rfl).symm⟩
  · subst e
    rw [hSl, Z7.openE_seal]; rfl


end Go.Proofs.YtjkaignfomlflaaGreat.SealApartW
