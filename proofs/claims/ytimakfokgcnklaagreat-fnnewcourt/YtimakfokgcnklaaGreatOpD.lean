/-
  Rules, facts, peers, parcels, courts of the laws, handed in.
-/
import Derived.Test.YtimakfokgcnklaaGreatOpC
import Derived.Test.YtimakfokgcnklaaGreatCz
namespace Go.Proofs.YtimakfokgcnklaaGreat.Rd
open Go.ChangeShapes Go.WideShapes Go.ChangeAt Go.RowKit Go.Joins Go.Deep
open Sb (S3 es Row3)
open Ns
open Cd (CD)
set_option linter.unusedVariables false
set_option linter.unusedSimpArgs false

theorem six_ {α : Type} {cs : Array α} (h : cs.toList.length = 6) : ∃ a b c d e f, cs = #[a, b, c, d, e, f] := by
  obtain ⟨l⟩ := cs
  match l, h with
  | [a, b, c, d, e, f], _ => exact ⟨a, b, c, d, e, f, rfl⟩
theorem four_ {α : Type} {cs : Array α} (h : cs.toList.length = 4) : ∃ a b c d, cs = #[a, b, c, d] := by
  obtain ⟨l⟩ := cs
  match l, h with
  | [a, b, c, d], _ => exact ⟨a, b, c, d, rfl⟩
theorem thirteen {α : Type} {cs : Array α} (h : cs.toList.length = 13) : ∃ a b c d e f g h i j k l m, cs = #[a, b, c, d, e, f, g, h, i, j, k, l, m] := by
  obtain ⟨l⟩ := cs
  match l, h with
  | [a, b, c, d, e, f, g, h, i, j, k, l, m], _ => exact ⟨a, b, c, d, e, f, g, h, i, j, k, l, m, rfl⟩
theorem cells_rule : Tryz.prog.cellsOf 46 = 6 := by kernel_rfl
theorem cells_fact : Tryz.prog.cellsOf 143 = 3 := by kernel_rfl
theorem cells_peer : Tryz.prog.cellsOf 133 = 4 := by kernel_rfl
theorem cells_parcel : Tryz.prog.cellsOf 136 = 3 := by kernel_rfl
theorem cells_court : Tryz.prog.cellsOf 52 = 13 := by kernel_rfl
theorem cells_b : Tryz.prog.cellsOf 4 = 1 := by kernel_rfl
theorem cells_sb : Tryz.prog.cellsOf 27 = 1 := by kernel_rfl
theorem cells_si : Tryz.prog.cellsOf 26 = 1 := by kernel_rfl
theorem cells_sp : Tryz.prog.cellsOf 47 = 1 := by kernel_rfl
theorem cells_sq : Tryz.prog.cellsOf 48 = 1 := by kernel_rfl
theorem cells_ss : Tryz.prog.cellsOf 49 = 1 := by kernel_rfl
theorem cells_sf : Tryz.prog.cellsOf 50 = 1 := by kernel_rfl

theorem rule {H : Type} {enc : TypeId × Value → H} {w : World} {base : Nat} {spare : Nat → Bool} {held : Bool} {cs : Array Value} (h : Reads enc Tryz.prog w base spare held 46 cs.toList) :
    ∃ n f p a l m : Int, cs = #[.int .i64 n, .int .i64 f, .int .i64 p, .int .i64 a, .int .i64 l, .int .i64 m] := by
  obtain ⟨hl, g⟩ := h.struct Tryz.underlying46
  rw [cells_rule] at hl
  obtain ⟨c0, c1, c2, c3, c4, c5, rfl⟩ := six_ hl
  obtain ⟨n, e0, _⟩ := (g 0 _ rfl).int Tryz.underlying2
  obtain ⟨f, e1, _⟩ := (g 1 _ rfl).int Tryz.underlying2
  obtain ⟨p, e2, _⟩ := (g 2 _ rfl).int Tryz.underlying2
  obtain ⟨a, e3, _⟩ := (g 3 _ rfl).int Tryz.underlying2
  obtain ⟨l, e4, _⟩ := (g 4 _ rfl).int Tryz.underlying2
  obtain ⟨m, e5, _⟩ := (g 5 _ rfl).int Tryz.underlying2
  simp [cells_int] at e0 e1 e2 e3 e4 e5
  subst e0 e1 e2 e3 e4 e5
  exact ⟨n, f, p, a, l, m, rfl⟩

theorem fact3 {H : Type} {enc : TypeId × Value → H} {w : World} {base : Nat} {spare : Nat → Bool} {held : Bool} {cs : Array Value} (h : Reads enc Tryz.prog w base spare held 143 cs.toList) :
    ∃ r k t : Int, cs = #[.int .i64 r, .int .i64 k, .int .i64 t] := by
  obtain ⟨hl, g⟩ := h.struct Tryz.underlying143
  rw [cells_fact] at hl
  obtain ⟨c0, c1, c2, rfl⟩ := three hl
  obtain ⟨r, e0, _⟩ := (g 0 _ rfl).int Tryz.underlying2
  obtain ⟨k, e1, _⟩ := (g 1 _ rfl).int Tryz.underlying2
  obtain ⟨t, e2, _⟩ := (g 2 _ rfl).int Tryz.underlying2
  simp [cells_int] at e0 e1 e2
  subst e0 e1 e2
  exact ⟨r, k, t, rfl⟩
theorem facts {H : Type} {enc : TypeId × Value → H} {w : World} {base : Nat} {spare : Nat → Bool} {held : Bool} {cs : List Value} (h : Reads enc Tryz.prog w base spare held 50 cs) :
    ∃ (a : Option Addr) (n cap : Nat) (ss : List S3), cs = [.slice a n cap] ∧ Row3 w w.heap.size a n ss ∧ n ≤ maxLen := by
  rcases h.slice Tryz.underlying50 with rfl | ⟨a, n, cap, rfl, hl1, hl2, hel⟩
  · exact ⟨none, 0, 0, [], rfl, ⟨rfl, .inl rfl⟩, Nat.zero_le _⟩
  · have each : ∀ i, i < n → ∃ s : S3, w.cell? ((a.add (i * 3)).add 0) = some (.int .i64 s.1) ∧ w.cell? ((a.add (i * 3)).add 1) = some (.int .i64 s.2.1) ∧ w.cell? ((a.add (i * 3)).add 2) = some (.int .i64 s.2.2) := fun i hi => by
      obtain ⟨ds, h1, h2⟩ := hel i hi
      rw [cells_fact] at h1
      obtain ⟨r, k, t, e⟩ := fact3 (cs := ds.toArray) (by simpa using h2)
      have e' : ds = [.int .i64 r, .int .i64 k, .int .i64 t] := by simpa using congrArg Array.toList e
      subst e'
      have hc := World.cells?_some h1
      exact ⟨(r, k, t), hc.2.2 0 (by omega), hc.2.2 1 (by omega), hc.2.2 2 (by omega)⟩
    obtain ⟨f, hf⟩ : ∃ f : Nat → S3, ∀ i, i < n → w.cell? ((a.add (i * 3)).add 0) = some (.int .i64 (f i).1) ∧ w.cell? ((a.add (i * 3)).add 1) = some (.int .i64 (f i).2.1) ∧ w.cell? ((a.add (i * 3)).add 2) = some (.int .i64 (f i).2.2) :=
      ⟨fun i => if hi : i < n then (each i hi).choose else (0, 0, 0), fun i hi => by simp only [hi, dif_pos]; exact (each i hi).choose_spec⟩
    have er : ∀ k, k < n → es ((List.range n).map f) k = f k := fun k hk => by simp [es, List.getD, hk]
    refine ⟨some a, n, cap, (List.range n).map f, rfl, ⟨by simp, ?_⟩, by omega⟩
    by_cases h0 : n = 0
    · exact .inl h0
    · obtain ⟨b, off, spot⟩ := a
      obtain ⟨q0, _⟩ := hf 0 (by omega)
      have hs : spot = none := by simpa [Addr.add] using World.cell?_spot q0
      subst hs
      have hb := World.block_lt_of_cell? _ _ q0
      refine .inr ⟨b, off, rfl, by simpa [Addr.add] using hb, fun k hk => ?_⟩
      obtain ⟨c0, c1, c2⟩ := hf k hk
      rw [add_plain, add_plain] at c0 c1 c2
      rw [er k hk]
      exact ⟨by simpa using c0, c1, c2⟩

theorem peer {H : Type} {enc : TypeId × Value → H} {w : World} {base : Nat} {spare : Nat → Bool} {held : Bool} {cs : Array Value} (h : Reads enc Tryz.prog w base spare held 133 cs.toList) :
    ∃ (x y : Int) (z : Bool) (aS : Option Addr) (cS : Nat) (S : List S3), cs = #[.int .i64 x, .int .i64 y, .bool z, .slice aS S.length cS] ∧ Row3 w w.heap.size aS S.length S ∧ S.length ≤ maxLen := by
  obtain ⟨hl, g⟩ := h.struct Tryz.underlying133
  rw [cells_peer] at hl
  obtain ⟨c0, c1, c2, c3, rfl⟩ := four_ hl
  obtain ⟨x, e0, _⟩ := (g 0 _ rfl).int Tryz.underlying2
  obtain ⟨y, e1, _⟩ := (g 1 _ rfl).int Tryz.underlying2
  obtain ⟨z, e2⟩ := (g 2 _ rfl).bool Tryz.underlying4
  obtain ⟨aS, n, cS, S, e3, h2, h3⟩ := seals (g 3 _ rfl)
  simp [cells_int, cells_b, cells_ss] at e0 e1 e2 e3
  subst e0 e1 e2 e3
  obtain rfl : S.length = n := h2.1
  exact ⟨x, y, z, aS, cS, S, rfl, h2, h3⟩

theorem peers {H : Type} {enc : TypeId × Value → H} {w : World} {base : Nat} {spare : Nat → Bool} {held : Bool} {cs : List Value} (h : Reads enc Tryz.prog w base spare held 47 cs) :
    ∃ (a : Option Addr) (n cap : Nat) (ps : List PD), cs = [.slice a n cap] ∧ PeersAt w w.heap.size a n ps ∧ n ≤ maxLen ∧ ∀ j, j < n → (pd ps j).2.2.2.length ≤ maxLen := by
  rcases h.slice Tryz.underlying47 with rfl | ⟨a, n, cap, rfl, hl1, hl2, hel⟩
  · exact ⟨none, 0, 0, [], rfl, ⟨rfl, .inl rfl⟩, Nat.zero_le _, fun j hj => by omega⟩
  · have each : ∀ i, i < n → ∃ (T : PD) (aS : Option Addr) (cS : Nat), (w.cell? ((a.add (i * 4)).add 0) = some (.int .i64 T.1) ∧ w.cell? ((a.add (i * 4)).add 1) = some (.int .i64 T.2.1) ∧ w.cell? ((a.add (i * 4)).add 2) = some (.bool T.2.2.1) ∧ w.cell? ((a.add (i * 4)).add 3) = some (.slice aS T.2.2.2.length cS)) ∧ Row3 w w.heap.size aS T.2.2.2.length T.2.2.2 ∧ T.2.2.2.length ≤ maxLen := fun i hi => by
      obtain ⟨ds, h1, h2⟩ := hel i hi
      rw [cells_peer] at h1
      obtain ⟨x, y, z, aS, cS, S, e, r, m⟩ := peer (cs := ds.toArray) (by simpa using h2)
      have e' : ds = [.int .i64 x, .int .i64 y, .bool z, .slice aS S.length cS] := by simpa using congrArg Array.toList e
      subst e'
      have hc := World.cells?_some h1
      exact ⟨(x, y, z, S), aS, cS, ⟨hc.2.2 0 (by omega), hc.2.2 1 (by omega), hc.2.2 2 (by omega), hc.2.2 3 (by omega)⟩, r, m⟩
    obtain ⟨f, hf⟩ : ∃ f : Nat → PD, ∀ i, i < n → ∃ (aS : Option Addr) (cS : Nat), (w.cell? ((a.add (i * 4)).add 0) = some (.int .i64 (f i).1) ∧ w.cell? ((a.add (i * 4)).add 1) = some (.int .i64 (f i).2.1) ∧ w.cell? ((a.add (i * 4)).add 2) = some (.bool (f i).2.2.1) ∧ w.cell? ((a.add (i * 4)).add 3) = some (.slice aS (f i).2.2.2.length cS)) ∧ Row3 w w.heap.size aS (f i).2.2.2.length (f i).2.2.2 ∧ (f i).2.2.2.length ≤ maxLen :=
      ⟨fun i => if hi : i < n then (each i hi).choose else p0, fun i hi => by simp only [hi, dif_pos]; exact (each i hi).choose_spec⟩
    have er : ∀ k, k < n → pd ((List.range n).map f) k = f k := fun k hk => by simp [pd, List.getD, hk]
    refine ⟨some a, n, cap, (List.range n).map f, rfl, ⟨by simp, ?_⟩, by omega, fun k hk => ?_⟩
    · by_cases h0 : n = 0
      · exact .inl h0
      · obtain ⟨b, off, spot⟩ := a
        obtain ⟨_, _, ⟨q0, _⟩, _⟩ := hf 0 (by omega)
        have hs : spot = none := by simpa [Addr.add] using World.cell?_spot q0
        subst hs
        have hb := World.block_lt_of_cell? _ _ q0
        refine .inr ⟨b, off, rfl, by simpa [Addr.add] using hb, fun k hk => ?_⟩
        obtain ⟨aS, cS, ⟨c0, c1, c2, c3⟩, hA, _⟩ := hf k hk
        rw [add_plain, add_plain] at c0 c1 c2 c3
        rw [er k hk]
        exact ⟨aS, cS, ⟨by simpa using c0, c1, c2, c3⟩, hA⟩
    · obtain ⟨_, _, _, _, hF⟩ := hf k hk
      rw [er k hk]
      exact hF

theorem parcel {H : Type} {enc : TypeId × Value → H} {w : World} {base : Nat} {spare : Nat → Bool} {held : Bool} {cs : Array Value} (h : Reads enc Tryz.prog w base spare held 136 cs.toList) :
    ∃ (x y : Int) (aS : Option Addr) (cS : Nat) (S : List S3), cs = #[.int .i64 x, .int .i64 y, .slice aS S.length cS] ∧ Row3 w w.heap.size aS S.length S ∧ S.length ≤ maxLen := by
  obtain ⟨hl, g⟩ := h.struct Tryz.underlying136
  rw [cells_parcel] at hl
  obtain ⟨c0, c1, c2, rfl⟩ := three hl
  obtain ⟨x, e0, _⟩ := (g 0 _ rfl).int Tryz.underlying2
  obtain ⟨y, e1, _⟩ := (g 1 _ rfl).int Tryz.underlying2
  obtain ⟨aS, n, cS, S, e2, h2, h3⟩ := seals (g 2 _ rfl)
  simp [cells_int, cells_b, cells_ss] at e0 e1 e2
  subst e0 e1 e2
  obtain rfl : S.length = n := h2.1
  exact ⟨x, y, aS, cS, S, rfl, h2, h3⟩

theorem parcels {H : Type} {enc : TypeId × Value → H} {w : World} {base : Nat} {spare : Nat → Bool} {held : Bool} {cs : List Value} (h : Reads enc Tryz.prog w base spare held 48 cs) :
    ∃ (a : Option Addr) (n cap : Nat) (ps : List QD), cs = [.slice a n cap] ∧ ParcelsAt w w.heap.size a n ps ∧ n ≤ maxLen ∧ ∀ j, j < n → (qd ps j).2.2.length ≤ maxLen := by
  rcases h.slice Tryz.underlying48 with rfl | ⟨a, n, cap, rfl, hl1, hl2, hel⟩
  · exact ⟨none, 0, 0, [], rfl, ⟨rfl, .inl rfl⟩, Nat.zero_le _, fun j hj => by omega⟩
  · have each : ∀ i, i < n → ∃ (T : QD) (aS : Option Addr) (cS : Nat), (w.cell? ((a.add (i * 3)).add 0) = some (.int .i64 T.1) ∧ w.cell? ((a.add (i * 3)).add 1) = some (.int .i64 T.2.1) ∧ w.cell? ((a.add (i * 3)).add 2) = some (.slice aS T.2.2.length cS)) ∧ Row3 w w.heap.size aS T.2.2.length T.2.2 ∧ T.2.2.length ≤ maxLen := fun i hi => by
      obtain ⟨ds, h1, h2⟩ := hel i hi
      rw [cells_parcel] at h1
      obtain ⟨x, y, aS, cS, S, e, r, m⟩ := parcel (cs := ds.toArray) (by simpa using h2)
      have e' : ds = [.int .i64 x, .int .i64 y, .slice aS S.length cS] := by simpa using congrArg Array.toList e
      subst e'
      have hc := World.cells?_some h1
      exact ⟨(x, y, S), aS, cS, ⟨hc.2.2 0 (by omega), hc.2.2 1 (by omega), hc.2.2 2 (by omega)⟩, r, m⟩
    obtain ⟨f, hf⟩ : ∃ f : Nat → QD, ∀ i, i < n → ∃ (aS : Option Addr) (cS : Nat), (w.cell? ((a.add (i * 3)).add 0) = some (.int .i64 (f i).1) ∧ w.cell? ((a.add (i * 3)).add 1) = some (.int .i64 (f i).2.1) ∧ w.cell? ((a.add (i * 3)).add 2) = some (.slice aS (f i).2.2.length cS)) ∧ Row3 w w.heap.size aS (f i).2.2.length (f i).2.2 ∧ (f i).2.2.length ≤ maxLen :=
      ⟨fun i => if hi : i < n then (each i hi).choose else q0, fun i hi => by simp only [hi, dif_pos]; exact (each i hi).choose_spec⟩
    have er : ∀ k, k < n → qd ((List.range n).map f) k = f k := fun k hk => by simp [qd, List.getD, hk]
    refine ⟨some a, n, cap, (List.range n).map f, rfl, ⟨by simp, ?_⟩, by omega, fun k hk => ?_⟩
    · by_cases h0 : n = 0
      · exact .inl h0
      · obtain ⟨b, off, spot⟩ := a
        obtain ⟨_, _, ⟨q0, _⟩, _⟩ := hf 0 (by omega)
        have hs : spot = none := by simpa [Addr.add] using World.cell?_spot q0
        subst hs
        have hb := World.block_lt_of_cell? _ _ q0
        refine .inr ⟨b, off, rfl, by simpa [Addr.add] using hb, fun k hk => ?_⟩
        obtain ⟨aS, cS, ⟨c0, c1, c2⟩, hA, _⟩ := hf k hk
        rw [add_plain, add_plain] at c0 c1 c2
        rw [er k hk]
        exact ⟨aS, cS, ⟨by simpa using c0, c1, c2⟩, hA⟩
    · obtain ⟨_, _, _, _, hF⟩ := hf k hk
      rw [er k hk]
      exact hF

theorem court {H : Type} {enc : TypeId × Value → H} {w : World} {base : Nat} {spare : Nat → Bool} {held : Bool} {cs : Array Value} (h : Reads enc Tryz.prog w base spare held 52 cs.toList) :
    ∃ (c : CD) (aK aL aP aQ aM aF : Option Addr) (cK cL cP cQ cM cF : Nat), cs = #[.int .i64 c.n, .int .i64 c.f, .int .i64 c.p, .int .i64 c.a, .int .i64 c.l, .int .i64 c.m, .slice aK c.zs.length cK, .slice aL c.bs.length cL, .slice aP c.ps.length cP, .slice aQ c.qs.length cQ, .int .i64 c.now, .slice aM c.ms.length cM, .slice aF c.fs.length cF] ∧ c.At w aK aL aP aQ aM aF ∧ c.Fit := by
  obtain ⟨hl, hf⟩ := h.struct Tryz.underlying52
  rw [cells_court] at hl
  obtain ⟨c0, c1, c2, c3, c4, c5, c6, c7, c8, c9, c10, c11, c12, rfl⟩ := thirteen hl
  obtain ⟨_, g⟩ := (hf 0 _ rfl).struct Tryz.underlying46
  obtain ⟨n, e0, _⟩ := (g 0 _ rfl).int Tryz.underlying2
  obtain ⟨f, e1, _⟩ := (g 1 _ rfl).int Tryz.underlying2
  obtain ⟨p, e2, _⟩ := (g 2 _ rfl).int Tryz.underlying2
  obtain ⟨a, e3, _⟩ := (g 3 _ rfl).int Tryz.underlying2
  obtain ⟨l, e4, _⟩ := (g 4 _ rfl).int Tryz.underlying2
  obtain ⟨m, e5, _⟩ := (g 5 _ rfl).int Tryz.underlying2
  obtain ⟨aK, nK, cK, zs, e6, hK, mK, _⟩ := (hf 1 _ rfl).ints Tryz.underlying26 Tryz.underlying2 cells_int
  obtain ⟨aL, nL, cL, bs, e7, hL, mL⟩ := (hf 2 _ rfl).bools Tryz.underlying27 Tryz.underlying4 cells_b
  obtain ⟨aP, nP, cP, ps, e8, hP, mP, mP2⟩ := peers (hf 3 _ rfl)
  obtain ⟨aQ, nQ, cQ, qs, e9, hQ, mQ, mQ2⟩ := parcels (hf 4 _ rfl)
  obtain ⟨now, e10, _⟩ := (hf 5 _ rfl).int Tryz.underlying2
  obtain ⟨aM, nM, cM, ms, e11, hM, mM⟩ := seals (hf 6 _ rfl)
  obtain ⟨aF, nF, cF, fs, e12, hF, mF⟩ := facts (hf 7 _ rfl)
  simp [cells_int, cells_si, cells_sb, cells_sp, cells_sq, cells_ss, cells_sf, cells_rule] at e0 e1 e2 e3 e4 e5 e6 e7 e8 e9 e10 e11 e12
  subst e0 e1 e2 e3 e4 e5 e6 e7 e8 e9 e10 e11 e12
  obtain rfl : zs.length = nK := hK.1
  obtain rfl : bs.length = nL := hL.1
  obtain rfl : ps.length = nP := hP.1
  obtain rfl : qs.length = nQ := hQ.1
  obtain rfl : ms.length = nM := hM.1
  obtain rfl : fs.length = nF := hF.1
  exact ⟨⟨n, f, p, a, l, m, zs, bs, ps, qs, now, ms, fs⟩, aK, aL, aP, aQ, aM, aF, cK, cL, cP, cQ, cM, cF, rfl, ⟨hK, hL, hP, hQ, hM, hF⟩, ⟨mK, mL, mP, mP2, mQ, mQ2, mM, mF⟩⟩

end Go.Proofs.YtimakfokgcnklaaGreat.Rd
