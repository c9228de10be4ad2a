/-
  The Go functions Meet of impl and of spec by one answer, at every two spans; each writes nothing that was there ahead of it.
-/
import Derived.Test.YtgkmhbojkmmkdaaSpan
namespace Go.Proofs.Ytgkmhbojkmmkdaa.Sp
open Go.ChangeShapes Go.WideShapes Go.ChangeAt Go.RowKit
open Ad (Tm)
set_option linter.unusedVariables false

theorem i_Meet1 (a b c d : Int) (w : World) (h1 : OK a b = false) :
    Calls Try.prog 11 #[span a b, span c d] w fun e w' => e = .returned (.tuple #[span 0 0, .bool false]) ∧ Below w.heap.size w w' := by
  go_enter Try.func11, Try.ntmps11
  go_wp2_with fail
  refine (i_ok _ _ _).mono ?_
  rintro e w2 ⟨rfl, hb2⟩
  obtain ⟨hc2, hf2⟩ := bcell hb2
  obtain ⟨z0, z1, z2⟩ : w.heap.size < w2.heap.size ∧ w.heap.size + 1 < w2.heap.size ∧ w.heap.size + 1 + 1 < w2.heap.size := by have := hb2.size; simp at this; omega
  go_wp2
  have q0 : w2.cell? ⟨w.heap.size + 1 + 1, 0, none⟩ = some (.int .i64 0) := by rw [hc2 _ _ (by simp <;> omega)]; first | (simp; done) | (simp [cell_at]; done) | (simp [World.cell?_alloc_lt]; done) | simp [World.cell?_alloc_lt, cell_at]
  have q1 : w2.cell? ⟨w.heap.size + 1 + 1, 1, none⟩ = some (.int .i64 0) := by rw [hc2 _ _ (by simp <;> omega)]; first | (simp; done) | (simp [cell_at]; done) | (simp [World.cell?_alloc_lt]; done) | simp [World.cell?_alloc_lt, cell_at]
  refine bodyPost_ret (v := .tuple #[span 0 0, .bool false]) (by simp [results, Try.results11, go_sem, set_a q0, set_b q1]) rfl ⟨rfl, ?_⟩
  (repeat (first | exact Below.refl _ _ | assumption | refine Below.setCell ?_ (by first | omega | (simp <;> omega)) _ | refine Below.alloc ?_ (by first | omega | (simp <;> omega)) _ | refine Below.drew ?_ | refine below_drewN ?_ _ | refine Below.trans ?_ (Below.mono (by assumption) (by first | omega | (simp <;> omega)))))

theorem i_Meet2 (a b c d : Int) (w : World) (h1 : OK a b = true) (h2 : OK c d = false) :
    Calls Try.prog 11 #[span a b, span c d] w fun e w' => e = .returned (.tuple #[span 0 0, .bool false]) ∧ Below w.heap.size w w' := by
  go_enter Try.func11, Try.ntmps11
  go_wp2_with fail
  refine (i_ok _ _ _).mono ?_
  rintro e w2 ⟨rfl, hb2⟩
  obtain ⟨hc2, hf2⟩ := bcell hb2
  obtain ⟨z0, z1, z2⟩ : w.heap.size < w2.heap.size ∧ w.heap.size + 1 < w2.heap.size ∧ w.heap.size + 1 + 1 < w2.heap.size := by have := hb2.size; simp at this; omega
  go_wp2_with fail
  refine (i_ok _ _ _).mono ?_
  rintro e w3 ⟨rfl, hb3⟩
  obtain ⟨hc3, hf3⟩ := bcell hb3
  obtain ⟨y0, y1, y2⟩ : w.heap.size < w3.heap.size ∧ w.heap.size + 1 < w3.heap.size ∧ w.heap.size + 1 + 1 < w3.heap.size := by have := hb3.size; omega
  go_wp2
  have q0 : w3.cell? ⟨w.heap.size + 1 + 1, 0, none⟩ = some (.int .i64 0) := by rw [hc3 _ _ z2, hc2 _ _ (by simp <;> omega)]; first | (simp; done) | (simp [cell_at]; done) | (simp [World.cell?_alloc_lt]; done) | simp [World.cell?_alloc_lt, cell_at]
  have q1 : w3.cell? ⟨w.heap.size + 1 + 1, 1, none⟩ = some (.int .i64 0) := by rw [hc3 _ _ z2, hc2 _ _ (by simp <;> omega)]; first | (simp; done) | (simp [cell_at]; done) | (simp [World.cell?_alloc_lt]; done) | simp [World.cell?_alloc_lt, cell_at]
  refine bodyPost_ret (v := .tuple #[span 0 0, .bool false]) (by simp [results, Try.results11, go_sem, set_a q0, set_b q1]) rfl ⟨rfl, ?_⟩
  (repeat (first | exact Below.refl _ _ | assumption | refine Below.setCell ?_ (by first | omega | (simp <;> omega)) _ | refine Below.alloc ?_ (by first | omega | (simp <;> omega)) _ | refine Below.drew ?_ | refine below_drewN ?_ _ | refine Below.trans ?_ (Below.mono (by assumption) (by first | omega | (simp <;> omega)))))

theorem i_Meet3 (a b c d : Int) (w : World) (h1 : OK a b = true) (h2 : OK c d = true) (hx : a < c) (hy : d < b) :
    Calls Try.prog 11 #[span a b, span c d] w fun e w' => e = .returned (.tuple #[span (pk true c) (pk true d), .bool true]) ∧ Below w.heap.size w w' := by
  go_enter Try.func11, Try.ntmps11
  go_wp2_with fail
  refine (i_ok _ _ _).mono ?_
  rintro e w2 ⟨rfl, hb2⟩
  obtain ⟨hc2, hf2⟩ := bcell hb2
  obtain ⟨z0, z1, z2⟩ : w.heap.size < w2.heap.size ∧ w.heap.size + 1 < w2.heap.size ∧ w.heap.size + 1 + 1 < w2.heap.size := by have := hb2.size; simp at this; omega
  go_wp2_with fail
  refine (i_ok _ _ _).mono ?_
  rintro e w3 ⟨rfl, hb3⟩
  obtain ⟨hc3, hf3⟩ := bcell hb3
  obtain ⟨y0, y1, y2⟩ : w.heap.size < w3.heap.size ∧ w.heap.size + 1 < w3.heap.size ∧ w.heap.size + 1 + 1 < w3.heap.size := by have := hb3.size; omega
  go_wp2_with fail
  refine (asSpan _ _ _).mono ?_
  rintro e w4 ⟨rfl, hb4⟩
  obtain ⟨hc4, hf4⟩ := bcell hb4
  go_wp2
  have q0 : w4.cell? ⟨w.heap.size + 1 + 1, 0, none⟩ = some (.int .i64 0) := by rw [hc4 _ _ y2, hc3 _ _ z2, hc2 _ _ (by simp <;> omega)]; first | (simp; done) | (simp [cell_at]; done) | (simp [World.cell?_alloc_lt]; done) | simp [World.cell?_alloc_lt, cell_at]
  have q1 : w4.cell? ⟨w.heap.size + 1 + 1, 1, none⟩ = some (.int .i64 0) := by rw [hc4 _ _ y2, hc3 _ _ z2, hc2 _ _ (by simp <;> omega)]; first | (simp; done) | (simp [cell_at]; done) | (simp [World.cell?_alloc_lt]; done) | simp [World.cell?_alloc_lt, cell_at]
  refine bodyPost_ret (v := .tuple #[span (pk true c) (pk true d), .bool true]) (by simp [results, Try.results11, go_sem, set_a q0, set_b q1]) rfl ⟨rfl, ?_⟩
  (repeat (first | exact Below.refl _ _ | assumption | refine Below.setCell ?_ (by first | omega | (simp <;> omega)) _ | refine Below.alloc ?_ (by first | omega | (simp <;> omega)) _ | refine Below.drew ?_ | refine below_drewN ?_ _ | refine Below.trans ?_ (Below.mono (by assumption) (by first | omega | (simp <;> omega)))))

theorem i_Meet4 (a b c d : Int) (w : World) (h1 : OK a b = true) (h2 : OK c d = true) (hx : a < c) (hy : ¬ d < b) :
    Calls Try.prog 11 #[span a b, span c d] w fun e w' => e = .returned (.tuple #[span (pk (OK c b) c) (pk (OK c b) b), .bool (OK c b)]) ∧ Below w.heap.size w w' := by
  go_enter Try.func11, Try.ntmps11
  go_wp2_with fail
  refine (i_ok _ _ _).mono ?_
  rintro e w2 ⟨rfl, hb2⟩
  obtain ⟨hc2, hf2⟩ := bcell hb2
  obtain ⟨z0, z1, z2⟩ : w.heap.size < w2.heap.size ∧ w.heap.size + 1 < w2.heap.size ∧ w.heap.size + 1 + 1 < w2.heap.size := by have := hb2.size; simp at this; omega
  go_wp2_with fail
  refine (i_ok _ _ _).mono ?_
  rintro e w3 ⟨rfl, hb3⟩
  obtain ⟨hc3, hf3⟩ := bcell hb3
  obtain ⟨y0, y1, y2⟩ : w.heap.size < w3.heap.size ∧ w.heap.size + 1 < w3.heap.size ∧ w.heap.size + 1 + 1 < w3.heap.size := by have := hb3.size; omega
  go_wp2_with fail
  refine (asSpan _ _ _).mono ?_
  rintro e w4 ⟨rfl, hb4⟩
  obtain ⟨hc4, hf4⟩ := bcell hb4
  go_wp2
  have q0 : w4.cell? ⟨w.heap.size + 1 + 1, 0, none⟩ = some (.int .i64 0) := by rw [hc4 _ _ y2, hc3 _ _ z2, hc2 _ _ (by simp <;> omega)]; first | (simp; done) | (simp [cell_at]; done) | (simp [World.cell?_alloc_lt]; done) | simp [World.cell?_alloc_lt, cell_at]
  have q1 : w4.cell? ⟨w.heap.size + 1 + 1, 1, none⟩ = some (.int .i64 0) := by rw [hc4 _ _ y2, hc3 _ _ z2, hc2 _ _ (by simp <;> omega)]; first | (simp; done) | (simp [cell_at]; done) | (simp [World.cell?_alloc_lt]; done) | simp [World.cell?_alloc_lt, cell_at]
  refine bodyPost_ret (v := .tuple #[span (pk (OK c b) c) (pk (OK c b) b), .bool (OK c b)]) (by simp [results, Try.results11, go_sem, set_a q0, set_b q1]) rfl ⟨rfl, ?_⟩
  (repeat (first | exact Below.refl _ _ | assumption | refine Below.setCell ?_ (by first | omega | (simp <;> omega)) _ | refine Below.alloc ?_ (by first | omega | (simp <;> omega)) _ | refine Below.drew ?_ | refine below_drewN ?_ _ | refine Below.trans ?_ (Below.mono (by assumption) (by first | omega | (simp <;> omega)))))

theorem i_Meet5 (a b c d : Int) (w : World) (h1 : OK a b = true) (h2 : OK c d = true) (hx : ¬ a < c) (hy : d < b) :
    Calls Try.prog 11 #[span a b, span c d] w fun e w' => e = .returned (.tuple #[span (pk (OK a d) a) (pk (OK a d) d), .bool (OK a d)]) ∧ Below w.heap.size w w' := by
  go_enter Try.func11, Try.ntmps11
  go_wp2_with fail
  refine (i_ok _ _ _).mono ?_
  rintro e w2 ⟨rfl, hb2⟩
  obtain ⟨hc2, hf2⟩ := bcell hb2
  obtain ⟨z0, z1, z2⟩ : w.heap.size < w2.heap.size ∧ w.heap.size + 1 < w2.heap.size ∧ w.heap.size + 1 + 1 < w2.heap.size := by have := hb2.size; simp at this; omega
  go_wp2_with fail
  refine (i_ok _ _ _).mono ?_
  rintro e w3 ⟨rfl, hb3⟩
  obtain ⟨hc3, hf3⟩ := bcell hb3
  obtain ⟨y0, y1, y2⟩ : w.heap.size < w3.heap.size ∧ w.heap.size + 1 < w3.heap.size ∧ w.heap.size + 1 + 1 < w3.heap.size := by have := hb3.size; omega
  go_wp2_with fail
  refine (asSpan _ _ _).mono ?_
  rintro e w4 ⟨rfl, hb4⟩
  obtain ⟨hc4, hf4⟩ := bcell hb4
  go_wp2
  have q0 : w4.cell? ⟨w.heap.size + 1 + 1, 0, none⟩ = some (.int .i64 0) := by rw [hc4 _ _ y2, hc3 _ _ z2, hc2 _ _ (by simp <;> omega)]; first | (simp; done) | (simp [cell_at]; done) | (simp [World.cell?_alloc_lt]; done) | simp [World.cell?_alloc_lt, cell_at]
  have q1 : w4.cell? ⟨w.heap.size + 1 + 1, 1, none⟩ = some (.int .i64 0) := by rw [hc4 _ _ y2, hc3 _ _ z2, hc2 _ _ (by simp <;> omega)]; first | (simp; done) | (simp [cell_at]; done) | (simp [World.cell?_alloc_lt]; done) | simp [World.cell?_alloc_lt, cell_at]
  refine bodyPost_ret (v := .tuple #[span (pk (OK a d) a) (pk (OK a d) d), .bool (OK a d)]) (by simp [results, Try.results11, go_sem, set_a q0, set_b q1]) rfl ⟨rfl, ?_⟩
  (repeat (first | exact Below.refl _ _ | assumption | refine Below.setCell ?_ (by first | omega | (simp <;> omega)) _ | refine Below.alloc ?_ (by first | omega | (simp <;> omega)) _ | refine Below.drew ?_ | refine below_drewN ?_ _ | refine Below.trans ?_ (Below.mono (by assumption) (by first | omega | (simp <;> omega)))))

theorem i_Meet6 (a b c d : Int) (w : World) (h1 : OK a b = true) (h2 : OK c d = true) (hx : ¬ a < c) (hy : ¬ d < b) :
    Calls Try.prog 11 #[span a b, span c d] w fun e w' => e = .returned (.tuple #[span (pk true a) (pk true b), .bool true]) ∧ Below w.heap.size w w' := by
  go_enter Try.func11, Try.ntmps11
  go_wp2_with fail
  refine (i_ok _ _ _).mono ?_
  rintro e w2 ⟨rfl, hb2⟩
  obtain ⟨hc2, hf2⟩ := bcell hb2
  obtain ⟨z0, z1, z2⟩ : w.heap.size < w2.heap.size ∧ w.heap.size + 1 < w2.heap.size ∧ w.heap.size + 1 + 1 < w2.heap.size := by have := hb2.size; simp at this; omega
  go_wp2_with fail
  refine (i_ok _ _ _).mono ?_
  rintro e w3 ⟨rfl, hb3⟩
  obtain ⟨hc3, hf3⟩ := bcell hb3
  obtain ⟨y0, y1, y2⟩ : w.heap.size < w3.heap.size ∧ w.heap.size + 1 < w3.heap.size ∧ w.heap.size + 1 + 1 < w3.heap.size := by have := hb3.size; omega
  go_wp2_with fail
  refine (asSpan _ _ _).mono ?_
  rintro e w4 ⟨rfl, hb4⟩
  obtain ⟨hc4, hf4⟩ := bcell hb4
  go_wp2
  have q0 : w4.cell? ⟨w.heap.size + 1 + 1, 0, none⟩ = some (.int .i64 0) := by rw [hc4 _ _ y2, hc3 _ _ z2, hc2 _ _ (by simp <;> omega)]; first | (simp; done) | (simp [cell_at]; done) | (simp [World.cell?_alloc_lt]; done) | simp [World.cell?_alloc_lt, cell_at]
  have q1 : w4.cell? ⟨w.heap.size + 1 + 1, 1, none⟩ = some (.int .i64 0) := by rw [hc4 _ _ y2, hc3 _ _ z2, hc2 _ _ (by simp <;> omega)]; first | (simp; done) | (simp [cell_at]; done) | (simp [World.cell?_alloc_lt]; done) | simp [World.cell?_alloc_lt, cell_at]
  refine bodyPost_ret (v := .tuple #[span (pk true a) (pk true b), .bool true]) (by simp [results, Try.results11, go_sem, set_a q0, set_b q1]) rfl ⟨rfl, ?_⟩
  (repeat (first | exact Below.refl _ _ | assumption | refine Below.setCell ?_ (by first | omega | (simp <;> omega)) _ | refine Below.alloc ?_ (by first | omega | (simp <;> omega)) _ | refine Below.drew ?_ | refine below_drewN ?_ _ | refine Below.trans ?_ (Below.mono (by assumption) (by first | omega | (simp <;> omega)))))

theorem third (w : World) (A B C D : Array Value) (t : TypeId) (o : Nat) : ((((w.alloc (.cells A t)).alloc (.cells B t)).alloc (.cells C t)).alloc (.cells D t)).drew.cell? ⟨w.heap.size + 1 + 1, o, none⟩ = C[o]? := by
  show ((((w.alloc (.cells A t)).alloc (.cells B t)).alloc (.cells C t)).alloc (.cells D t)).cell? ⟨w.heap.size + 1 + 1, o, none⟩ = C[o]?
  rw [World.cell?_alloc_lt _ _ _ (by simp)]
  exact cell_at _ _ _ _ _ (by simp)

set_option maxHeartbeats 1000000 in
theorem s_Meet1 (a b c d : Int) (w : World) (h1 : OK a b = false) :
    Calls Try.prog 13 #[span a b, span c d] w fun e w' => e = .returned (.tuple #[span 0 0, .bool false]) ∧ Below w.heap.size w w' := by
  go_enter Try.func13, Try.ntmps13
  go_wp2_with fail
  go_region_held3 (fun w' => w'.cell? ⟨w.heap.size, 0, none⟩ = some (.int .i64 a) ∧ w'.cell? ⟨w.heap.size, 1, none⟩ = some (.int .i64 b) ∧ w'.cell? ⟨w.heap.size + 1, 0, none⟩ = some (.int .i64 c) ∧ w'.cell? ⟨w.heap.size + 1, 1, none⟩ = some (.int .i64 d)) (go_keep) (first | (go_at_call 31; refine (l1Max _ _ _).mono ?_; rintro e w2 ⟨rfl, rfl⟩) | (go_at_call 32; refine (l1Min _ _ _).mono ?_; rintro e w2 ⟨rfl, rfl⟩))
  all_goals
    go_wp2_with fail
    refine (s_SpanOk _ _ _).mono ?_
    rintro e w2 ⟨rfl, hb2⟩
    obtain ⟨hc2, hf2⟩ := bcell hb2
    obtain ⟨z0, z1, z2, z3⟩ : w.heap.size < w2.heap.size ∧ w.heap.size + 1 < w2.heap.size ∧ w.heap.size + 1 + 1 < w2.heap.size ∧ w.heap.size + 1 + 1 + 1 < w2.heap.size := by have := hb2.size; simp at this; omega
    go_wp2
    have q0 : w2.cell? ⟨w.heap.size + 1 + 1, 0, none⟩ = some (.int .i64 0) := by rw [hc2 _ _ (by simp <;> omega)]; exact third _ _ _ _ _ _ _
    have q1 : w2.cell? ⟨w.heap.size + 1 + 1, 1, none⟩ = some (.int .i64 0) := by rw [hc2 _ _ (by simp <;> omega)]; exact third _ _ _ _ _ _ _
    refine bodyPost_ret (v := .tuple #[span 0 0, .bool false]) (by simp [results, Try.results13, go_sem, set_a q0, set_b q1]) rfl ⟨rfl, ?_⟩
    (repeat (first | exact Below.refl _ _ | assumption | refine Below.setCell ?_ (by first | omega | (simp <;> omega)) _ | refine Below.alloc ?_ (by first | omega | (simp <;> omega)) _ | refine Below.drew ?_ | refine below_drewN ?_ _ | refine Below.trans ?_ (Below.mono (by assumption) (by first | omega | (simp <;> omega)))))

set_option maxHeartbeats 1000000 in
theorem s_Meet2 (a b c d : Int) (w : World) (h1 : OK a b = true) (h2 : OK c d = false) :
    Calls Try.prog 13 #[span a b, span c d] w fun e w' => e = .returned (.tuple #[span 0 0, .bool false]) ∧ Below w.heap.size w w' := by
  go_enter Try.func13, Try.ntmps13
  go_wp2_with fail
  go_region_held3 (fun w' => w'.cell? ⟨w.heap.size, 0, none⟩ = some (.int .i64 a) ∧ w'.cell? ⟨w.heap.size, 1, none⟩ = some (.int .i64 b) ∧ w'.cell? ⟨w.heap.size + 1, 0, none⟩ = some (.int .i64 c) ∧ w'.cell? ⟨w.heap.size + 1, 1, none⟩ = some (.int .i64 d)) (go_keep) (first | (go_at_call 31; refine (l1Max _ _ _).mono ?_; rintro e w2 ⟨rfl, rfl⟩) | (go_at_call 32; refine (l1Min _ _ _).mono ?_; rintro e w2 ⟨rfl, rfl⟩))
  all_goals
    go_wp2_with fail
    refine (s_SpanOk _ _ _).mono ?_
    rintro e w2 ⟨rfl, hb2⟩
    obtain ⟨hc2, hf2⟩ := bcell hb2
    obtain ⟨z0, z1, z2, z3⟩ : w.heap.size < w2.heap.size ∧ w.heap.size + 1 < w2.heap.size ∧ w.heap.size + 1 + 1 < w2.heap.size ∧ w.heap.size + 1 + 1 + 1 < w2.heap.size := by have := hb2.size; simp at this; omega
    go_wp2_with fail
    refine (s_SpanOk _ _ _).mono ?_
    rintro e w3 ⟨rfl, hb3⟩
    obtain ⟨hc3, hf3⟩ := bcell hb3
    obtain ⟨y0, y1, y2, y3⟩ : w.heap.size < w3.heap.size ∧ w.heap.size + 1 < w3.heap.size ∧ w.heap.size + 1 + 1 < w3.heap.size ∧ w.heap.size + 1 + 1 + 1 < w3.heap.size := by have := hb3.size; omega
    go_wp2
    have q0 : w3.cell? ⟨w.heap.size + 1 + 1, 0, none⟩ = some (.int .i64 0) := by rw [hc3 _ _ z2, hc2 _ _ (by simp <;> omega)]; exact third _ _ _ _ _ _ _
    have q1 : w3.cell? ⟨w.heap.size + 1 + 1, 1, none⟩ = some (.int .i64 0) := by rw [hc3 _ _ z2, hc2 _ _ (by simp <;> omega)]; exact third _ _ _ _ _ _ _
    refine bodyPost_ret (v := .tuple #[span 0 0, .bool false]) (by simp [results, Try.results13, go_sem, set_a q0, set_b q1]) rfl ⟨rfl, ?_⟩
    (repeat (first | exact Below.refl _ _ | assumption | refine Below.setCell ?_ (by first | omega | (simp <;> omega)) _ | refine Below.alloc ?_ (by first | omega | (simp <;> omega)) _ | refine Below.drew ?_ | refine below_drewN ?_ _ | refine Below.trans ?_ (Below.mono (by assumption) (by first | omega | (simp <;> omega)))))

set_option maxHeartbeats 1000000 in
theorem s_Meet3 (a b c d : Int) (w : World) (h1 : OK a b = true) (h2 : OK c d = true) (h3 : OK (max a c) (min b d) = false) :
    Calls Try.prog 13 #[span a b, span c d] w fun e w' => e = .returned (.tuple #[span 0 0, .bool false]) ∧ Below w.heap.size w w' := by
  go_enter Try.func13, Try.ntmps13
  go_wp2_with fail
  go_region_held3 (fun w' => w'.cell? ⟨w.heap.size, 0, none⟩ = some (.int .i64 a) ∧ w'.cell? ⟨w.heap.size, 1, none⟩ = some (.int .i64 b) ∧ w'.cell? ⟨w.heap.size + 1, 0, none⟩ = some (.int .i64 c) ∧ w'.cell? ⟨w.heap.size + 1, 1, none⟩ = some (.int .i64 d)) (go_keep) (first | (go_at_call 31; refine (l1Max _ _ _).mono ?_; rintro e w2 ⟨rfl, rfl⟩) | (go_at_call 32; refine (l1Min _ _ _).mono ?_; rintro e w2 ⟨rfl, rfl⟩))
  all_goals
    go_wp2_with fail
    refine (s_SpanOk _ _ _).mono ?_
    rintro e w2 ⟨rfl, hb2⟩
    obtain ⟨hc2, hf2⟩ := bcell hb2
    obtain ⟨z0, z1, z2, z3⟩ : w.heap.size < w2.heap.size ∧ w.heap.size + 1 < w2.heap.size ∧ w.heap.size + 1 + 1 < w2.heap.size ∧ w.heap.size + 1 + 1 + 1 < w2.heap.size := by have := hb2.size; simp at this; omega
    go_wp2_with fail
    refine (s_SpanOk _ _ _).mono ?_
    rintro e w3 ⟨rfl, hb3⟩
    obtain ⟨hc3, hf3⟩ := bcell hb3
    obtain ⟨y0, y1, y2, y3⟩ : w.heap.size < w3.heap.size ∧ w.heap.size + 1 < w3.heap.size ∧ w.heap.size + 1 + 1 < w3.heap.size ∧ w.heap.size + 1 + 1 + 1 < w3.heap.size := by have := hb3.size; omega
    go_wp2_with fail
    refine (s_SpanOk _ _ _).mono ?_
    rintro e w4 ⟨rfl, hb4⟩
    obtain ⟨hc4, hf4⟩ := bcell hb4
    obtain ⟨x0, x1, x2, x3⟩ : w.heap.size < w4.heap.size ∧ w.heap.size + 1 < w4.heap.size ∧ w.heap.size + 1 + 1 < w4.heap.size ∧ w.heap.size + 1 + 1 + 1 < w4.heap.size := by have := hb4.size; omega
    go_wp2
    have q0 : w4.cell? ⟨w.heap.size + 1 + 1, 0, none⟩ = some (.int .i64 0) := by rw [hc4 _ _ y2, hc3 _ _ z2, hc2 _ _ (by simp <;> omega)]; exact third _ _ _ _ _ _ _
    have q1 : w4.cell? ⟨w.heap.size + 1 + 1, 1, none⟩ = some (.int .i64 0) := by rw [hc4 _ _ y2, hc3 _ _ z2, hc2 _ _ (by simp <;> omega)]; exact third _ _ _ _ _ _ _
    refine bodyPost_ret (v := .tuple #[span 0 0, .bool false]) (by simp [results, Try.results13, go_sem, set_a q0, set_b q1]) rfl ⟨rfl, ?_⟩
    (repeat (first | exact Below.refl _ _ | assumption | refine Below.setCell ?_ (by first | omega | (simp <;> omega)) _ | refine Below.alloc ?_ (by first | omega | (simp <;> omega)) _ | refine Below.drew ?_ | refine below_drewN ?_ _ | refine Below.trans ?_ (Below.mono (by assumption) (by first | omega | (simp <;> omega)))))

set_option maxHeartbeats 1000000 in
theorem s_Meet4 (a b c d : Int) (w : World) (h1 : OK a b = true) (h2 : OK c d = true) (h3 : OK (max a c) (min b d) = true) :
    Calls Try.prog 13 #[span a b, span c d] w fun e w' => e = .returned (.tuple #[span (max a c) (min b d), .bool true]) ∧ Below w.heap.size w w' := by
  go_enter Try.func13, Try.ntmps13
  go_wp2_with fail
  go_region_held3 (fun w' => w'.cell? ⟨w.heap.size, 0, none⟩ = some (.int .i64 a) ∧ w'.cell? ⟨w.heap.size, 1, none⟩ = some (.int .i64 b) ∧ w'.cell? ⟨w.heap.size + 1, 0, none⟩ = some (.int .i64 c) ∧ w'.cell? ⟨w.heap.size + 1, 1, none⟩ = some (.int .i64 d)) (go_keep) (first | (go_at_call 31; refine (l1Max _ _ _).mono ?_; rintro e w2 ⟨rfl, rfl⟩) | (go_at_call 32; refine (l1Min _ _ _).mono ?_; rintro e w2 ⟨rfl, rfl⟩))
  all_goals
    go_wp2_with fail
    refine (s_SpanOk _ _ _).mono ?_
    rintro e w2 ⟨rfl, hb2⟩
    obtain ⟨hc2, hf2⟩ := bcell hb2
    obtain ⟨z0, z1, z2, z3⟩ : w.heap.size < w2.heap.size ∧ w.heap.size + 1 < w2.heap.size ∧ w.heap.size + 1 + 1 < w2.heap.size ∧ w.heap.size + 1 + 1 + 1 < w2.heap.size := by have := hb2.size; simp at this; omega
    go_wp2_with fail
    refine (s_SpanOk _ _ _).mono ?_
    rintro e w3 ⟨rfl, hb3⟩
    obtain ⟨hc3, hf3⟩ := bcell hb3
    obtain ⟨y0, y1, y2, y3⟩ : w.heap.size < w3.heap.size ∧ w.heap.size + 1 < w3.heap.size ∧ w.heap.size + 1 + 1 < w3.heap.size ∧ w.heap.size + 1 + 1 + 1 < w3.heap.size := by have := hb3.size; omega
    go_wp2_with fail
    refine (s_SpanOk _ _ _).mono ?_
    rintro e w4 ⟨rfl, hb4⟩
    obtain ⟨hc4, hf4⟩ := bcell hb4
    obtain ⟨x0, x1, x2, x3⟩ : w.heap.size < w4.heap.size ∧ w.heap.size + 1 < w4.heap.size ∧ w.heap.size + 1 + 1 < w4.heap.size ∧ w.heap.size + 1 + 1 + 1 < w4.heap.size := by have := hb4.size; omega
    go_wp2
    have q0 : w4.cell? ⟨w.heap.size + 1 + 1, 0, none⟩ = some (.int .i64 0) := by rw [hc4 _ _ y2, hc3 _ _ z2, hc2 _ _ (by simp <;> omega)]; exact third _ _ _ _ _ _ _
    have q1 : w4.cell? ⟨w.heap.size + 1 + 1, 1, none⟩ = some (.int .i64 0) := by rw [hc4 _ _ y2, hc3 _ _ z2, hc2 _ _ (by simp <;> omega)]; exact third _ _ _ _ _ _ _
    refine bodyPost_ret (v := .tuple #[span (max a c) (min b d), .bool true]) (by simp [results, Try.results13, go_sem, set_a q0, set_b q1]) rfl ⟨rfl, ?_⟩
    (repeat (first | exact Below.refl _ _ | assumption | refine Below.setCell ?_ (by first | omega | (simp <;> omega)) _ | refine Below.alloc ?_ (by first | omega | (simp <;> omega)) _ | refine Below.drew ?_ | refine below_drewN ?_ _ | refine Below.trans ?_ (Below.mono (by assumption) (by first | omega | (simp <;> omega)))))

/-- What two spans have in common. -/
def MT (a b c d : Int) : Bool := OK a b && OK c d && OK (max a c) (min b d)

theorem i_Meet (a b c d : Int) (w : World) :
    Calls Try.prog 11 #[span a b, span c d] w fun e w' => e = .returned (.tuple #[span (pk (MT a b c d) (max a c)) (pk (MT a b c d) (min b d)), .bool (MT a b c d)]) ∧ Below w.heap.size w w' := by
  unfold MT
  cases h1 : OK a b with
  | false => exact i_Meet1 a b c d w h1
  | true =>
    cases h2 : OK c d with
    | false => exact i_Meet2 a b c d w h1 h2
    | true =>
      by_cases hx : a < c
      · rw [show max a c = c by omega]
        by_cases hy : d < b
        · rw [show min b d = d by omega, h2]; exact i_Meet3 a b c d w h1 h2 hx hy
        · rw [show min b d = b by omega]; exact i_Meet4 a b c d w h1 h2 hx hy
      · rw [show max a c = a by omega]
        by_cases hy : d < b
        · rw [show min b d = d by omega]; exact i_Meet5 a b c d w h1 h2 hx hy
        · rw [show min b d = b by omega, h1]; exact i_Meet6 a b c d w h1 h2 hx hy

theorem s_Meet (a b c d : Int) (w : World) :
    Calls Try.prog 13 #[span a b, span c d] w fun e w' => e = .returned (.tuple #[span (pk (MT a b c d) (max a c)) (pk (MT a b c d) (min b d)), .bool (MT a b c d)]) ∧ Below w.heap.size w w' := by
  unfold MT
  cases h1 : OK a b with
  | false => exact s_Meet1 a b c d w h1
  | true =>
    cases h2 : OK c d with
    | false => exact s_Meet2 a b c d w h1 h2
    | true =>
      cases h3 : OK (max a c) (min b d) with
      | false => exact s_Meet3 a b c d w h1 h2 h3
      | true => exact s_Meet4 a b c d w h1 h2 h3

end Go.Proofs.Ytgkmhbojkmmkdaa.Sp
