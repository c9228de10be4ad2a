/-
  The Go functions Widened of impl and of spec by one answer, at every span and int64; each writes nothing that was there ahead of it.
-/
import Derived.Test.YtgkmhbojkmmkdaaSpan
namespace Go.Proofs.Ytgkmhbojkmmkdaa.Sp
open Go.ChangeShapes Go.WideShapes Go.ChangeAt Go.RowKit
open Ad (Tm)
set_option linter.unusedVariables false

theorem i_Widened1 (lo hi by_ : Int) (w : World) (b0 : -9223372036854775808 ≤ by_) (b1 : by_ ≤ 9223372036854775807) (h1 : OK lo hi = false) :
    Calls Try.prog 12 #[span lo hi, .int .i64 by_] w fun e w' => e = .returned (.tuple #[span 0 0, .bool false]) ∧ Below w.heap.size w w' := by
  go_enter Try.func12, Try.ntmps12
  go_wp2_with (first | (go_at_call 29; refine (Ad.is _ _ b0 b1 _).mono ?_; rintro e w1 ⟨rfl, rfl⟩) | (go_at_call 30; refine (Ad.ia _ _ _).mono ?_; rintro e w1 ⟨rfl, rfl⟩))
  refine (i_ok _ _ _).mono ?_
  rintro e w2 ⟨rfl, hb2⟩
  obtain ⟨hc2, hf2⟩ := bcell hb2
  obtain ⟨z0, z1⟩ : w.heap.size < w2.heap.size ∧ w.heap.size + 1 < w2.heap.size := by have := hb2.size; simp at this; omega
  go_wp2
  have q0 : w2.cell? ⟨w.heap.size + 1, 0, none⟩ = some (.int .i64 0) := by rw [hc2 _ _ (by simp <;> omega)]; first | (simp; done) | (simp [cell_at]; done) | (simp [World.cell?_alloc_lt]; done) | simp [World.cell?_alloc_lt, cell_at]
  have q1 : w2.cell? ⟨w.heap.size + 1, 1, none⟩ = some (.int .i64 0) := by rw [hc2 _ _ (by simp <;> omega)]; first | (simp; done) | (simp [cell_at]; done) | (simp [World.cell?_alloc_lt]; done) | simp [World.cell?_alloc_lt, cell_at]
  refine bodyPost_ret (v := .tuple #[span 0 0, .bool false]) (by simp [results, Try.results12, go_sem, set_a q0, set_b q1]) rfl ⟨rfl, ?_⟩
  (repeat (first | exact Below.refl _ _ | assumption | refine Below.setCell ?_ (by first | omega | (simp <;> omega)) _ | refine Below.alloc ?_ (by first | omega | (simp <;> omega)) _ | refine Below.drew ?_ | refine below_drewN ?_ _ | refine Below.trans ?_ (Below.mono (by assumption) (by first | omega | (simp <;> omega)))))

theorem i_Widened2 (lo hi by_ : Int) (w : World) (b0 : -9223372036854775808 ≤ by_) (b1 : by_ ≤ 9223372036854775807) (h1 : OK lo hi = true) (h2 : Ad.ST lo by_ = false) :
    Calls Try.prog 12 #[span lo hi, .int .i64 by_] w fun e w' => e = .returned (.tuple #[span 0 0, .bool false]) ∧ Below w.heap.size w w' := by
  go_enter Try.func12, Try.ntmps12
  go_wp2_with (first | (go_at_call 29; refine (Ad.is _ _ b0 b1 _).mono ?_; rintro e w1 ⟨rfl, rfl⟩) | (go_at_call 30; refine (Ad.ia _ _ _).mono ?_; rintro e w1 ⟨rfl, rfl⟩))
  refine (i_ok _ _ _).mono ?_
  rintro e w2 ⟨rfl, hb2⟩
  obtain ⟨hc2, hf2⟩ := bcell hb2
  obtain ⟨z0, z1⟩ : w.heap.size < w2.heap.size ∧ w.heap.size + 1 < w2.heap.size := by have := hb2.size; simp at this; omega
  go_wp2
  have q0 : w2.cell? ⟨w.heap.size + 1, 0, none⟩ = some (.int .i64 0) := by rw [hc2 _ _ (by simp <;> omega)]; first | (simp; done) | (simp [cell_at]; done) | (simp [World.cell?_alloc_lt]; done) | simp [World.cell?_alloc_lt, cell_at]
  have q1 : w2.cell? ⟨w.heap.size + 1, 1, none⟩ = some (.int .i64 0) := by rw [hc2 _ _ (by simp <;> omega)]; first | (simp; done) | (simp [cell_at]; done) | (simp [World.cell?_alloc_lt]; done) | simp [World.cell?_alloc_lt, cell_at]
  refine bodyPost_ret (v := .tuple #[span 0 0, .bool false]) (by simp [results, Try.results12, go_sem, set_a q0, set_b q1]) rfl ⟨rfl, ?_⟩
  (repeat (first | exact Below.refl _ _ | assumption | refine Below.setCell ?_ (by first | omega | (simp <;> omega)) _ | refine Below.alloc ?_ (by first | omega | (simp <;> omega)) _ | refine Below.drew ?_ | refine below_drewN ?_ _ | refine Below.trans ?_ (Below.mono (by assumption) (by first | omega | (simp <;> omega)))))

theorem i_Widened3 (lo hi by_ : Int) (w : World) (b0 : -9223372036854775808 ≤ by_) (b1 : by_ ≤ 9223372036854775807) (h1 : OK lo hi = true) (h2 : Ad.ST lo by_ = true) (h3 : Ad.AT hi by_ = false) :
    Calls Try.prog 12 #[span lo hi, .int .i64 by_] w fun e w' => e = .returned (.tuple #[span 0 0, .bool false]) ∧ Below w.heap.size w w' := by
  go_enter Try.func12, Try.ntmps12
  go_wp2_with (first | (go_at_call 29; refine (Ad.is _ _ b0 b1 _).mono ?_; rintro e w1 ⟨rfl, rfl⟩) | (go_at_call 30; refine (Ad.ia _ _ _).mono ?_; rintro e w1 ⟨rfl, rfl⟩))
  refine (i_ok _ _ _).mono ?_
  rintro e w2 ⟨rfl, hb2⟩
  obtain ⟨hc2, hf2⟩ := bcell hb2
  obtain ⟨z0, z1⟩ : w.heap.size < w2.heap.size ∧ w.heap.size + 1 < w2.heap.size := by have := hb2.size; simp at this; omega
  go_wp2
  have q0 : w2.cell? ⟨w.heap.size + 1, 0, none⟩ = some (.int .i64 0) := by rw [hc2 _ _ (by simp <;> omega)]; first | (simp; done) | (simp [cell_at]; done) | (simp [World.cell?_alloc_lt]; done) | simp [World.cell?_alloc_lt, cell_at]
  have q1 : w2.cell? ⟨w.heap.size + 1, 1, none⟩ = some (.int .i64 0) := by rw [hc2 _ _ (by simp <;> omega)]; first | (simp; done) | (simp [cell_at]; done) | (simp [World.cell?_alloc_lt]; done) | simp [World.cell?_alloc_lt, cell_at]
  refine bodyPost_ret (v := .tuple #[span 0 0, .bool false]) (by simp [results, Try.results12, go_sem, set_a q0, set_b q1]) rfl ⟨rfl, ?_⟩
  (repeat (first | exact Below.refl _ _ | assumption | refine Below.setCell ?_ (by first | omega | (simp <;> omega)) _ | refine Below.alloc ?_ (by first | omega | (simp <;> omega)) _ | refine Below.drew ?_ | refine below_drewN ?_ _ | refine Below.trans ?_ (Below.mono (by assumption) (by first | omega | (simp <;> omega)))))

theorem i_Widened4 (lo hi by_ : Int) (w : World) (b0 : -9223372036854775808 ≤ by_) (b1 : by_ ≤ 9223372036854775807) (h1 : OK lo hi = true) (h2 : Ad.ST lo by_ = true) (h3 : Ad.AT hi by_ = true) :
    Calls Try.prog 12 #[span lo hi, .int .i64 by_] w fun e w' => e = .returned (.tuple #[span (pk (OK (Ad.SV lo by_) (Ad.AV hi by_)) (Ad.SV lo by_)) (pk (OK (Ad.SV lo by_) (Ad.AV hi by_)) (Ad.AV hi by_)), .bool (OK (Ad.SV lo by_) (Ad.AV hi by_))]) ∧ Below w.heap.size w w' := by
  go_enter Try.func12, Try.ntmps12
  go_wp2_with (first | (go_at_call 29; refine (Ad.is _ _ b0 b1 _).mono ?_; rintro e w1 ⟨rfl, rfl⟩) | (go_at_call 30; refine (Ad.ia _ _ _).mono ?_; rintro e w1 ⟨rfl, rfl⟩))
  refine (i_ok _ _ _).mono ?_
  rintro e w2 ⟨rfl, hb2⟩
  obtain ⟨hc2, hf2⟩ := bcell hb2
  obtain ⟨z0, z1⟩ : w.heap.size < w2.heap.size ∧ w.heap.size + 1 < w2.heap.size := by have := hb2.size; simp at this; omega
  go_wp2_with fail
  refine (asSpan _ _ _).mono ?_
  rintro e w3 ⟨rfl, hb3⟩
  obtain ⟨hc3, hf3⟩ := bcell hb3
  obtain ⟨y0, y1⟩ : w.heap.size < w3.heap.size ∧ w.heap.size + 1 < w3.heap.size := by have := hb3.size; omega
  go_wp2
  have q0 : w3.cell? ⟨w.heap.size + 1, 0, none⟩ = some (.int .i64 0) := by rw [hc3 _ _ z1, hc2 _ _ (by simp <;> omega)]; first | (simp; done) | (simp [cell_at]; done) | (simp [World.cell?_alloc_lt]; done) | simp [World.cell?_alloc_lt, cell_at]
  have q1 : w3.cell? ⟨w.heap.size + 1, 1, none⟩ = some (.int .i64 0) := by rw [hc3 _ _ z1, hc2 _ _ (by simp <;> omega)]; first | (simp; done) | (simp [cell_at]; done) | (simp [World.cell?_alloc_lt]; done) | simp [World.cell?_alloc_lt, cell_at]
  refine bodyPost_ret (v := .tuple #[span (pk (OK (Ad.SV lo by_) (Ad.AV hi by_)) (Ad.SV lo by_)) (pk (OK (Ad.SV lo by_) (Ad.AV hi by_)) (Ad.AV hi by_)), .bool (OK (Ad.SV lo by_) (Ad.AV hi by_))]) (by simp [results, Try.results12, go_sem, set_a q0, set_b q1]) rfl ⟨rfl, ?_⟩
  (repeat (first | exact Below.refl _ _ | assumption | refine Below.setCell ?_ (by first | omega | (simp <;> omega)) _ | refine Below.alloc ?_ (by first | omega | (simp <;> omega)) _ | refine Below.drew ?_ | refine below_drewN ?_ _ | refine Below.trans ?_ (Below.mono (by assumption) (by first | omega | (simp <;> omega)))))

theorem s_Widened1 (lo hi by_ : Int) (w : World) (b0 : -9223372036854775808 ≤ by_) (b1 : by_ ≤ 9223372036854775807) (h1 : OK lo hi = false) :
    Calls Try.prog 14 #[span lo hi, .int .i64 by_] w fun e w' => e = .returned (.tuple #[span 0 0, .bool false]) ∧ Below w.heap.size w w' := by
  go_enter Try.func14, Try.ntmps14
  go_wp2_with (first | (go_at_call 33; refine (Ad.ss _ _ b0 b1 _).mono ?_; rintro e w1 ⟨rfl, rfl⟩) | (go_at_call 34; refine (Ad.sa _ _ _).mono ?_; rintro e w1 ⟨rfl, rfl⟩))
  refine (s_SpanOk _ _ _).mono ?_
  rintro e w2 ⟨rfl, hb2⟩
  obtain ⟨hc2, hf2⟩ := bcell hb2
  obtain ⟨z0, z1, z2⟩ : w.heap.size < w2.heap.size ∧ w.heap.size + 1 < w2.heap.size ∧ w.heap.size + 1 + 1 < w2.heap.size := by have := hb2.size; simp at this; omega
  go_wp2
  have q0 : w2.cell? ⟨w.heap.size + 1, 0, none⟩ = some (.int .i64 0) := by rw [hc2 _ _ (by simp <;> omega)]; first | (simp; done) | (simp [cell_at]; done) | (simp [World.cell?_alloc_lt]; done) | simp [World.cell?_alloc_lt, cell_at]
  have q1 : w2.cell? ⟨w.heap.size + 1, 1, none⟩ = some (.int .i64 0) := by rw [hc2 _ _ (by simp <;> omega)]; first | (simp; done) | (simp [cell_at]; done) | (simp [World.cell?_alloc_lt]; done) | simp [World.cell?_alloc_lt, cell_at]
  refine bodyPost_ret (v := .tuple #[span 0 0, .bool false]) (by simp [results, Try.results14, go_sem, set_a q0, set_b q1]) rfl ⟨rfl, ?_⟩
  (repeat (first | exact Below.refl _ _ | assumption | refine Below.setCell ?_ (by first | omega | (simp <;> omega)) _ | refine Below.alloc ?_ (by first | omega | (simp <;> omega)) _ | refine Below.drew ?_ | refine below_drewN ?_ _ | refine Below.trans ?_ (Below.mono (by assumption) (by first | omega | (simp <;> omega)))))

theorem s_Widened2 (lo hi by_ : Int) (w : World) (b0 : -9223372036854775808 ≤ by_) (b1 : by_ ≤ 9223372036854775807) (h1 : OK lo hi = true) (h2 : Ad.ST lo by_ = false) :
    Calls Try.prog 14 #[span lo hi, .int .i64 by_] w fun e w' => e = .returned (.tuple #[span 0 0, .bool false]) ∧ Below w.heap.size w w' := by
  go_enter Try.func14, Try.ntmps14
  go_wp2_with (first | (go_at_call 33; refine (Ad.ss _ _ b0 b1 _).mono ?_; rintro e w1 ⟨rfl, rfl⟩) | (go_at_call 34; refine (Ad.sa _ _ _).mono ?_; rintro e w1 ⟨rfl, rfl⟩))
  refine (s_SpanOk _ _ _).mono ?_
  rintro e w2 ⟨rfl, hb2⟩
  obtain ⟨hc2, hf2⟩ := bcell hb2
  obtain ⟨z0, z1, z2⟩ : w.heap.size < w2.heap.size ∧ w.heap.size + 1 < w2.heap.size ∧ w.heap.size + 1 + 1 < w2.heap.size := by have := hb2.size; simp at this; omega
  go_wp2
  have q0 : w2.cell? ⟨w.heap.size + 1, 0, none⟩ = some (.int .i64 0) := by rw [hc2 _ _ (by simp <;> omega)]; first | (simp; done) | (simp [cell_at]; done) | (simp [World.cell?_alloc_lt]; done) | simp [World.cell?_alloc_lt, cell_at]
  have q1 : w2.cell? ⟨w.heap.size + 1, 1, none⟩ = some (.int .i64 0) := by rw [hc2 _ _ (by simp <;> omega)]; first | (simp; done) | (simp [cell_at]; done) | (simp [World.cell?_alloc_lt]; done) | simp [World.cell?_alloc_lt, cell_at]
  refine bodyPost_ret (v := .tuple #[span 0 0, .bool false]) (by simp [results, Try.results14, go_sem, set_a q0, set_b q1]) rfl ⟨rfl, ?_⟩
  (repeat (first | exact Below.refl _ _ | assumption | refine Below.setCell ?_ (by first | omega | (simp <;> omega)) _ | refine Below.alloc ?_ (by first | omega | (simp <;> omega)) _ | refine Below.drew ?_ | refine below_drewN ?_ _ | refine Below.trans ?_ (Below.mono (by assumption) (by first | omega | (simp <;> omega)))))

theorem s_Widened3 (lo hi by_ : Int) (w : World) (b0 : -9223372036854775808 ≤ by_) (b1 : by_ ≤ 9223372036854775807) (h1 : OK lo hi = true) (h2 : Ad.ST lo by_ = true) (h3 : Ad.AT hi by_ = false) :
    Calls Try.prog 14 #[span lo hi, .int .i64 by_] w fun e w' => e = .returned (.tuple #[span 0 0, .bool false]) ∧ Below w.heap.size w w' := by
  go_enter Try.func14, Try.ntmps14
  go_wp2_with (first | (go_at_call 33; refine (Ad.ss _ _ b0 b1 _).mono ?_; rintro e w1 ⟨rfl, rfl⟩) | (go_at_call 34; refine (Ad.sa _ _ _).mono ?_; rintro e w1 ⟨rfl, rfl⟩))
  refine (s_SpanOk _ _ _).mono ?_
  rintro e w2 ⟨rfl, hb2⟩
  obtain ⟨hc2, hf2⟩ := bcell hb2
  obtain ⟨z0, z1, z2⟩ : w.heap.size < w2.heap.size ∧ w.heap.size + 1 < w2.heap.size ∧ w.heap.size + 1 + 1 < w2.heap.size := by have := hb2.size; simp at this; omega
  go_wp2
  have q0 : w2.cell? ⟨w.heap.size + 1, 0, none⟩ = some (.int .i64 0) := by rw [hc2 _ _ (by simp <;> omega)]; first | (simp; done) | (simp [cell_at]; done) | (simp [World.cell?_alloc_lt]; done) | simp [World.cell?_alloc_lt, cell_at]
  have q1 : w2.cell? ⟨w.heap.size + 1, 1, none⟩ = some (.int .i64 0) := by rw [hc2 _ _ (by simp <;> omega)]; first | (simp; done) | (simp [cell_at]; done) | (simp [World.cell?_alloc_lt]; done) | simp [World.cell?_alloc_lt, cell_at]
  refine bodyPost_ret (v := .tuple #[span 0 0, .bool false]) (by simp [results, Try.results14, go_sem, set_a q0, set_b q1]) rfl ⟨rfl, ?_⟩
  (repeat (first | exact Below.refl _ _ | assumption | refine Below.setCell ?_ (by first | omega | (simp <;> omega)) _ | refine Below.alloc ?_ (by first | omega | (simp <;> omega)) _ | refine Below.drew ?_ | refine below_drewN ?_ _ | refine Below.trans ?_ (Below.mono (by assumption) (by first | omega | (simp <;> omega)))))

theorem s_Widened4 (lo hi by_ : Int) (w : World) (b0 : -9223372036854775808 ≤ by_) (b1 : by_ ≤ 9223372036854775807) (h1 : OK lo hi = true) (h2 : Ad.ST lo by_ = true) (h3 : Ad.AT hi by_ = true) (h4 : (OK (Ad.SV lo by_) (Ad.AV hi by_)) = false) :
    Calls Try.prog 14 #[span lo hi, .int .i64 by_] w fun e w' => e = .returned (.tuple #[span 0 0, .bool false]) ∧ Below w.heap.size w w' := by
  go_enter Try.func14, Try.ntmps14
  go_wp2_with (first | (go_at_call 33; refine (Ad.ss _ _ b0 b1 _).mono ?_; rintro e w1 ⟨rfl, rfl⟩) | (go_at_call 34; refine (Ad.sa _ _ _).mono ?_; rintro e w1 ⟨rfl, rfl⟩))
  refine (s_SpanOk _ _ _).mono ?_
  rintro e w2 ⟨rfl, hb2⟩
  obtain ⟨hc2, hf2⟩ := bcell hb2
  obtain ⟨z0, z1, z2⟩ : w.heap.size < w2.heap.size ∧ w.heap.size + 1 < w2.heap.size ∧ w.heap.size + 1 + 1 < w2.heap.size := by have := hb2.size; simp at this; omega
  go_wp2_with fail
  refine (s_SpanOk _ _ _).mono ?_
  rintro e w3 ⟨rfl, hb3⟩
  obtain ⟨hc3, hf3⟩ := bcell hb3
  obtain ⟨y0, y1, y2⟩ : w.heap.size < w3.heap.size ∧ w.heap.size + 1 < w3.heap.size ∧ w.heap.size + 1 + 1 < w3.heap.size := by have := hb3.size; omega
  go_wp2
  have q0 : w3.cell? ⟨w.heap.size + 1, 0, none⟩ = some (.int .i64 0) := by rw [hc3 _ _ z1, hc2 _ _ (by simp <;> omega)]; first | (simp; done) | (simp [cell_at]; done) | (simp [World.cell?_alloc_lt]; done) | simp [World.cell?_alloc_lt, cell_at]
  have q1 : w3.cell? ⟨w.heap.size + 1, 1, none⟩ = some (.int .i64 0) := by rw [hc3 _ _ z1, hc2 _ _ (by simp <;> omega)]; first | (simp; done) | (simp [cell_at]; done) | (simp [World.cell?_alloc_lt]; done) | simp [World.cell?_alloc_lt, cell_at]
  refine bodyPost_ret (v := .tuple #[span 0 0, .bool false]) (by simp [results, Try.results14, go_sem, set_a q0, set_b q1]) rfl ⟨rfl, ?_⟩
  (repeat (first | exact Below.refl _ _ | assumption | refine Below.setCell ?_ (by first | omega | (simp <;> omega)) _ | refine Below.alloc ?_ (by first | omega | (simp <;> omega)) _ | refine Below.drew ?_ | refine below_drewN ?_ _ | refine Below.trans ?_ (Below.mono (by assumption) (by first | omega | (simp <;> omega)))))

theorem s_Widened5 (lo hi by_ : Int) (w : World) (b0 : -9223372036854775808 ≤ by_) (b1 : by_ ≤ 9223372036854775807) (h1 : OK lo hi = true) (h2 : Ad.ST lo by_ = true) (h3 : Ad.AT hi by_ = true) (h4 : (OK (Ad.SV lo by_) (Ad.AV hi by_)) = true) :
    Calls Try.prog 14 #[span lo hi, .int .i64 by_] w fun e w' => e = .returned (.tuple #[span (Ad.SV lo by_) (Ad.AV hi by_), .bool true]) ∧ Below w.heap.size w w' := by
  go_enter Try.func14, Try.ntmps14
  go_wp2_with (first | (go_at_call 33; refine (Ad.ss _ _ b0 b1 _).mono ?_; rintro e w1 ⟨rfl, rfl⟩) | (go_at_call 34; refine (Ad.sa _ _ _).mono ?_; rintro e w1 ⟨rfl, rfl⟩))
  refine (s_SpanOk _ _ _).mono ?_
  rintro e w2 ⟨rfl, hb2⟩
  obtain ⟨hc2, hf2⟩ := bcell hb2
  obtain ⟨z0, z1, z2⟩ : w.heap.size < w2.heap.size ∧ w.heap.size + 1 < w2.heap.size ∧ w.heap.size + 1 + 1 < w2.heap.size := by have := hb2.size; simp at this; omega
  go_wp2_with fail
  refine (s_SpanOk _ _ _).mono ?_
  rintro e w3 ⟨rfl, hb3⟩
  obtain ⟨hc3, hf3⟩ := bcell hb3
  obtain ⟨y0, y1, y2⟩ : w.heap.size < w3.heap.size ∧ w.heap.size + 1 < w3.heap.size ∧ w.heap.size + 1 + 1 < w3.heap.size := by have := hb3.size; omega
  go_wp2
  have q0 : w3.cell? ⟨w.heap.size + 1, 0, none⟩ = some (.int .i64 0) := by rw [hc3 _ _ z1, hc2 _ _ (by simp <;> omega)]; first | (simp; done) | (simp [cell_at]; done) | (simp [World.cell?_alloc_lt]; done) | simp [World.cell?_alloc_lt, cell_at]
  have q1 : w3.cell? ⟨w.heap.size + 1, 1, none⟩ = some (.int .i64 0) := by rw [hc3 _ _ z1, hc2 _ _ (by simp <;> omega)]; first | (simp; done) | (simp [cell_at]; done) | (simp [World.cell?_alloc_lt]; done) | simp [World.cell?_alloc_lt, cell_at]
  refine bodyPost_ret (v := .tuple #[span (Ad.SV lo by_) (Ad.AV hi by_), .bool true]) (by simp [results, Try.results14, go_sem, set_a q0, set_b q1]) rfl ⟨rfl, ?_⟩
  (repeat (first | exact Below.refl _ _ | assumption | refine Below.setCell ?_ (by first | omega | (simp <;> omega)) _ | refine Below.alloc ?_ (by first | omega | (simp <;> omega)) _ | refine Below.drew ?_ | refine below_drewN ?_ _ | refine Below.trans ?_ (Below.mono (by assumption) (by first | omega | (simp <;> omega)))))

/-- A span made wider. -/
def WT (lo hi by_ : Int) : Bool := OK lo hi && Ad.ST lo by_ && Ad.AT hi by_ && OK (Ad.SV lo by_) (Ad.AV hi by_)

theorem i_Widened (lo hi by_ : Int) (w : World) (b0 : -9223372036854775808 ≤ by_) (b1 : by_ ≤ 9223372036854775807) :
    Calls Try.prog 12 #[span lo hi, .int .i64 by_] w fun e w' => e = .returned (.tuple #[span (pk (WT lo hi by_) (Ad.SV lo by_)) (pk (WT lo hi by_) (Ad.AV hi by_)), .bool (WT lo hi by_)]) ∧ Below w.heap.size w w' := by
  unfold WT
  cases h1 : OK lo hi with
  | false => exact i_Widened1 lo hi by_ w b0 b1 h1
  | true =>
    cases h2 : Ad.ST lo by_ with
    | false => exact i_Widened2 lo hi by_ w b0 b1 h1 h2
    | true =>
      cases h3 : Ad.AT hi by_ with
      | false => exact i_Widened3 lo hi by_ w b0 b1 h1 h2 h3
      | true => exact i_Widened4 lo hi by_ w b0 b1 h1 h2 h3

theorem s_Widened (lo hi by_ : Int) (w : World) (b0 : -9223372036854775808 ≤ by_) (b1 : by_ ≤ 9223372036854775807) :
    Calls Try.prog 14 #[span lo hi, .int .i64 by_] w fun e w' => e = .returned (.tuple #[span (pk (WT lo hi by_) (Ad.SV lo by_)) (pk (WT lo hi by_) (Ad.AV hi by_)), .bool (WT lo hi by_)]) ∧ Below w.heap.size w w' := by
  unfold WT
  cases h1 : OK lo hi with
  | false => exact s_Widened1 lo hi by_ w b0 b1 h1
  | true =>
    cases h2 : Ad.ST lo by_ with
    | false => exact s_Widened2 lo hi by_ w b0 b1 h1 h2
    | true =>
      cases h3 : Ad.AT hi by_ with
      | false => exact s_Widened3 lo hi by_ w b0 b1 h1 h2 h3
      | true =>
        cases h4 : OK (Ad.SV lo by_) (Ad.AV hi by_) with
        | false => exact s_Widened4 lo hi by_ w b0 b1 h1 h2 h3 h4
        | true => exact s_Widened5 lo hi by_ w b0 b1 h1 h2 h3 h4

end Go.Proofs.Ytgkmhbojkmmkdaa.Sp
