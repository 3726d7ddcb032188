/- KM1, KM2 as one. -/
import Derived.Test.YtchbnkepmeelkaaGreatDoorPI
import Derived.Test.YtchbnkepmeelkaaGreatDoorPJ
/- Things within parentheses. -/
namespace Go.Proofs.YtchbnkepmeelkaaGreatDoor
open Go.RowKit

theorem Ex.At.up {W : World} {x : Ex} {b o N M : Nat} (h : x.At W N b o) (hM : N ≤ M) : x.At W M b o := by
  obtain ⟨op, wd, nm, ar⟩ := x
  obtain ⟨h1, q, c, h2, h3⟩ := h
  exact ⟨h1, q, c, h2, Exs.In.up h3 hM⟩
set_option maxRecDepth 100000 in
set_option maxHeartbeats 3200000 in
theorem paren_exprs (n : Nat) (p : Pp) (k d : Nat) (w : World) (h : Ps w p.pb p.tb p.tf p.tc p.ts k d) (hk : k < p.ts.length) (hE : Ends p.ts) (hsm : p.ts.length ≤ 100000) (HX : ExprC p n d) (hsh : Shr (exprP n)) :
    Calls Tryz.prog 229 #[.pointer (some ⟨p.pb, 0, none⟩), .func (.func 100) #[.pointer (some ⟨p.pb, 0, none⟩)] #[]] w (Post (RRow (fun W N => Ex.At W N) 4) (parenP (exprP n) (p.ts.drop k)) p d w) := by
  have hpb := h.lt_pb
  have UP := Lib.hid (fun (W : World) (x : Ex) (b o : Nat) {N M : Nat} (h : x.At W N b o) (hM : N ≤ M) => Ex.At.up h hM)
  have CW := Lib.hid (fun (k : Nat) (w : World) (h : Ps w p.pb p.tb p.tf p.tc p.ts k d) (hk : k < p.ts.length) => want_p [40] p k d w h hk hE (by decide))
  have CE := Lib.hid (fun (k : Nat) (w : World) (h : Ps w p.pb p.tb p.tf p.tc p.ts k d) (hk : k < p.ts.length) => want_p [41] p k d w h hk hE (by decide))
  have CI := Lib.hid (fun (k : Nat) (w : World) (h : Ps w p.pb p.tb p.tf p.tc p.ts k d) (hk : k < p.ts.length) => is_p [41] p k d w h hk)
  have CL := Lib.hid (fun (k : Nat) (w : World) (h : Ps w p.pb p.tb p.tf p.tc p.ts k d) (hk : k < p.ts.length) => list_exprs n p k d w h hk hE hsm HX hsh)
  have BB := Lib.hid (But.refl p.pb w)
  have SS := Lib.hid (And.intro h hk)
  have PB := Lib.hid hpb
  clear h hk hE hpb
  generalize hG : (parenP (exprP n) (p.ts.drop k)) = G
  unfold parenP at hG
  have HG := Lib.hid hG
  clear hG
  go_enter Tryz.func229, Tryz.ntmps229
  go_wp2_with fail
  refine (CW.out k w SS.out.1 SS.out.2).mono ?_
  intro z w1 hc
  rcases hc with ⟨k1, a1, s1, hr, hkk, hp, hb, hz, hR⟩ | ⟨k1, e1, t1, hr, hp, hb, hz⟩
  rotate_left
  · subst hz
    have HN := Lib.hid (show Post (RRow (fun W N => Ex.At W N) 4) G p d w (WrongIs (e1 : Int) t1) w1 from .no k1 e1 t1 (by rw [← HG.out]; simp only [hr, Res.bind_no]) hp (BB.out.trans hb) rfl)
    clear hr hp hb
    unfold WrongIs
    go_wp2_with fail
    exact ⟨rfl, HN.out⟩
  obtain rfl : z = .returned (.tuple #[]) := hz
  have R1 := Lib.hid hr
  replace SS := Lib.hid (And.intro hp hkk)
  replace BB := Lib.hid (BB.out.trans hb)
  clear hr hkk hp hb hR
  have HI := Lib.hid (CI.out k1 w1 SS.out.1 SS.out.2)
  rcases Classical.em ((hdT (p.ts.drop k1)).text = [41]) with ht | ht
  · have Hht := Lib.hid ht
    rw [decide_eq_true ht] at HI
    clear ht
    go_wp2_with fail
    refine (HI.out).mono ?_
    rintro z w2 ⟨rfl, hBX⟩
    replace SS := Lib.hid (And.intro (SS.out.1.later hBX) SS.out.2)
    replace BB := Lib.hid (BB.out.trans (But.of_below hBX))
    clear hBX
    go_wp2_with fail
    refine (CE.out k1 w2 SS.out.1 SS.out.2).mono ?_
    intro z w3 hc
    rcases hc with ⟨k3, a3, s3, hr, hkk, hp, hb, hz, hR⟩ | ⟨k3, e3, t3, hr, hp, hb, hz⟩
    rotate_left
    · subst hz
      have HN := Lib.hid (show Post (RRow (fun W N => Ex.At W N) 4) G p d w (WrongIs (e3 : Int) t3) w3 from .no k3 e3 t3 (by rw [← HG.out]; simp only [R1.out, if_pos Hht.out, hr, Res.bind_ok, Res.bind_no]) hp (BB.out.trans hb) rfl)
      clear hr hp hb
      unfold WrongIs
      go_wp2_with fail
      exact ⟨rfl, HN.out⟩
    obtain rfl : z = .returned (.tuple #[]) := hz
    have R3 := Lib.hid hr
    replace SS := Lib.hid (And.intro hp hkk)
    replace BB := Lib.hid (BB.out.trans hb)
    clear hr hkk hp hb hR
    go_wp2_with fail
    go_ret
    exact .ok k3 [] (none, 0) (by rw [← HG.out]; simp only [R1.out, R3.out, if_pos Hht.out, Res.bind_ok]) SS.out.2 SS.out.1 BB.out rfl (fun W _ => ⟨Nat.le_refl _, Nat.zero_le _, .inl rfl⟩)
  · have Hht := Lib.hid ht
    rw [decide_eq_false ht] at HI
    clear ht
    go_wp2_with fail
    refine (HI.out).mono ?_
    rintro z w2 ⟨rfl, hBX⟩
    replace SS := Lib.hid (And.intro (SS.out.1.later hBX) SS.out.2)
    replace BB := Lib.hid (BB.out.trans (But.of_below hBX))
    clear hBX
    go_wp2_with fail
    refine (CL.out k1 w2 SS.out.1 SS.out.2).mono ?_
    intro z w3 hc
    rcases hc with ⟨k3, a3, s3, hr, hkk, hp, hb, hz, hR⟩ | ⟨k3, e3, t3, hr, hp, hb, hz⟩
    rotate_left
    · subst hz
      have HN := Lib.hid (show Post (RRow (fun W N => Ex.At W N) 4) G p d w (WrongIs (e3 : Int) t3) w3 from .no k3 e3 t3 (by rw [← HG.out]; simp only [R1.out, if_neg Hht.out, hr, Res.bind_ok, Res.bind_no]) hp (BB.out.trans hb) rfl)
      clear hr hp hb
      unfold WrongIs
      go_wp2_with fail
      exact ⟨rfl, HN.out⟩
    obtain ⟨qa3, ca3⟩ := s3
    obtain rfl : z = .returned (.slice qa3 a3.length ca3) := hz
    have Fa3 := Lib.hid (show Fresh w2.heap.size w3.heap.size w3 (fun W N => (RRow (fun W N => Ex.At W N) 4).ok W N a3 (qa3, ca3)) from hR)
    have Ga3 := Lib.hid SS.out.1.lt_pb
    have Za3 := Lib.hid (Nat.le_refl w3.heap.size)
    have Ya3 := Lib.hid (show w.heap.size ≤ w2.heap.size from BB.out.size)
    have R3 := Lib.hid hr
    replace SS := Lib.hid (And.intro hp hkk)
    replace BB := Lib.hid (BB.out.trans hb)
    clear hr hkk hp hb hR
    go_wp2_with fail
    refine (CE.out k3 w3 SS.out.1 SS.out.2).mono ?_
    intro z w4 hc
    rcases hc with ⟨k4, a4, s4, hr, hkk, hp, hb, hz, hR⟩ | ⟨k4, e4, t4, hr, hp, hb, hz⟩
    rotate_left
    · subst hz
      have HN := Lib.hid (show Post (RRow (fun W N => Ex.At W N) 4) G p d w (WrongIs (e4 : Int) t4) w4 from .no k4 e4 t4 (by rw [← HG.out]; simp only [R1.out, R3.out, if_neg Hht.out, hr, Res.bind_ok, Res.bind_no]) hp (BB.out.trans hb) rfl)
      clear hr hp hb
      unfold WrongIs
      go_wp2_with fail
      exact ⟨rfl, HN.out⟩
    replace Fa3 := Lib.hid (Fa3.out.but hb Ga3.out Za3.out)
    replace Za3 := Lib.hid (Nat.le_trans Za3.out hb.size)
    replace Ya3 := Lib.hid Ya3.out
    obtain rfl : z = .returned (.tuple #[]) := hz
    have R4 := Lib.hid hr
    replace SS := Lib.hid (And.intro hp hkk)
    replace BB := Lib.hid (BB.out.trans hb)
    clear hr hkk hp hb hR
    go_wp2_with fail
    go_ret
    exact .ok k4 a3 (qa3, ca3) (by rw [← HG.out]; simp only [R1.out, R3.out, R4.out, if_neg Hht.out, Res.bind_ok]) SS.out.2 SS.out.1 BB.out rfl (Fa3.out.fin Ya3.out Za3.out (fun W h => ⟨h.1, h.2.imp Za3.out (fun x b o _ ha => UP.out W x b o ha Za3.out)⟩))
end Go.Proofs.YtchbnkepmeelkaaGreatDoor
/- A branch. -/
namespace Go.Proofs.YtchbnkepmeelkaaGreatDoor
open Go.RowKit

def branchP (n : Nat) (l : List Tok) : Res St := (exprP n l).bind fun e r => (blockP (stmtP n) r).bind fun b r => if (hdT r).text = wElse then (blockP (stmtP n) r.tail).bind fun x r => .ok (St.mk 3 [] [] e Z0 .nil 0 0 b x) r else .ok (St.mk 3 [] [] e Z0 .nil 0 0 b .nil) r
set_option maxRecDepth 100000 in
set_option maxHeartbeats 3200000 in
theorem branch_p (n : Nat) (p : Pp) (k d : Nat) (w : World) (h : Ps w p.pb p.tb p.tf p.tc p.ts k d) (hk : k < p.ts.length) (hE : Ends p.ts) (HX : ExprC p n d) (HB : BlockC p n d) :
    Calls Tryz.prog 171 #[.pointer (some ⟨p.pb, 0, none⟩)] w (Post RStmt (branchP n (p.ts.drop k)) p d w) := by
  have hpb := h.lt_pb
  have CX := Lib.hid (HX)
  have CB := Lib.hid (HB)
  have CY := Lib.hid (fun (k : Nat) (w : World) (h : Ps w p.pb p.tb p.tf p.tc p.ts k d) (hk : k < p.ts.length) (hs : (hdT (p.ts.drop k)).text = wElse) => And.intro (take_yes wElse p k d w h hk hs) (hd_next hE hk (.inl (by rw [hs]; decide))))
  have CN := Lib.hid (fun (k : Nat) (w : World) (h : Ps w p.pb p.tb p.tf p.tc p.ts k d) (hk : k < p.ts.length) (hs : (hdT (p.ts.drop k)).text ≠ wElse) => take_no wElse p k d w h hk hs)
  obtain ⟨W0, hW0⟩ : ∃ W0, w.alloc (.cells #[.int .i64 0, .string ⟨#[]⟩, .slice none 0 0, .int .i64 0, .int .u64 0, .string ⟨#[]⟩, .slice none 0 0, .int .i64 0, .int .u64 0, .string ⟨#[]⟩, .slice none 0 0, .slice none 0 0, .int .u64 0, .int .u64 0, .slice none 0 0, .slice none 0 0] 69) = W0 := ⟨_, rfl⟩
  have hB0 : Below w.heap.size w W0 := by rw [← hW0]; exact (Below.refl _ _).alloc (Nat.le_refl _) _
  have Kr := Lib.hid (show W0.heap[w.heap.size]? = some (.cells #[.int .i64 0, .string ⟨#[]⟩, .slice none 0 0, .int .i64 0, .int .u64 0, .string ⟨#[]⟩, .slice none 0 0, .int .i64 0, .int .u64 0, .string ⟨#[]⟩, .slice none 0 0, .slice none 0 0, .int .u64 0, .int .u64 0, .slice none 0 0, .slice none 0 0] 69 (0, 0)) by rw [← hW0]; exact heap_alloc_new w _)
  have Nr := Lib.hid (Nat.ne_of_gt hpb)
  have Nr2 := Lib.hid (Nat.ne_of_gt h.lt)
  have BB := Lib.hid (But.of_below (g := p.pb) hB0)
  have SS := Lib.hid (And.intro (h.later hB0) hk)
  clear hB0
  have PB := Lib.hid hpb
  clear h hk hE hpb
  generalize hG : (branchP n (p.ts.drop k)) = G
  unfold branchP at hG
  have HG := Lib.hid hG
  clear hG
  go_enter Tryz.func171, Tryz.ntmps171
  go_wp2_with fail
  try rw [hW0]
  clear hW0
  have Va1 := Lib.hid (show w.heap.size < W0.heap.size from (Array.getElem?_eq_some_iff.1 Kr.out).1)
  refine (CX.out k W0 SS.out.1 SS.out.2).mono ?_
  intro z w1 hc
  rcases hc with ⟨k1, a1, s1, hr, hkk, hp, hb, hz, hR⟩ | ⟨k1, e1, t1, hr, hp, hb, hz⟩
  rotate_left
  · subst hz
    have HN := Lib.hid (show Post RStmt G p d w (WrongIs (e1 : Int) t1) w1 from .no k1 e1 t1 (by rw [← HG.out]; simp only [hr, Res.bind_no]) hp (BB.out.trans hb) rfl)
    clear hr hp hb
    unfold WrongIs
    go_wp2_with fail
    exact ⟨rfl, HN.out⟩
  replace Kr := Lib.hid ((hb.block _ (Array.getElem?_eq_some_iff.1 Kr.out).1 Nr.out).trans Kr.out)
  obtain ⟨qa1, ca1⟩ := s1
  obtain rfl : z = .returned (.agg #[.int .i64 a1.op, .int .u64 (a1.word : Int), .string (str a1.name), .slice qa1 a1.args.len ca1]) := hz
  have Fa1 := Lib.hid (show Fresh W0.heap.size w1.heap.size w1 (fun W N => a1.Ok W N qa1) from hR)
  have Ga1 := Lib.hid SS.out.1.lt_pb
  have Za1 := Lib.hid (Nat.le_refl w1.heap.size)
  have Ya1 := Lib.hid (show w.heap.size ≤ W0.heap.size from BB.out.size)
  have R1 := Lib.hid hr
  replace SS := Lib.hid (And.intro hp hkk)
  replace BB := Lib.hid (BB.out.trans hb)
  clear hr hkk hp hb hR
  obtain ⟨Ae, hAe⟩ : ∃ A, w1.alloc (.cells #[.int .i64 3, .string ⟨#[]⟩, .slice none 0 0, .int .i64 a1.op, .int .u64 (a1.word : Int), .string (str a1.name), .slice qa1 a1.args.len ca1, .int .i64 0, .int .u64 0, .string ⟨#[]⟩, .slice none 0 0, .slice none 0 0, .int .u64 0, .int .u64 0, .slice none 0 0, .slice none 0 0] 69) = A := ⟨_, rfl⟩
  have VV := Lib.hid (show w.heap.size < w1.heap.size from (Array.getElem?_eq_some_iff.1 Kr.out).1)
  have Xa1 := Lib.hid Za1.out
  have hBA : Below w1.heap.size w1 Ae := by rw [← hAe]; exact (Below.refl _ _).alloc (Nat.le_refl _) _
  replace Kr := Lib.hid ((hBA.block _ (Array.getElem?_eq_some_iff.1 Kr.out).1).trans Kr.out)
  replace Fa1 := Lib.hid (Fa1.out.bel hBA Za1.out)
  replace Za1 := Lib.hid (Nat.le_trans Za1.out hBA.size)
  replace Ya1 := Lib.hid Ya1.out
  have Ke := Lib.hid (show Ae.heap[w1.heap.size]? = some (.cells #[.int .i64 3, .string ⟨#[]⟩, .slice none 0 0, .int .i64 a1.op, .int .u64 (a1.word : Int), .string (str a1.name), .slice qa1 a1.args.len ca1, .int .i64 0, .int .u64 0, .string ⟨#[]⟩, .slice none 0 0, .slice none 0 0, .int .u64 0, .int .u64 0, .slice none 0 0, .slice none 0 0] 69 (0, 0)) by rw [← hAe]; exact heap_alloc_new w1 _)
  have Ne := Lib.hid (Nat.ne_of_gt SS.out.1.lt_pb)
  have Te := Lib.hid (Nat.ne_of_gt SS.out.1.lt)
  have Uea1 := Lib.hid (show _ ≤ w1.heap.size from Xa1.out)
  have Me := Lib.hid (show w.heap.size ≤ w1.heap.size from BB.out.size)
  have Ve := Lib.hid (show w.heap.size < w1.heap.size from VV.out)
  replace SS := Lib.hid (And.intro (SS.out.1.later hBA) SS.out.2)
  replace BB := Lib.hid (BB.out.trans (But.of_below hBA))
  clear hBA
  have HAe := Lib.hid hAe
  clear hAe
  go_wp2_with (refine wpl_store_new rfl 69 _ _ rfl _ _ _ rfl rfl rfl infoSt rfl ?_)
  rw [HAe.out]
  clear HAe
  have Va2 := Lib.hid (show w.heap.size < Ae.heap.size from (Array.getElem?_eq_some_iff.1 Kr.out).1)
  have Uea2 := Lib.hid (show w1.heap.size < Ae.heap.size from (Array.getElem?_eq_some_iff.1 Ke.out).1)
  refine (CB.out k1 Ae SS.out.1 SS.out.2).mono ?_
  intro z w2 hc
  rcases hc with ⟨k2, a2, s2, hr, hkk, hp, hb, hz, hR⟩ | ⟨k2, e2, t2, hr, hp, hb, hz⟩
  rotate_left
  · subst hz
    have HN := Lib.hid (show Post RStmt G p d w (WrongIs (e2 : Int) t2) w2 from .no k2 e2 t2 (by rw [← HG.out]; simp only [R1.out, hr, Res.bind_ok, Res.bind_no]) hp (BB.out.trans hb) rfl)
    clear hr hp hb
    unfold WrongIs
    go_wp2_with fail
    exact ⟨rfl, HN.out⟩
  replace Kr := Lib.hid ((hb.block _ (Array.getElem?_eq_some_iff.1 Kr.out).1 Nr.out).trans Kr.out)
  replace Ke := Lib.hid ((hb.block _ (Array.getElem?_eq_some_iff.1 Ke.out).1 Ne.out).trans Ke.out)
  replace Fa1 := Lib.hid (Fa1.out.but hb Ga1.out Za1.out)
  replace Za1 := Lib.hid (Nat.le_trans Za1.out hb.size)
  replace Ya1 := Lib.hid Ya1.out
  obtain ⟨qa2, ca2⟩ := s2
  obtain rfl : z = .returned (.slice qa2 a2.len ca2) := hz
  have Fa2 := Lib.hid (show Fresh Ae.heap.size w2.heap.size w2 (fun W N => a2.In W N qa2) from hR)
  have Ga2 := Lib.hid SS.out.1.lt_pb
  have Za2 := Lib.hid (Nat.le_refl w2.heap.size)
  have Ya2 := Lib.hid (show w.heap.size ≤ Ae.heap.size from BB.out.size)
  have R2 := Lib.hid hr
  replace SS := Lib.hid (And.intro hp hkk)
  replace BB := Lib.hid (BB.out.trans hb)
  clear hr hkk hp hb hR
  have u3 := cell_blk Ke.out (j := 14) rfl
  have v3 : w2.frozen? ⟨w1.heap.size, 14, none⟩ = false := by simp [World.frozen?, Ke.out]
  obtain ⟨E3, hE3⟩ : ∃ E, w2.setCell ⟨w1.heap.size, 14, none⟩ (.slice qa2 a2.len ca2) = E := ⟨_, rfl⟩
  have hEo : ∀ j, j ≠ w1.heap.size → E3.heap[j]? = w2.heap[j]? := fun j hj => by rw [← hE3]; exact Below.heap_setCell w2 _ _ _ hj
  have hEz : E3.heap.size = w2.heap.size := by rw [← hE3]; simp [World.setCell]
  have hEk : E3.heap[w1.heap.size]? = some (.cells #[.int .i64 3, .string ⟨#[]⟩, .slice none 0 0, .int .i64 a1.op, .int .u64 (a1.word : Int), .string (str a1.name), .slice qa1 a1.args.len ca1, .int .i64 0, .int .u64 0, .string ⟨#[]⟩, .slice none 0 0, .slice none 0 0, .int .u64 0, .int .u64 0, .slice qa2 a2.len ca2, .slice none 0 0] 69 (0, 0)) := by rw [← hE3, setCell_eq_setRow _ _ _ _ 69 (0, 0) _ Ke.out]; exact setRow_heap _ _ _ _ 69 (0, 0) Ke.out
  replace Kr := Lib.hid ((hEo _ (Nat.ne_of_lt Ve.out)).trans Kr.out)
  replace Ke := Lib.hid hEk
  replace Fa1 := Lib.hid (Fa1.out.to (Agr.at hEz hEo (by first | exact Or.inl Uea1.out | exact Or.inr Uea1.out) Za1.out))
  replace Za1 := Lib.hid (Nat.le_trans Za1.out (Nat.le_of_eq hEz.symm))
  replace Fa2 := Lib.hid (Fa2.out.to (Agr.at hEz hEo (by first | exact Or.inl Uea2.out | exact Or.inr Uea2.out) Za2.out))
  replace Za2 := Lib.hid (Nat.le_trans Za2.out (Nat.le_of_eq hEz.symm))
  have hSo := SS.out.1.other (p := ⟨w1.heap.size, 14, none⟩) Ne.out Te.out (.slice qa2 a2.len ca2)
  have hBo := BB.out.putNew (p := ⟨w1.heap.size, 14, none⟩) Me.out (.slice qa2 a2.len ca2)
  rw [hE3] at hSo hBo
  replace SS := Lib.hid (And.intro hSo SS.out.2)
  replace BB := Lib.hid hBo
  clear hEo hEz hEk hSo hBo
  rcases Classical.em ((hdT (p.ts.drop k2)).text = wElse) with ht | ht
  · have Hht := Lib.hid ht
    have HYht := Lib.hid (CY.out k2 E3 SS.out.1 SS.out.2 ht)
    clear ht
    go_wp2_with fail
    try rw [hE3]
    clear hE3 u3 v3
    refine (HYht.out.1).mono ?_
    rintro z w4 ⟨rfl, hp, hb⟩
    replace Kr := Lib.hid ((hb.block _ (Array.getElem?_eq_some_iff.1 Kr.out).1 Nr.out).trans Kr.out)
    replace Ke := Lib.hid ((hb.block _ (Array.getElem?_eq_some_iff.1 Ke.out).1 Ne.out).trans Ke.out)
    replace Fa1 := Lib.hid (Fa1.out.but hb Ga1.out Za1.out)
    replace Za1 := Lib.hid (Nat.le_trans Za1.out hb.size)
    replace Ya1 := Lib.hid Ya1.out
    replace Fa2 := Lib.hid (Fa2.out.but hb Ga2.out Za2.out)
    replace Za2 := Lib.hid (Nat.le_trans Za2.out hb.size)
    replace Ya2 := Lib.hid Ya2.out
    replace SS := Lib.hid (And.intro hp HYht.out.2)
    replace BB := Lib.hid (BB.out.trans hb)
    clear hp hb
    go_wp2_with fail
    have Va5 := Lib.hid (show w.heap.size < w4.heap.size from (Array.getElem?_eq_some_iff.1 Kr.out).1)
    have Uea5 := Lib.hid (show w1.heap.size < w4.heap.size from (Array.getElem?_eq_some_iff.1 Ke.out).1)
    refine (CB.out (k2 + 1) w4 SS.out.1 SS.out.2).mono ?_
    intro z w5 hc
    rcases hc with ⟨k5, a5, s5, hr, hkk, hp, hb, hz, hR⟩ | ⟨k5, e5, t5, hr, hp, hb, hz⟩
    rotate_left
    · subst hz
      have HN := Lib.hid (show Post RStmt G p d w (WrongIs (e5 : Int) t5) w5 from .no k5 e5 t5 (by rw [← HG.out]; simp only [R1.out, R2.out, if_pos Hht.out, drop_tl, hr, Res.bind_ok, Res.bind_no]) hp (BB.out.trans hb) rfl)
      clear hr hp hb
      unfold WrongIs
      go_wp2_with fail
      exact ⟨rfl, HN.out⟩
    replace Kr := Lib.hid ((hb.block _ (Array.getElem?_eq_some_iff.1 Kr.out).1 Nr.out).trans Kr.out)
    replace Ke := Lib.hid ((hb.block _ (Array.getElem?_eq_some_iff.1 Ke.out).1 Ne.out).trans Ke.out)
    replace Fa1 := Lib.hid (Fa1.out.but hb Ga1.out Za1.out)
    replace Za1 := Lib.hid (Nat.le_trans Za1.out hb.size)
    replace Ya1 := Lib.hid Ya1.out
    replace Fa2 := Lib.hid (Fa2.out.but hb Ga2.out Za2.out)
    replace Za2 := Lib.hid (Nat.le_trans Za2.out hb.size)
    replace Ya2 := Lib.hid Ya2.out
    obtain ⟨qa5, ca5⟩ := s5
    obtain rfl : z = .returned (.slice qa5 a5.len ca5) := hz
    have Fa5 := Lib.hid (show Fresh w4.heap.size w5.heap.size w5 (fun W N => a5.In W N qa5) from hR)
    have Ga5 := Lib.hid SS.out.1.lt_pb
    have Za5 := Lib.hid (Nat.le_refl w5.heap.size)
    have Ya5 := Lib.hid (show w.heap.size ≤ w4.heap.size from BB.out.size)
    have R5 := Lib.hid hr
    replace SS := Lib.hid (And.intro hp hkk)
    replace BB := Lib.hid (BB.out.trans hb)
    clear hr hkk hp hb hR
    have u6 := cell_blk Ke.out (j := 15) rfl
    have v6 : w5.frozen? ⟨w1.heap.size, 15, none⟩ = false := by simp [World.frozen?, Ke.out]
    obtain ⟨E6, hE6⟩ : ∃ E, w5.setCell ⟨w1.heap.size, 15, none⟩ (.slice qa5 a5.len ca5) = E := ⟨_, rfl⟩
    have hEo : ∀ j, j ≠ w1.heap.size → E6.heap[j]? = w5.heap[j]? := fun j hj => by rw [← hE6]; exact Below.heap_setCell w5 _ _ _ hj
    have hEz : E6.heap.size = w5.heap.size := by rw [← hE6]; simp [World.setCell]
    have hEk : E6.heap[w1.heap.size]? = some (.cells #[.int .i64 3, .string ⟨#[]⟩, .slice none 0 0, .int .i64 a1.op, .int .u64 (a1.word : Int), .string (str a1.name), .slice qa1 a1.args.len ca1, .int .i64 0, .int .u64 0, .string ⟨#[]⟩, .slice none 0 0, .slice none 0 0, .int .u64 0, .int .u64 0, .slice qa2 a2.len ca2, .slice qa5 a5.len ca5] 69 (0, 0)) := by rw [← hE6, setCell_eq_setRow _ _ _ _ 69 (0, 0) _ Ke.out]; exact setRow_heap _ _ _ _ 69 (0, 0) Ke.out
    replace Kr := Lib.hid ((hEo _ (Nat.ne_of_lt Ve.out)).trans Kr.out)
    replace Ke := Lib.hid hEk
    replace Fa1 := Lib.hid (Fa1.out.to (Agr.at hEz hEo (by first | exact Or.inl Uea1.out | exact Or.inr Uea1.out) Za1.out))
    replace Za1 := Lib.hid (Nat.le_trans Za1.out (Nat.le_of_eq hEz.symm))
    replace Fa2 := Lib.hid (Fa2.out.to (Agr.at hEz hEo (by first | exact Or.inl Uea2.out | exact Or.inr Uea2.out) Za2.out))
    replace Za2 := Lib.hid (Nat.le_trans Za2.out (Nat.le_of_eq hEz.symm))
    replace Fa5 := Lib.hid (Fa5.out.to (Agr.at hEz hEo (by first | exact Or.inl Uea5.out | exact Or.inr Uea5.out) Za5.out))
    replace Za5 := Lib.hid (Nat.le_trans Za5.out (Nat.le_of_eq hEz.symm))
    have hSo := SS.out.1.other (p := ⟨w1.heap.size, 15, none⟩) Ne.out Te.out (.slice qa5 a5.len ca5)
    have hBo := BB.out.putNew (p := ⟨w1.heap.size, 15, none⟩) Me.out (.slice qa5 a5.len ca5)
    rw [hE6] at hSo hBo
    replace SS := Lib.hid (And.intro hSo SS.out.2)
    replace BB := Lib.hid hBo
    clear hEo hEz hEk hSo hBo
    go_upto_region 5 with fail
    try rw [hE6]
    clear hE6 u6 v6
    have hrz := (Array.getElem?_eq_some_iff.1 Kr.out).1
    have HRz := Lib.hid hrz
    clear hrz
    go_wp2_with (first | (refine wpl_load rfl 69 _ rfl (w1.heap.size) 0 rfl #[.int .i64 3, .string ⟨#[]⟩, .slice none 0 0, .int .i64 a1.op, .int .u64 (a1.word : Int), .string (str a1.name), .slice qa1 a1.args.len ca1, .int .i64 0, .int .u64 0, .string ⟨#[]⟩, .slice none 0 0, .slice none 0 0, .int .u64 0, .int .u64 0, .slice qa2 a2.len ca2, .slice qa5 a5.len ca5] _ (range_block Ke.out) Tryz.underlying69 rfl infoSt ?_) | (refine wpl_put rfl _ _ _ rfl rfl w.heap.size 0 (.agg #[.int .i64 3, .string ⟨#[]⟩, .slice none 0 0, .int .i64 a1.op, .int .u64 (a1.word : Int), .string (str a1.name), .slice qa1 a1.args.len ca1, .int .i64 0, .int .u64 0, .string ⟨#[]⟩, .slice none 0 0, .slice none 0 0, .int .u64 0, .int .u64 0, .slice qa2 a2.len ca2, .slice qa5 a5.len ca5]) rfl rfl _ _ Kr.out (by exact Nat.le_of_ble_eq_true rfl) infoSt rfl ?_; intro wF hF hbF hzF))
    have hG : wF.heap[w.heap.size]? = some (.cells #[.int .i64 3, .string ⟨#[]⟩, .slice none 0 0, .int .i64 a1.op, .int .u64 (a1.word : Int), .string (str a1.name), .slice qa1 a1.args.len ca1, .int .i64 0, .int .u64 0, .string ⟨#[]⟩, .slice none 0 0, .slice none 0 0, .int .u64 0, .int .u64 0, .slice qa2 a2.len ca2, .slice qa5 a5.len ca5] 69 (0, 0)) := hF.trans (congrArg (fun a => some (Obj.cells a 69 (0, 0))) (putA_all (cur := #[.int .i64 0, .string ⟨#[]⟩, .slice none 0 0, .int .i64 0, .int .u64 0, .string ⟨#[]⟩, .slice none 0 0, .int .i64 0, .int .u64 0, .string ⟨#[]⟩, .slice none 0 0, .slice none 0 0, .int .u64 0, .int .u64 0, .slice none 0 0, .slice none 0 0]) (vs := #[.int .i64 3, .string ⟨#[]⟩, .slice none 0 0, .int .i64 a1.op, .int .u64 (a1.word : Int), .string (str a1.name), .slice qa1 a1.args.len ca1, .int .i64 0, .int .u64 0, .string ⟨#[]⟩, .slice none 0 0, .slice none 0 0, .int .u64 0, .int .u64 0, .slice qa2 a2.len ca2, .slice qa5 a5.len ca5]) rfl))
    clear hF
    refine bodyPost_ret (v := .agg #[.int .i64 3, .string ⟨#[]⟩, .slice none 0 0, .int .i64 a1.op, .int .u64 (a1.word : Int), .string (str a1.name), .slice qa1 a1.args.len ca1, .int .i64 0, .int .u64 0, .string ⟨#[]⟩, .slice none 0 0, .slice none 0 0, .int .u64 0, .int .u64 0, .slice qa2 a2.len ca2, .slice qa5 a5.len ca5]) ?_ rfl ?_
    · have y0 := cell_blk hG (j := 0) rfl
      have y1 := cell_blk hG (j := 1) rfl
      have y2 := cell_blk hG (j := 2) rfl
      have y3 := cell_blk hG (j := 3) rfl
      have y4 := cell_blk hG (j := 4) rfl
      have y5 := cell_blk hG (j := 5) rfl
      have y6 := cell_blk hG (j := 6) rfl
      have y7 := cell_blk hG (j := 7) rfl
      have y8 := cell_blk hG (j := 8) rfl
      have y9 := cell_blk hG (j := 9) rfl
      have y10 := cell_blk hG (j := 10) rfl
      have y11 := cell_blk hG (j := 11) rfl
      have y12 := cell_blk hG (j := 12) rfl
      have y13 := cell_blk hG (j := 13) rfl
      have y14 := cell_blk hG (j := 14) rfl
      have y15 := cell_blk hG (j := 15) rfl
      simp [results, Tryz.results171, go_sem, y0, y1, y2, y3, y4, y5, y6, y7, y8, y9, y10, y11, y12, y13, y14, y15]
    · refine .ok k5 (.mk 3 [] [] a1 Z0 .nil 0 0 a2 a5) ⟨none, qa1, none, none, qa2, qa5, 0, ca1, 0, 0, ca2, ca5⟩ (by rw [← HG.out]; first | rfl | simp only [R1.out, R2.out, R5.out, Res.bind_ok, if_pos Hht.out, drop_tl] | trace_state) SS.out.2 (SS.out.1.aside hbF Nr.out Nr2.out) (BB.out.fin hbF (Nat.le_refl _)) rfl ?_
      intro W hW
      have oa1 := ((Fa1.out.asd hbF (by first | exact Or.inl Va1.out | exact Or.inr Va1.out) Za1.out).fin Ya1.out (Nat.le_trans Za1.out hbF.size) (fun W h => Ex.Ok.up h (Nat.le_trans Za1.out hbF.size))) W hW
      have oa2 := ((Fa2.out.asd hbF (by first | exact Or.inl Va2.out | exact Or.inr Va2.out) Za2.out).fin Ya2.out (Nat.le_trans Za2.out hbF.size) (fun W h => Sts.In.up h (Nat.le_trans Za2.out hbF.size))) W hW
      have oa5 := ((Fa5.out.asd hbF (by first | exact Or.inl Va5.out | exact Or.inr Va5.out) Za5.out).fin Ya5.out (Nat.le_trans Za5.out hbF.size) (fun W h => Sts.In.up h (Nat.le_trans Za5.out hbF.size))) W hW
      exact ⟨names_nil _ _ _, oa1, zero_ok _ _, Exs.In.nil _ _ _, oa2, oa5, zero_u64, zero_u64⟩
  · have Hht := Lib.hid ht
    have HYht := Lib.hid (CN.out k2 E3 SS.out.1 SS.out.2 ht)
    clear ht
    go_wp2_with fail
    try rw [hE3]
    clear hE3 u3 v3
    refine (HYht.out).mono ?_
    rintro z w4 ⟨rfl, hp, hb⟩
    replace Kr := Lib.hid ((hb.block _ (Array.getElem?_eq_some_iff.1 Kr.out).1 Nr.out).trans Kr.out)
    replace Ke := Lib.hid ((hb.block _ (Array.getElem?_eq_some_iff.1 Ke.out).1 Ne.out).trans Ke.out)
    replace Fa1 := Lib.hid (Fa1.out.but hb Ga1.out Za1.out)
    replace Za1 := Lib.hid (Nat.le_trans Za1.out hb.size)
    replace Ya1 := Lib.hid Ya1.out
    replace Fa2 := Lib.hid (Fa2.out.but hb Ga2.out Za2.out)
    replace Za2 := Lib.hid (Nat.le_trans Za2.out hb.size)
    replace Ya2 := Lib.hid Ya2.out
    replace SS := Lib.hid (And.intro hp SS.out.2)
    replace BB := Lib.hid (BB.out.trans hb)
    clear hp hb
    have hrz := (Array.getElem?_eq_some_iff.1 Kr.out).1
    have HRz := Lib.hid hrz
    clear hrz
    go_wp2_with (first | (refine wpl_load rfl 69 _ rfl (w1.heap.size) 0 rfl #[.int .i64 3, .string ⟨#[]⟩, .slice none 0 0, .int .i64 a1.op, .int .u64 (a1.word : Int), .string (str a1.name), .slice qa1 a1.args.len ca1, .int .i64 0, .int .u64 0, .string ⟨#[]⟩, .slice none 0 0, .slice none 0 0, .int .u64 0, .int .u64 0, .slice qa2 a2.len ca2, .slice none 0 0] _ (range_block Ke.out) Tryz.underlying69 rfl infoSt ?_) | (refine wpl_put rfl _ _ _ rfl rfl w.heap.size 0 (.agg #[.int .i64 3, .string ⟨#[]⟩, .slice none 0 0, .int .i64 a1.op, .int .u64 (a1.word : Int), .string (str a1.name), .slice qa1 a1.args.len ca1, .int .i64 0, .int .u64 0, .string ⟨#[]⟩, .slice none 0 0, .slice none 0 0, .int .u64 0, .int .u64 0, .slice qa2 a2.len ca2, .slice none 0 0]) rfl rfl _ _ Kr.out (by exact Nat.le_of_ble_eq_true rfl) infoSt rfl ?_; intro wF hF hbF hzF))
    have hG : wF.heap[w.heap.size]? = some (.cells #[.int .i64 3, .string ⟨#[]⟩, .slice none 0 0, .int .i64 a1.op, .int .u64 (a1.word : Int), .string (str a1.name), .slice qa1 a1.args.len ca1, .int .i64 0, .int .u64 0, .string ⟨#[]⟩, .slice none 0 0, .slice none 0 0, .int .u64 0, .int .u64 0, .slice qa2 a2.len ca2, .slice none 0 0] 69 (0, 0)) := hF.trans (congrArg (fun a => some (Obj.cells a 69 (0, 0))) (putA_all (cur := #[.int .i64 0, .string ⟨#[]⟩, .slice none 0 0, .int .i64 0, .int .u64 0, .string ⟨#[]⟩, .slice none 0 0, .int .i64 0, .int .u64 0, .string ⟨#[]⟩, .slice none 0 0, .slice none 0 0, .int .u64 0, .int .u64 0, .slice none 0 0, .slice none 0 0]) (vs := #[.int .i64 3, .string ⟨#[]⟩, .slice none 0 0, .int .i64 a1.op, .int .u64 (a1.word : Int), .string (str a1.name), .slice qa1 a1.args.len ca1, .int .i64 0, .int .u64 0, .string ⟨#[]⟩, .slice none 0 0, .slice none 0 0, .int .u64 0, .int .u64 0, .slice qa2 a2.len ca2, .slice none 0 0]) rfl))
    clear hF
    refine bodyPost_ret (v := .agg #[.int .i64 3, .string ⟨#[]⟩, .slice none 0 0, .int .i64 a1.op, .int .u64 (a1.word : Int), .string (str a1.name), .slice qa1 a1.args.len ca1, .int .i64 0, .int .u64 0, .string ⟨#[]⟩, .slice none 0 0, .slice none 0 0, .int .u64 0, .int .u64 0, .slice qa2 a2.len ca2, .slice none 0 0]) ?_ rfl ?_
    · have y0 := cell_blk hG (j := 0) rfl
      have y1 := cell_blk hG (j := 1) rfl
      have y2 := cell_blk hG (j := 2) rfl
      have y3 := cell_blk hG (j := 3) rfl
      have y4 := cell_blk hG (j := 4) rfl
      have y5 := cell_blk hG (j := 5) rfl
      have y6 := cell_blk hG (j := 6) rfl
      have y7 := cell_blk hG (j := 7) rfl
      have y8 := cell_blk hG (j := 8) rfl
      have y9 := cell_blk hG (j := 9) rfl
      have y10 := cell_blk hG (j := 10) rfl
      have y11 := cell_blk hG (j := 11) rfl
      have y12 := cell_blk hG (j := 12) rfl
      have y13 := cell_blk hG (j := 13) rfl
      have y14 := cell_blk hG (j := 14) rfl
      have y15 := cell_blk hG (j := 15) rfl
      simp [results, Tryz.results171, go_sem, y0, y1, y2, y3, y4, y5, y6, y7, y8, y9, y10, y11, y12, y13, y14, y15]
    · refine .ok k2 (.mk 3 [] [] a1 Z0 .nil 0 0 a2 .nil) ⟨none, qa1, none, none, qa2, none, 0, ca1, 0, 0, ca2, 0⟩ (by rw [← HG.out]; first | rfl | simp only [R1.out, R2.out, Res.bind_ok, if_neg Hht.out] | trace_state) SS.out.2 (SS.out.1.aside hbF Nr.out Nr2.out) (BB.out.fin hbF (Nat.le_refl _)) rfl ?_
      intro W hW
      have oa1 := ((Fa1.out.asd hbF (by first | exact Or.inl Va1.out | exact Or.inr Va1.out) Za1.out).fin Ya1.out (Nat.le_trans Za1.out hbF.size) (fun W h => Ex.Ok.up h (Nat.le_trans Za1.out hbF.size))) W hW
      have oa2 := ((Fa2.out.asd hbF (by first | exact Or.inl Va2.out | exact Or.inr Va2.out) Za2.out).fin Ya2.out (Nat.le_trans Za2.out hbF.size) (fun W h => Sts.In.up h (Nat.le_trans Za2.out hbF.size))) W hW
      exact ⟨names_nil _ _ _, oa1, zero_ok _ _, Exs.In.nil _ _ _, oa2, sts_nil _ _, zero_u64, zero_u64⟩
end Go.Proofs.YtchbnkepmeelkaaGreatDoor
