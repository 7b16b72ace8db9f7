import Derived.Test.YtdhognaoejiglaaGreatDoorKa44
namespace Go.Proofs.YtdhognaoejiglaaGreatDoor
open Lib (hid)
set_option maxRecDepth 100000
set_option maxHeartbeats 8000000
section
open Go.RowKit
theorem PS.keep {W w w':World} {n k g c:Nat} {L:List (Nat×LogS)} {U:List Wr} (h:PS W w n k g c L U) (hb:Below w.heap.size w w'):PS W w' n k g c L U :=
 ⟨h.pt.keep hb,h.party,h.len,h.few⟩
theorem fD {W w:World} {D:Nat→Prop} {L:List (Nat×LogS)} (h:Logs W w D L) {i P:Nat} {s:LogS} (hi:L[i]? = some (P,s)) (l:List Wr) (n:Nat) (hl:s.ws=l) (hn:l.length=n) :
 Calls Tryz.prog 16 #[.pointer (some ⟨P,0,none⟩)] w fun e w'=>∃ a c,e=.returned (.slice a n c)∧aq w' w.heap.size (.slice a n c) l∧Below w.heap.size w w':=by
 subst hl hn;exact xk h hi
theorem D3 {s:LogS} (ok:aH s) {e:Ent} (he:e∈s.hv):az [e]∧bj s [e]=0∧covB [] [e]=false:=by
 have h1:=bc ok.hv.2 e he;have h2:=jA ok.hv.2 he;have hr:az [e]:=⟨by simp,by unfold wrE;rw [if_neg (by omega),if_neg (by omega)],trivial⟩;have h0:az []:=⟨by simp,trivial⟩;have hc:covB s.hv [e]=true:=(dp ok.hv hr).2 (fun z=>by
  rw [show ofF [e] z=if e.rep=z then e.time else 0 from oG e.rep e.time z];split
  ·rename_i h;rw [←h,h2];exact Int.le_refl _
  ·exact (bR ok.hv.2 z).1)
 refine ⟨hr,?_,?_⟩
 ·unfold bj;rw [if_neg (by rw [(br _).2 hr];simp),if_neg (by rw [hc];simp)]
 ·refine Bool.eq_false_iff.2 fun h=>?_
  have:=(dp h0 hr).1 h e.rep;rw [cW rfl] at this;have h3:ofF [] e.rep=0:=rfl;omega
theorem kH {α:Type} (L:List α) (x:α):(L++[x])[L.length]? = some x:=by simp
theorem qi {α:Type} {L:List α} {i:Nat} {x:α} (h:L[i]? = some x) (y:α):(L++[y])[i]? = some x:=by
 rw [List.getElem?_append_left (List.getElem?_eq_some_iff.1 h).1];exact h
end
section
open Go.RowKit
theorem Cd {U:List Wr} {L:List (Nat×LogS)} {i j Pi Pj:Nat} {s t t' s1 s2 t2:LogS} (hi:L[i]? = some (Pi,s)) (hj:L[j]? = some (Pj,t)) (h1:(L.set j (Pj,t'))[i]? = some (Pi,s1)) (h2:((L.set j (Pj,t')).set i (Pi,s2))[j]? = some (Pj,t2))
 (hp:b7 U ((((L.set j (Pj,t')).map Prod.snd).set i s2))) (m1:∀ r,ofF t'.hv r=max (ofF t.hv r) (ofF s.hv r)) (m2:∀ r,ofF s2.hv r=max (ofF s1.hv r) (ofF t'.hv r)):s2.hv=t2.hv∧s2.ws=t2.ws:=by
 have hil:i<(L.set j (Pj,t')).length:=by rw [List.length_set];exact (List.getElem?_eq_some_iff.1 hi).1
 have hs2:((L.set j (Pj,t')).set i (Pi,s2))[i]? = some (Pi,s2):=List.getElem?_set_self hil;rw [←fc (P:=Pi)] at hp;have ks:=hp.ok s2 (cV (bQ hs2));have kt:=hp.ok t2 (cV (bQ h2));have e:s2.hv=t2.hv:=sA ks kt (fun r=>by
  by_cases e:i=j
  ·subst e;rw [hs2] at h2;obtain ⟨_,rfl⟩:=Prod.mk.inj (Option.some.inj h2)
   rfl
  ·rw [List.getElem?_set_ne (fun h=>e h.symm),hi] at h1;obtain ⟨_,rfl⟩:=Prod.mk.inj (Option.some.inj h1);rw [List.getElem?_set_ne e,List.getElem?_set_self (List.getElem?_eq_some_iff.1 hj).1] at h2;obtain ⟨_,rfl⟩:=Prod.mk.inj (Option.some.inj h2);rw [m2,m1];omega)
 exact ⟨e,ui hp (cV (bQ hs2)) (cV (bQ h2)) e⟩
theorem PS.met {W w w':World} {n k g c:Nat} {L:List (Nat×LogS)} {U:List Wr} (h:PS W w n k g c L U) {j P:Nat} {t:LogS} (hp:PT W w' (fun i=>g=i) (.slice (some ⟨g,0,none⟩) n c) (L.set j (P,t))) (hq:b7 U ((L.map Prod.snd).set j t)):PS W w' n k g c (L.set j (P,t)) U :=
 ⟨hp,by rw [fc];exact hq,by rw [List.length_set];exact h.len,h.few⟩
end
