import Derived.Test.YtagoidpkbloflaaGreatDoorKlq
import Derived.Test.YtagoidpkbloflaaGreatDoorKl20
namespace Go.Proofs.YtagoidpkbloflaaGreatDoor
open Lib (hid)
set_option maxRecDepth 100000
set_option maxHeartbeats 8000000
section
open Go.RowKit
def cutB:List Ent→Int→List Ent→List (List Ent)
 | cur,_,[]=>[cur]
 | cur,p,e::r=>if p+1=e.rep then cutB (cur++[e]) e.rep r else cur::cutB [e] e.rep r
theorem lQ {cur r:List Ent} {p:Int} {e:Ent} (h:p+1=e.rep):cutB cur p (e::r)=cutB (cur++[e]) e.rep r:=by rw [cutB,if_pos h]
theorem lP {cur r:List Ent} {p:Int} {e:Ent} (h:¬ p+1=e.rep):cutB cur p (e::r)=cur::cutB [e] e.rep r:=by rw [cutB,if_neg h]
theorem v6 (r:List Ent):∀ (cur:List Ent) (e:Ent) (last:Int),okV last (e::r)→cutA cur (e::r)=cutB (cur++[e]) e.rep r:=by
 induction r with
 | nil=>intro cur e last _;rfl
 | cons d r ih =>
  intro cur e last h;have hd:=h.2.1;rw [lm] at hd;by_cases hg:e.rep+1<d.rep
  ·rw [jr hg,lP (by omega),ih [] d e.rep h.2];rfl
  ·rw [js hg,lQ (by omega),ih (cur++[e]) d e.rep h.2]
theorem fO (n:Nat) (T:ByteArray) (w:World) (h:n≤1099511627776) (hT:⟨(putL n).toArray⟩=T) :
 Calls Tryz.prog 20 #[.int .u64 (n:Int)] w fun e w'=>e=.returned (.string T)∧Below w.heap.size w w':=by
 subst hT;exact eC n w (by omega)
def eM (l:List Ent) (k:Nat) (R:List (List Ent)) (cur:List Ent):Prop :=
 (k=0∧R=[]∧cur=[])∨∃ j d,k=j+1∧l[j]? = some d∧R++cutB cur d.rep (l.drop k)=aM l
def th (w:World) (l:List Ent) (e:Ending) (w':World):Prop :=
 e=.returned (.tuple #[.string ⟨(cj l).toArray⟩,bH (au l)])∧Below w.heap.size w w'
def areD (w:World) (B:Nat):List Value→List (List Ent)→Prop
 | [],[]=>True
 | v::vs,r::rs=>ai w 0 v r∧(∀ k,v.ownBlock=some k→k<B)∧areD w B vs rs
 | _,_=>False
theorem jg {w:World} {B:Nat} {vs:List Value}:∀ {rs:List (List Ent)},areD w B vs rs→vs.length=rs.length:=by
 induction vs with
 | nil=>intro rs h;cases rs with
  | nil=>rfl
  | cons r rs=>exact h.elim
 | cons v vs ih=>intro rs h;cases rs with
  | nil=>exact h.elim
  | cons r rs=>simp [ih h.2.2]
theorem fo {w w':World} {B B':Nat} {row:Option Nat} (hg:w.grownBy w' row) (hB:B≤B') (hne:∀ v r,ai w 0 v r→(∀ k,v.ownBlock=some k→k<B)→v.ownBlock=none∨v.ownBlock≠row) {vs:List Value}:∀ {rs:List (List Ent)},areD w B vs rs→areD w' B' vs rs:=by
 induction vs with
 | nil=>intro rs h;cases rs with
  | nil=>trivial
  | cons r rs=>exact h.elim
 | cons v vs ih=>intro rs h;cases rs with
  | nil=>exact h.elim
  | cons r rs=>exact ⟨Dt h.1 hg (hne v r h.1 h.2.1),fun k hk=>Dv (h.2.1 k hk) hB,ih h.2.2⟩
theorem tz {w:World} {B:Nat} {vs:List Value} {v:Value} {r:List Ent} (hv:ai w 0 v r) (hb:∀ k,v.ownBlock=some k→k<B):∀ {rs:List (List Ent)},areD w B vs rs→areD w B (vs++[v]) (rs++[r]):=by
 induction vs with
 | nil=>intro rs h;cases rs with
  | nil=>exact ⟨hv,hb,trivial⟩
  | cons r rs=>exact h.elim
 | cons v vs ih=>intro rs h;cases rs with
  | nil=>exact h.elim
  | cons r rs=>exact ⟨h.1,h.2.1,ih h.2.2⟩
theorem tx {w:World} {B:Nat} {vs:List Value}:∀ {rs:List (List Ent)},areD w B vs rs→areE w vs rs:=by
 induction vs with
 | nil=>intro rs h;cases rs with
  | nil=>trivial
  | cons r rs=>exact h.elim
 | cons v vs ih=>intro rs h;cases rs with
  | nil=>exact h.elim
  | cons r rs=>exact ⟨h.1.is,ih h.2.2⟩
theorem jE {w w':World} (h:Below w.heap.size w w'):w.grownBy w' none:=⟨h.os,h.tape,h.output,h.size,fun k hk _=>h.block k hk⟩
theorem jW {w:World} {base base':Nat} {e1 e2:TypeId} {k1 k2 n1 n2:Nat} {v1 v2:Value} {x1 x2:List Value} (h1:w.ownsRow base e1 k1 v1 n1 x1) (h2:w.ownsRow base' e2 k2 v2 n2 x2) (hne:e1≠e2) :
 v1.ownBlock=none∨v1.ownBlock≠v2.ownBlock:=by
 rcases h1.2 with ⟨rfl,_⟩ | ⟨g,cap,cur,rfl,_,hh,_⟩
 ·exact .inl rfl
 ·refine .inr ?_;rcases h2.2 with ⟨rfl,_⟩ | ⟨g',cap',cur',rfl,_,hh',_⟩
  ·simp [Value.ownBlock]
  ·intro e;have:g=g':=by simpa [Value.ownBlock] using e
   subst this;rw [hh] at hh';injection hh' with hh'
   injection hh' with _ ht
   exact hne ht
def RW (w:World) (rv:Value) (R:List (List Ent)) (cur:List Ent) (wr:World):Prop :=
 ∃ (g cap B:Nat) (vs:List Value) (v:Value),rv=.slice (some ⟨g,0,none⟩) (vs.length+1) cap∧aL wr (w.heap.size+1) rv (vs++[v])∧areD wr B vs R∧ai wr B v cur∧w.heap.size+1≤B∧B≤wr.heap.size
theorem RW.below {w wr w':World} {rv:Value} {R:List (List Ent)} {cur:List Ent} (h:RW w rv R cur wr) (hb:Below wr.heap.size wr w'):RW w rv R cur w':=by
 obtain ⟨g,cap,B,vs,v,h1,h2,h3,h4,h5,h6⟩:=h;exact ⟨g,cap,B,vs,v,h1,h2.below hb,fo (jE hb) (Db _) (fun u r _ _=>by cases hu:u.ownBlock with
  | none=>exact .inl rfl
  | some k=>exact .inr (by simp)) h3,h4.below hb,h5,Dl h6 hb.size⟩
theorem RW.grow {w w2 w3:World} {g cap B g2 cap2 m:Nat} {vs:List Value} {v:Value} {R:List (List Ent)} {cur cur2:List Ent}
 (ho:aL w2 (w.heap.size+1) (.slice (some ⟨g,0,none⟩) (vs.length+1) cap) (vs++[v])) (ha:areD w2 B vs R) (he:ai w2 B v cur) (hB1:w.heap.size+1≤B) (hB2:B≤w2.heap.size)
 (ho3:ai w3 B (.slice (some ⟨g2,0,none⟩) m cap2) cur2) (hg3:w2.grownBy w3 v.ownBlock) (hr:v.ownBlock=some g2∨g2=w2.heap.size) :
 RW w (.slice (some ⟨g,0,none⟩) (vs.length+1) cap) R cur2 (w3.setCell ⟨g,vs.length,none⟩ (.slice (some ⟨g2,0,none⟩) m cap2))∧w2.grownBy w3 v.ownBlock∧B≤g2:=by
 have hog:=ho.lt g rfl;have hap:v.ownBlock≠some g:=fun e=>by
  rcases jW he ho (show 73≠22 by decide) with h | h
  ·rw [h] at e;cases e
  ·exact h e
 have ho4:aL w3 (w.heap.size+1) (.slice (some ⟨g,0,none⟩) (vs.length+1) cap) (vs++[v]):=Dt ho hg3 (.inr (fun e=>hap e.symm));obtain ⟨ho5,hg5⟩:=ho4.stored rfl (.slice (some ⟨g2,0,none⟩) m cap2);have hne:g2≠g:=by
  rcases hr with hr | hr
  ·intro e;rw [e] at hr;exact hap hr
  ·omega
 have ha3:areD w3 B vs R:=fo hg3 (Db _) (fun u r _ hu=>by
  cases huo:u.ownBlock with
  | none=>exact .inl rfl
  | some k =>
   refine .inr (fun e=>?_);have h1:=hu k huo;have h2:=(he.lt k e.symm).1;omega) ha
 refine ⟨⟨g,cap,B,vs,_,rfl,ho5,fo hg5 (Db _) (fun u r hu _=>?_) ha3,Dt ho3 hg5 (.inr (by simp [Value.ownBlock];exact hne)),hB1,Dl hB2 (Dl hg3.size hg5.size)⟩,hg3,(ho3.lt g2 rfl).1⟩;rcases jW hu ho4 (show 73≠22 by decide) with h | h
 ·exact .inl h
 ·exact .inr h
theorem RW.cut {w wr w2 w3:World} {g cap B g2 cap2:Nat} {vs:List Value} {v:Value} {R:List (List Ent)} {cur:List Ent}
 (ho:aL wr (w.heap.size+1) (.slice (some ⟨g,0,none⟩) (vs.length+1) cap) (vs++[v])) (ha:areD wr B vs R) (he:ai wr B v cur) (hB1:w.heap.size+1≤B) (hB2:B≤wr.heap.size)
 (h2:Below wr.heap.size wr w2) (ho3:aL w3 (w.heap.size+1) (.slice (some ⟨g2,0,none⟩) (vs.length+1+1) cap2) ((vs++[v])++[.slice none 0 0])) (hg3:w2.grownBy w3 (some g)) :
 RW w (.slice (some ⟨g2,0,none⟩) ((vs++[v]).length+1) cap2) (R++[cur]) [] w3:=by
 have he0:ai wr 0 v cur:=he.mono (Ds _);have ha1:areD wr wr.heap.size (vs++[v]) (R++[cur]):=tz he0 (fun k hk=>(he.lt k hk).2) (fo (jE (Below.refl _ wr)) hB2 (fun u r _ _=>by cases hu:u.ownBlock with
  | none=>exact .inl rfl
  | some k=>exact .inr (by simp)) ha)
 have ho2:aL w2 (w.heap.size+1) (.slice (some ⟨g,0,none⟩) (vs.length+1) cap) (vs++[v]):=ho.below h2;have ha2:areD w2 wr.heap.size (vs++[v]) (R++[cur]):=fo (jE h2) (Db _) (fun u r _ _=>by cases hu:u.ownBlock with
  | none=>exact .inl rfl
  | some k=>exact .inr (by simp)) ha1
 refine ⟨g2,cap2,wr.heap.size,vs++[v],.slice none 0 0,rfl,?_,fo hg3 (Db _) (fun u r hu _=>?_) ha2,cm _ _,by omega,Dl h2.size hg3.size⟩
 ·have e:(vs++[v]).length+1=vs.length+1+1:=by simp
  rw [e];exact ho3
 ·rcases jW hu ho2 (show 73≠22 by decide) with h | h
  ·exact .inl h
  ·exact .inr h
end
section
open Go.RowKit
theorem oR (vf vh vw:Value) (f h:List Ent) (l:List Wr) (w:World) (hx:aR w vf vh vw f h l) (hg:errT w) :
 Calls Tryz.prog 82 #[.agg #[vf,vh,vw]] w (gJ w (batF f h l)) :=
 um vf vh vw f h l w hx.1 hx.2.1 hx.2.2.1 hx.2.2.2.1 hx.2.2.2.2.1 hx.2.2.2.2.2.2 hg
end
