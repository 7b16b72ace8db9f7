import Derived.Test.YtgfinhehgfbdgaaGreatDoorRa49
namespace Go.Proofs.YtgfinhehgfbdgaaGreatDoor
open Go.RowKit
def FrOut (s:List UInt8) (x:Nat) (pl:Int) (f h:List Ent) (l:List Wr):Prop :=
 (unfF s=.inl (x,pl)∧f=[]∧h=[]∧l=[])∨(unfF s=.inr (f,h,l)∧x=0∧pl=-1)
theorem frOut_any (s:List UInt8):∃ x pl f h l,FrOut s x pl f h l:=by
 match hu:unfF s with
 | .inl (x,pl)=>exact ⟨x,pl,[],[],[],.inl ⟨hu,rfl,rfl,rfl⟩⟩
 | .inr (f,h,l)=>exact ⟨0,-1,f,h,l,.inr ⟨hu,rfl,rfl⟩⟩
theorem frNil (w:World):BatIs w (.slice none 0 0) (.slice none 0 0) (.slice none 0 0) [] [] [] :=
 ⟨(ownsE_nil w 0).is,(ownsE_nil w 0).is,(ownsW_nil w 0).is,by simp,by simp,by simp,fun t ht=>by cases ht⟩
theorem runframe_as (s:ByteArray) (x:Nat) (pl:Int) (f h:List Ent) (l:List Wr) (w:World) (hs:s.size≤400000) (hr:FrOut s.data.toList x pl f h l) :
   Calls Tryz.prog 14 #[.string s] w fun r w'=>∃ a1 c1 a2 c2 a3 c3,r=.returned (.tuple #[.agg #[.slice a1 f.length c1,.slice a2 h.length c2,.slice a3 l.length c3],.agg #[.int .i64 (x:Int),.int .i64 pl]])∧BatIs w' (.slice a1 f.length c1) (.slice a2 h.length c2) (.slice a3 l.length c3) f h l∧Below w.heap.size w w':=by
 refine (runframe_any s w hs).mono ?_;rintro r w' ⟨hb,⟨x',pl',hx,rfl⟩ | ⟨f',h',l',a1,c1,a2,c2,a3,c3,hx,rfl,ho⟩⟩
 · rcases hr with ⟨hu,rfl,rfl,rfl⟩ | ⟨hu,_,_⟩
   · rw [hu] at hx;injection hx with hx
     injection hx with h1 h2
     subst h1 h2;exact ⟨none,0,none,0,none,0,rfl,frNil w',hb⟩
   · rw [hu] at hx;cases hx
 · rcases hr with ⟨hu,_⟩ | ⟨hu,rfl,rfl⟩
   · rw [hu] at hx;cases hx
   · rw [hu] at hx;injection hx with hx
     injection hx with h1 h2
     injection h2 with h2 h3
     subst h1 h2 h3;exact ⟨a1,c1,a2,c2,a3,c3,rfl,ho,hb⟩
theorem freadR_as (s:ByteArray) (x:Nat) (pl:Int) (f h:List Ent) (l:List Wr) (w:World) (hs:s.size≤400000) (hg:errT w) (hr:FrOut s.data.toList x pl f h l) :
   Calls Tryz.prog 15 #[.string s] w fun r w'=>∃ a1 c1 a2 c2 a3 c3 err,r=.returned (.tuple #[.agg #[.slice a1 f.length c1,.slice a2 h.length c2,.slice a3 l.length c3],err])∧BatIs w' (.slice a1 f.length c1) (.slice a2 h.length c2) (.slice a3 l.length c3) f h l∧anyErr w' err (x,pl)∧Below w.heap.size w w':=by
 refine (fread_any s w hs hg).mono ?_;rintro r w' ⟨hb,⟨x',pl',err,hx,_,rfl,ha⟩ | ⟨f',h',l',a1,c1,a2,c2,a3,c3,hx,rfl,ho⟩⟩
 · rcases hr with ⟨hu,rfl,rfl,rfl⟩ | ⟨hu,_,_⟩
   · rw [hu] at hx;injection hx with hx
     injection hx with h1 h2
     subst h1 h2;exact ⟨none,0,none,0,none,0,err,rfl,frNil w',ha,hb⟩
   · rw [hu] at hx;cases hx
 · rcases hr with ⟨hu,_⟩ | ⟨hu,rfl,rfl⟩
   · rw [hu] at hx;cases hx
   · rw [hu] at hx;injection hx with hx
     injection hx with h1 h2
     injection h2 with h2 h3
     subst h1 h2 h3;exact ⟨a1,c1,a2,c2,a3,c3,.nilIface,rfl,ho,.inl (.inl ⟨rfl,rfl⟩),hb⟩
theorem opn_want {s i:List UInt8} {v e:Nat} (h:opnF s=(v,i,e)):(e≠0∧i=[])∨(e=0∧8≤s.length∧i=(s.take (s.length-4)).drop 3):=by
 by_cases h0:s.length<8
 · rw [opn_few h0] at h;injection h with _ h;injection h with h1 h2;exact .inl ⟨by omega,h1.symm⟩
 · by_cases h1:s.take 2=[80,84]
   · by_cases h2:(s.getD 2 0).toNat<1∨3<(s.getD 2 0).toNat
     · rw [opn_none h0 h1 h2] at h;injection h with _ h;injection h with h1 h2;exact .inl ⟨by omega,h1.symm⟩
     · by_cases h3:(openL s).2=0
       · rw [opn_ok h0 h1 h2 h3] at h;injection h with _ h
         injection h with h4 h5
         refine .inr ⟨h5.symm,by omega,?_⟩;rw [←h4];have:(openL s).1=s.take (s.length-4):=by
           unfold openL at h3 ⊢;rw [if_neg (by omega)] at h3 ⊢;by_cases hc:s.drop (s.length-4)=tail4 (sum (s.take (s.length-4)))
           · rw [if_pos hc]
           · rw [if_neg hc] at h3;cases h3
         rw [this]
       · rw [opn_spoilt h0 h1 h2 rfl h3] at h;injection h with _ h;injection h with h4 h5;exact .inl ⟨by rw [←h5];exact h3,h4.symm⟩
   · rw [opn_name h0 h1] at h;injection h with _ h;injection h with h1 h2;exact .inl ⟨by omega,h1.symm⟩
theorem errC_place (w:World) (e:Nat):placeIs w (errC e) e (-1):=by
 unfold placeIs errC;by_cases h:e=0
 · rw [if_pos h];exact .inl ⟨rfl,by omega,rfl⟩
 · rw [if_neg h];exact .inr (.inl ⟨rfl,rfl⟩)
end Go.Proofs.YtgfinhehgfbdgaaGreatDoor
