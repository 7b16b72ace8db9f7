import Derived.Test.YtgfinhehgfbdgaaGreatDoorRa46
namespace Go.Proofs.YtgfinhehgfbdgaaGreatDoor
open Go.RowKit
def RdOut (s:List UInt8) (x:Nat) (pl:Int) (f h:List Ent) (l:List Wr):Prop :=
 (unbF s=.inl (x,pl)∧f=[]∧h=[]∧l=[])∨(unbF s=.inr (f,h,l)∧x=0∧pl=-1)
theorem batIs_nil (w:World):BatIs w (.slice none 0 0) (.slice none 0 0) (.slice none 0 0) [] [] [] :=
 ⟨(ownsE_nil w 0).is,(ownsE_nil w 0).is,(ownsW_nil w 0).is,by simp,by simp,by simp,fun t ht=>by cases ht⟩
theorem runbody_any (s:ByteArray) (w:World) (hs:s.size≤maxLen):Calls Tryz.prog 47 #[.string s] w (RUnbodyIs w s.data.toList):=by
 by_cases hbig:20000<s.size
 · exact runbody_big s w hs hbig
 · exact runbody_fits s w (by omega)
theorem runbody_as (s:ByteArray) (x:Nat) (pl:Int) (f h:List Ent) (l:List Wr) (w:World) (hs:s.size≤maxLen) (hr:RdOut s.data.toList x pl f h l) :
   Calls Tryz.prog 47 #[.string s] w fun r w'=>∃ a1 c1 a2 c2 a3 c3,r=.returned (.tuple #[.agg #[.slice a1 f.length c1,.slice a2 h.length c2,.slice a3 l.length c3],.agg #[.int .i64 (x:Int),.int .i64 pl]])∧BatIs w' (.slice a1 f.length c1) (.slice a2 h.length c2) (.slice a3 l.length c3) f h l∧Below w.heap.size w w':=by
 refine (runbody_any s w hs).mono ?_;rintro r w' ⟨hb,⟨x',pl',hx,rfl⟩ | ⟨f',h',l',vf,vh,vw,hx,rfl,ho⟩⟩
 · rcases hr with ⟨hu,rfl,rfl,rfl⟩ | ⟨hu,_,_⟩
   · rw [hu] at hx;injection hx with hx
     injection hx with h1 h2
     subst h1 h2;exact ⟨none,0,none,0,none,0,rfl,batIs_nil w',hb⟩
   · rw [hu] at hx;cases hx
 · rcases hr with ⟨hu,_⟩ | ⟨hu,rfl,rfl⟩
   · rw [hu] at hx;cases hx
   · rw [hu] at hx;injection hx with hx
     injection hx with h1 h2
     injection h2 with h2 h3
     subst h1 h2 h3;obtain ⟨a1,c1,rfl,_⟩:=ho.1.is.form;obtain ⟨a2,c2,rfl,_⟩:=ho.2.1.is.form;obtain ⟨a3,c3,rfl,_⟩:=ho.2.2.1.is.form;exact ⟨a1,c1,a2,c2,a3,c3,rfl,ho.bat,hb⟩
end Go.Proofs.YtgfinhehgfbdgaaGreatDoor
