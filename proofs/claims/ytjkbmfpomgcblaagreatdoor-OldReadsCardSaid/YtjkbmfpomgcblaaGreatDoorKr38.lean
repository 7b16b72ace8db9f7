import Derived.Test.YtjkbmfpomgcblaaGreatDoorKr37
import Derived.Test.YtjkbmfpomgcblaaGreatDoorKr35
namespace Go.Proofs.YtjkbmfpomgcblaaGreatDoor
open Go.RowKit
def OOut (r:(Nat×Int) ⊕ (List Ent×List Ent×List Wr)) (x:Nat) (pl:Int) (f h:List Ent) (l:List Wr):Prop :=
 (r=.inl (x,pl)∧f=[]∧h=[]∧l=[])∨(r=.inr (f,h,l)∧x=0∧pl=-1)
theorem oOut_any (r:(Nat×Int) ⊕ (List Ent×List Ent×List Wr)):∃ x pl f h l,OOut r x pl f h l:=by
 match r with
 | .inl (x,pl)=>exact ⟨x,pl,[],[],[],.inl ⟨rfl,rfl,rfl,rfl⟩⟩
 | .inr (f,h,l)=>exact ⟨0,-1,f,h,l,.inr ⟨rfl,rfl,rfl⟩⟩
theorem oNil (w:World) (B:Nat):BatOwn w B (.slice none 0 0) (.slice none 0 0) (.slice none 0 0) [] [] [] :=
 ⟨ownsE_nil w B,ownsE_nil w B,ownsW_nil w B,by simp,by simp,by simp,fun t ht=>by cases ht⟩
def RefIs (r:(Nat×Int) ⊕ (List Ent×List Ent×List Wr)) (w:World) (e:Ending) (w':World):Prop :=
 ∀ x pl f h l,OOut r x pl f h l→∃ a1 c1 a2 c2 a3 c3,e=.returned (.tuple #[.agg #[.slice a1 f.length c1,.slice a2 h.length c2,.slice a3 l.length c3],.agg #[.int .i64 (x:Int),.int .i64 pl]])∧BatOwn w' w.heap.size (.slice a1 f.length c1) (.slice a2 h.length c2) (.slice a3 l.length c3) f h l∧Below w.heap.size w w'
theorem refIs_bad {r:(Nat×Int) ⊕ (List Ent×List Ent×List Wr)} {w w':World} {x:Nat} {pl:Int} (hr:r=.inl (x,pl)) (hb:Below w.heap.size w w'):RefIs r w (.returned (.tuple #[.agg #[.slice none 0 0,.slice none 0 0,.slice none 0 0],.agg #[.int .i64 (x:Int),.int .i64 pl]])) w':=by
 intro x' pl' f h l ho
 rcases ho with ⟨hu,rfl,rfl,rfl⟩ | ⟨hu,_,_⟩
 · rw [hr] at hu
   injection hu with hu
   injection hu with h1 h2
   subst h1 h2
   exact ⟨none,0,none,0,none,0,rfl,oNil w' _,hb⟩
 · rw [hr] at hu;cases hu
theorem refIs_ok {r:(Nat×Int) ⊕ (List Ent×List Ent×List Wr)} {w w':World} {f h:List Ent} {l:List Wr} {vf vh vw:Value} (hr:r=.inr (f,h,l)) (ho:BatOwn w' w.heap.size vf vh vw f h l) (hb:Below w.heap.size w w'):RefIs r w (.returned (.tuple #[.agg #[vf,vh,vw],.agg #[.int .i64 0,.int .i64 (-1)]])) w':=by
 intro x' pl' f' h' l' hq
 rcases hq with ⟨hu,_⟩ | ⟨hu,rfl,rfl⟩
 · rw [hr] at hu;cases hu
 · rw [hr] at hu
   injection hu with hu
   injection hu with h1 h2
   injection h2 with h2 h3
   subst h1 h2 h3
   obtain ⟨a1,c1,rfl,_⟩:=ho.1.is.form
   obtain ⟨a2,c2,rfl,_⟩:=ho.2.1.is.form
   obtain ⟨a3,c3,rfl,_⟩:=ho.2.2.1.is.form
   exact ⟨a1,c1,a2,c2,a3,c3,rfl,ho,hb⟩
theorem rold_as (s:ByteArray) (w:World) (hs:s.size≤400000):Calls Tryz.prog 32 #[.string s] w (RefIs (oldF s.data.toList) w):=by
 refine (rold_any s w hs).mono ?_
 rintro r w' ⟨hb,⟨x',pl',hx,rfl⟩ | ⟨f',h',l',vf,vh,vw,hx,rfl,ho⟩⟩
 · exact refIs_bad hx hb
 · exact refIs_ok hx ho hb
theorem rdIs_as {r:(Nat×Int) ⊕ (List Ent×List Ent×List Wr)} {w w':World} {e:Ending} {x:Nat} {pl:Int} {f h:List Ent} {l:List Wr} (hr:RdIs r w e w') (ho:OOut r x pl f h l) :
   ∃ a1 c1 a2 c2 a3 c3 err,e=.returned (.tuple #[.agg #[.slice a1 f.length c1,.slice a2 h.length c2,.slice a3 l.length c3],err])∧BatIs w' (.slice a1 f.length c1) (.slice a2 h.length c2) (.slice a3 l.length c3) f h l∧anyErr w' err (x,pl)∧Below w.heap.size w w':=by
 obtain ⟨hb,⟨x',pl',err,hx,_,rfl,ha⟩ | ⟨f',h',l',a1,c1,a2,c2,a3,c3,hx,rfl,hq⟩⟩:=hr
 · rcases ho with ⟨hu,rfl,rfl,rfl⟩ | ⟨hu,_,_⟩
   · rw [hu] at hx
     injection hx with hx
     injection hx with h1 h2
     subst h1 h2
     exact ⟨none,0,none,0,none,0,err,rfl,(oNil w' 0).bat,ha,hb⟩
   · rw [hu] at hx;cases hx
 · rcases ho with ⟨hu,_⟩ | ⟨hu,rfl,rfl⟩
   · rw [hu] at hx;cases hx
   · rw [hu] at hx
     injection hx with hx
     injection hx with h1 h2
     injection h2 with h2 h3
     subst h1 h2 h3
     exact ⟨a1,c1,a2,c2,a3,c3,.nilIface,rfl,hq.bat,.inl (.inl ⟨rfl,rfl⟩),hb⟩
end Go.Proofs.YtjkbmfpomgcblaaGreatDoor
