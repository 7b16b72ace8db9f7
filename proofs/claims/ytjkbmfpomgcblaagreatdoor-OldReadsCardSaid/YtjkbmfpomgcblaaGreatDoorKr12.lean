import Derived.Test.YtjkbmfpomgcblaaGreatDoorKr09
namespace Go.Proofs.YtjkbmfpomgcblaaGreatDoor
open Go.RowKit
theorem opn_open {s i:List UInt8} {v:Nat} (h:opnF s=(v,i,0)):∃ o,openL s=(o,0)∧i=o.drop 3∧4≤o.length:=by
 have hp:=opn_pos h
 by_cases h0:s.length < 8
 · rw [opn_few h0] at h;injection h with _ h;injection h with _ h;cases h
 · by_cases h1:s.take 2=[80,84]
   · by_cases h2:(s.getD 2 0).toNat < 1∨3 < (s.getD 2 0).toNat
     · rw [opn_none h0 h1 h2] at h;injection h with _ h;injection h with _ h;cases h
     · by_cases h3:(openL s).2=0
       · rw [opn_ok h0 h1 h2 h3] at h
         injection h with _ h
         injection h with h _
         refine ⟨(openL s).1,by rw [←h3],h.symm,?_⟩
         rw [←h,List.length_drop] at hp
         omega
       · rw [opn_spoilt h0 h1 h2 rfl h3] at h;injection h with _ h;injection h with _ h;exact absurd h h3
   · rw [opn_name h0 h1] at h;injection h with _ h;injection h with _ h;cases h
theorem ropen_to (s O:ByteArray) (w:World) (hs:s.size≤1000000) (h:openL s.data.toList=(O.data.toList,0)) :
   Calls Tryz.prog 72 #[.string s] w fun e w'=>e=.returned (.tuple #[.string O,.int .i64 0])∧Below w.heap.size w w':=by
 have h1:=refopen_any s w hs
 rw [h] at h1
 unfold openR at h1
 simp only [bs_of] at h1
 exact h1
end Go.Proofs.YtjkbmfpomgcblaaGreatDoor
namespace Go.Proofs.YtjkbmfpomgcblaaGreatDoor
open Go.RowKit
def isBldW (w:World) (B b:Nat) (l:List UInt8):Prop:=Lib.IsBuilder 123 5 B b (Lib.byteCells l) w
theorem isBldW.below {w w':World} {B b:Nat} {l:List UInt8} (h:isBldW w B b l) (hb:Below w.heap.size w w'):isBldW w' B b l:=by
 have hone:∀ {p:Value},Lib.BuilderAt 123 5 B b p (Lib.byteCells l) w→Lib.BuilderAt 123 5 B b p (Lib.byteCells l) w':=by
   intro p h
   have hlt:=h.lt
   obtain ⟨hB,v,hbk,hown,hne⟩:=h
   refine ⟨hB,v,(hb.block b hlt).trans hbk,?_,hne⟩
   refine World.ownsRow.kept hown (row:=none) ⟨hb.os,hb.tape,hb.output,hb.size,fun k hk _=>hb.block k hk⟩ ?_
   cases hv:v.ownBlock with
   | none=>exact .inl rfl
   | some g=>exact .inr (by simp)
 rcases h with h | h
 · exact .inl (hone h)
 · exact .inr (hone h)
theorem isBldW.lt {w:World} {B b:Nat} {l:List UInt8} (h:isBldW w B b l):B≤b∧b < w.heap.size:=by
 rcases h with h | h
 · exact ⟨h.1,h.lt⟩
 · exact ⟨h.1,h.lt⟩
theorem isBldW.alloc {w:World} {B b:Nat} {l:List UInt8} (h:isBldW w B b l) (o:Obj):isBldW (w.alloc o) B b l:=h.below ((Below.refl _ _).alloc (Nat.le_refl _) _)
end Go.Proofs.YtjkbmfpomgcblaaGreatDoor
namespace Go.Proofs.YtjkbmfpomgcblaaGreatDoor
def consec:Int→List Ent→Prop
 | _,[]=>True
 | r,e :: t=>e.rep=r∧consec (r + 1) t
theorem consec_head {l:List Ent} {r:Int} (h:consec r l) (h0:l≠[]):(l.headD ⟨0,0⟩).rep=r:=by
 cases l with
 | nil=>exact absurd rfl h0
 | cons e t=>exact h.1
theorem consec_last {l:List Ent}:∀ {r:Int},consec r l→l≠[]→(l.getLastD ⟨0,0⟩).rep=r + l.length - 1:=by
 induction l with
 | nil=>intro r _ h0;exact absurd rfl h0
 | cons e t ih =>
   intro r h _
   cases t with
   | nil=>have:=h.1;simp;omega
   | cons d u =>
     have h3:=ih h.2 (by simp)
     rw [List.getLastD_cons] at h3 ⊢
     rw [List.getLastD_cons]
     simp only [List.length_cons] at h3 ⊢
     omega
def isRuns:Int→List (List Ent)→Prop
 | _,[]=>True
 | least,run :: rs=>run≠[]∧least≤(run.headD ⟨0,0⟩).rep∧consec (run.headD ⟨0,0⟩).rep run∧isRuns ((run.getLastD ⟨0,0⟩).rep + 2) rs
def cutA:List Ent→List Ent→List (List Ent)
 | _,[]=>[]
 | cur,[e]=>[cur ++ [e]]
 | cur,e :: d :: r=>if e.rep + 1 < d.rep then (cur ++ [e]) :: cutA [] (d :: r) else cutA (cur ++ [e]) (d :: r)
def runsL (l:List Ent):List (List Ent):=cutA [] l
theorem cutA_cut {cur r:List Ent} {e d:Ent} (h:e.rep + 1 < d.rep):cutA cur (e :: d :: r)=(cur ++ [e]) :: cutA [] (d :: r):=by rw [cutA,if_pos h]
theorem cutA_on {cur r:List Ent} {e d:Ent} (h:¬ e.rep + 1 < d.rep):cutA cur (e :: d :: r)=cutA (cur ++ [e]) (d :: r):=by rw [cutA,if_neg h]
theorem getLastD_snoc (l:List Ent) (e d:Ent):(l ++ [e]).getLastD d=e:=by
 simp
theorem cutA_run (run:List Ent):∀ (cur:List Ent) (r:Int) (rest:List Ent),consec r run→run≠[]→(∀ e t,rest=e :: t→(run.getLastD ⟨0,0⟩).rep + 1 < e.rep) →
   cutA cur (run ++ rest)=(cur ++ run) :: cutA [] rest:=by
 induction run with
 | nil=>intro _ _ _ _ h;exact absurd rfl h
 | cons e t ih =>
   intro cur r rest h _ hr
   cases t with
   | nil =>
     cases rest with
     | nil=>rfl
     | cons d u =>
       have:=hr d u rfl
       exact cutA_cut (by simpa using this)
   | cons d u =>
     have e1:=h.1
     have e2:=h.2.1
     show cutA cur (e :: d :: (u ++ rest))=_
     rw [cutA_on (by omega)]
     have:=ih (cur ++ [e]) (r + 1) rest h.2 (by simp) (fun x y hx=>by
       have:=hr x y hx
       rw [List.getLastD_cons,List.getLastD_cons] at this
       rw [List.getLastD_cons]
       exact this)
     rw [show d :: (u ++ rest)=(d :: u) ++ rest from rfl,this]
     simp
theorem runs_of {R:List (List Ent)}:∀ {least:Int},isRuns least R→runsL R.flatten=R:=by
 induction R with
 | nil=>intro _ _;rfl
 | cons run rs ih =>
   intro least h
   obtain ⟨h1,h2,h3,h4⟩:=h
   unfold runsL
   rw [List.flatten_cons,cutA_run run [] _ _ h3 h1]
   · have:=ih h4
     unfold runsL at this
     rw [this];rfl
   · intro e t he
     cases rs with
     | nil=>cases he
     | cons run2 rs2 =>
       obtain ⟨g1,g2,g3,_⟩:=h4
       rw [List.flatten_cons] at he
       cases run2 with
       | nil=>exact absurd rfl g1
       | cons d u =>
         simp only [List.cons_append,List.cons.injEq] at he
         obtain ⟨rfl,_⟩:=he
         simp only [List.headD_cons] at g2
         omega
def timesB (l:List Ent):List UInt8:=l.flatMap fun e=>putL e.time.toNat
def runB (least:Int) (run:List Ent):List UInt8:=putL ((run.headD ⟨0,0⟩).rep - least).toNat ++ putL (run.length - 1) ++ timesB run
def runsB:Int→List (List Ent)→List UInt8
 | _,[]=>[]
 | least,run :: rs=>runB least run ++ runsB ((run.getLastD ⟨0,0⟩).rep + 2) rs
def vwriteL (l:List Ent):List UInt8:=putL (runsL l).length ++ runsB 0 (runsL l)
theorem timesB_cons (e:Ent) (l:List Ent):timesB (e :: l)=putL e.time.toNat ++ timesB l:=by simp [timesB]
def tmA:Nat→List UInt8→Nat→Int→List Ent→Nat ⊕ (List Ent×Nat)
 | 0,_,used,_,acc=>.inr (acc,used)
 | k + 1,s,used,r,acc =>
   if (intL s 1099511627776).2.2≠0 then .inl (intL s 1099511627776).2.2
   else tmA k (s.drop (intL s 1099511627776).2.1) (used + (intL s 1099511627776).2.1) (r + 1) (acc ++ [⟨r,(intL s 1099511627776).1⟩])
theorem tmA_bad {k:Nat} {s:List UInt8} {used e:Nat} {r:Int} {acc:List Ent} (h:intL s 1099511627776=(0,0,e)) (he:e≠0):tmA (k + 1) s used r acc=.inl e:=by
 rw [tmA,h,if_pos he]
theorem tmA_ok {k:Nat} {s:List UInt8} {used n j:Nat} {r:Int} {acc:List Ent} (h:intL s 1099511627776=(n,j,0)):tmA (k + 1) s used r acc=tmA k (s.drop j) (used + j) (r + 1) (acc ++ [⟨r,n⟩]):=by
 rw [tmA,h,if_neg (by simp)]
def getR (s:List UInt8) (used:Nat) (least:Int) (acc:List Ent):Nat ⊕ (List Ent×Nat) :=
 if (intL s 200).2.2≠0 then .inl (intL s 200).2.2
 else if (intL (s.drop (intL s 200).2.1) 16).2.2≠0 then .inl (intL (s.drop (intL s 200).2.1) 16).2.2
 else tmA ((intL (s.drop (intL s 200).2.1) 16).1 + 1) ((s.drop (intL s 200).2.1).drop (intL (s.drop (intL s 200).2.1) 16).2.1) (used + (intL s 200).2.1 + (intL (s.drop (intL s 200).2.1) 16).2.1) (least + (intL s 200).1) acc
theorem getR_gap {s:List UInt8} {used e:Nat} {least:Int} {acc:List Ent} (h:intL s 200=(0,0,e)) (he:e≠0):getR s used least acc=.inl e:=by
 unfold getR;rw [h,if_pos he]
theorem getR_many {s:List UInt8} {used e g j:Nat} {least:Int} {acc:List Ent} (h:intL s 200=(g,j,0)) (h2:intL (s.drop j) 16=(0,0,e)) (he:e≠0):getR s used least acc=.inl e:=by
 unfold getR;rw [h];simp only;rw [h2,if_neg (by simp),if_pos he]
theorem getR_ok {s:List UInt8} {used g j c i:Nat} {least:Int} {acc:List Ent} (h:intL s 200=(g,j,0)) (h2:intL (s.drop j) 16=(c,i,0)):getR s used least acc=tmA (c + 1) ((s.drop j).drop i) (used + j + i) (least + g) acc:=by
 unfold getR;rw [h];simp only;rw [h2,if_neg (by simp),if_neg (by simp)]
def rdA:Nat→List UInt8→Nat→Int→List Ent→Nat ⊕ (List Ent×Nat)
 | 0,_,used,_,acc=>.inr (acc,used)
 | k + 1,s,used,least,acc=>match getR s 0 least [] with
   | .inl e=>.inl e
   | .inr (run,j)=>rdA k (s.drop j) (used + j) ((run.getLastD ⟨0,0⟩).rep + 2) (acc ++ run)
theorem rdA_bad {k:Nat} {s:List UInt8} {used e:Nat} {least:Int} {acc:List Ent} (h:getR s 0 least []=.inl e):rdA (k + 1) s used least acc=.inl e:=by rw [rdA,h]
theorem rdA_ok {k:Nat} {s:List UInt8} {used j:Nat} {least:Int} {acc run:List Ent} (h:getR s 0 least []=.inr (run,j)):rdA (k + 1) s used least acc=rdA k (s.drop j) (used + j) ((run.getLastD ⟨0,0⟩).rep + 2) (acc ++ run):=by rw [rdA,h]
def vreadF (s:List UInt8):Nat×Nat×List Ent :=
 if (intL s 16).2.2≠0 then ((intL s 16).2.2,0,[]) else match rdA (intL s 16).1 (s.drop (intL s 16).2.1) (intL s 16).2.1 0 [] with
   | .inl e=>(e,0,[])
   | .inr (l,n)=>if (vrightF l).1≠0 then ((vrightF l).1,0,[]) else (0,n,l)
theorem vread_few {s:List UInt8} {e:Nat} (h:intL s 16=(0,0,e)) (he:e≠0):vreadF s=(e,0,[]):=by unfold vreadF;rw [h,if_pos he]
theorem vread_bad {s:List UInt8} {k j e:Nat} (h:intL s 16=(k,j,0)) (h2:rdA k (s.drop j) j 0 []=.inl e):vreadF s=(e,0,[]):=by unfold vreadF;rw [h,if_neg (by simp)];simp only;rw [h2]
theorem vread_wrong {s:List UInt8} {k j n:Nat} {l:List Ent} (h:intL s 16=(k,j,0)) (h2:rdA k (s.drop j) j 0 []=.inr (l,n)) (h3:(vrightF l).1≠0):vreadF s=((vrightF l).1,0,[]):=by
 unfold vreadF;rw [h,if_neg (by simp)];simp only;rw [h2];simp only;rw [if_pos h3]
theorem vread_ok {s:List UInt8} {k j n:Nat} {l:List Ent} (h:intL s 16=(k,j,0)) (h2:rdA k (s.drop j) j 0 []=.inr (l,n)) (h3:(vrightF l).1=0):vreadF s=(0,n,l):=by
 unfold vreadF;rw [h,if_neg (by simp)];simp only;rw [h2];simp only;rw [if_neg (by simpa using h3)]
theorem intL_cases (l:List UInt8) (most:Int):(∃ e,intL l most=(0,0,e)∧e≠0∧(e=7∨e=4∨e=3∨e=2))∨∃ n k,intL l most=(n,k,0)∧(n:Int)≤most∧1≤k∧k≤10∧k≤l.length∧putL n=l.take k:=by
 rcases getL_cases l with ⟨e,hg,he⟩ | ⟨n,k,hg,hn,hk1,hk2,hk3⟩
 · have h3:=getL_err l
   rw [hg] at h3
   simp only at h3
   exact .inl ⟨e,intL_bad hg he,he,by omega⟩
 · by_cases hm:most < 0∨most < n
   · exact .inl ⟨2,intL_range hg hm,by decide,by omega⟩
   · exact .inr ⟨n,k,intL_ok hg hm,by omega,hk1,hk2,hk3,(getL_only hg).2.2⟩
theorem tmA_only (k:Nat):∀ (s:List UInt8) (used:Nat) (r:Int) (acc l:List Ent) (n:Nat),tmA k s used r acc=.inr (l,n) →
   ∃ run,l=acc ++ run∧run.length=k∧consec r run∧used≤n∧n≤used + s.length∧timesB run=s.take (n - used)∧∀ e∈run,0≤e.time∧e.time≤1099511627776:=by
 induction k with
 | zero =>
   intro s used r acc l n h
   rw [tmA] at h
   injection h with h
   injection h with h1 h2
   subst h1;subst h2
   exact ⟨[],by simp,rfl,trivial,Nat.le_refl _,by omega,by simp [timesB],fun e h=>by cases h⟩
 | succ k ih =>
   intro s used r acc l n h
   rcases intL_cases s 1099511627776 with ⟨e,hi,he,_⟩ | ⟨t,j,hi,ht,hj1,hj2,hj3,hp⟩
   · rw [tmA_bad hi he] at h;cases h
   · rw [tmA_ok hi] at h
     obtain ⟨run,rfl,h2,h3,h4,h5,h6,h7⟩:=ih _ _ _ _ _ _ h
     rw [List.length_drop] at h5
     refine ⟨⟨r,t⟩ :: run,by simp,by simp [h2],⟨rfl,h3⟩,by omega,by omega,?_,?_⟩
     · rw [timesB_cons,h6]
       simp only [Int.toNat_natCast]
       rw [hp,←List.take_add,show j + (n - (used + j))=n - used by omega]
     · intro e he
       rcases List.mem_cons.1 he with rfl | he
       · simp only;omega
       · exact h7 e he
theorem getR_only {s:List UInt8} {used n:Nat} {least:Int} {acc l:List Ent} (h:getR s used least acc=.inr (l,n)) :
   ∃ run,l=acc ++ run∧run≠[]∧run.length≤17∧least≤(run.headD ⟨0,0⟩).rep∧(run.headD ⟨0,0⟩).rep≤least + 200∧consec (run.headD ⟨0,0⟩).rep run∧used≤n∧n≤used + s.length∧runB least run=s.take (n - used)∧∀ e∈run,0≤e.time∧e.time≤1099511627776:=by
 rcases intL_cases s 200 with ⟨e,hi,he,_⟩ | ⟨g,j,hi,hg,hj1,hj2,hj3,hp⟩
 · rw [getR_gap hi he] at h;cases h
 · rcases intL_cases (s.drop j) 16 with ⟨e,hi2,he,_⟩ | ⟨c,i,hi2,hc,hi1,hi3,hi4,hp2⟩
   · rw [getR_many hi hi2 he] at h;cases h
   · rw [getR_ok hi hi2] at h
     obtain ⟨run,rfl,h2,h3,h4,h5,h6,h7⟩:=tmA_only _ _ _ _ _ _ _ h
     have hne:run≠[]:=by intro e;rw [e] at h2;simp at h2
     have hh:=consec_head h3 hne
     rw [List.length_drop] at hi4
     rw [List.length_drop,List.length_drop] at h5
     refine ⟨run,rfl,hne,by omega,by omega,by omega,by rw [hh];exact h3,by omega,by omega,?_,h7⟩
     unfold runB
     rw [hh,h6,show (least + (g:Int) - least).toNat=g by omega,show run.length - 1=c by omega,hp,hp2,←List.take_add,List.drop_drop,←List.take_add]
     congr 1;omega
theorem rdA_only (k:Nat):∀ (s:List UInt8) (used:Nat) (least:Int) (acc l:List Ent) (n:Nat),rdA k s used least acc=.inr (l,n) →
   ∃ R,l=acc ++ R.flatten∧R.length=k∧isRuns least R∧used≤n∧n≤used + s.length∧runsB least R=s.take (n - used):=by
 induction k with
 | zero =>
   intro s used least acc l n h
   rw [rdA] at h
   injection h with h
   injection h with h1 h2
   subst h1;subst h2
   exact ⟨[],by simp,rfl,trivial,Nat.le_refl _,by omega,by simp [runsB]⟩
 | succ k ih =>
   intro s used least acc l n h
   match hg:getR s 0 least [] with
   | .inl e=>rw [rdA_bad hg] at h;cases h
   | .inr (run,j) =>
     rw [rdA_ok hg] at h
     obtain ⟨run',hr,g1,_,g3,_,g4,g5,g6,g7,g8⟩:=getR_only hg
     rw [List.nil_append] at hr
     subst hr
     obtain ⟨R,rfl,h2,h3,h4,h5,h6⟩:=ih _ _ _ _ _ _ h
     rw [List.length_drop] at h5
     refine ⟨run :: R,by simp,by simp [h2],⟨g1,g3,g4,h3⟩,by omega,by omega,?_⟩
     rw [runsB,g7,h6,Nat.sub_zero,←List.take_add]
     congr 1;omega
theorem vread_only {s:List UInt8} {n:Nat} {l:List Ent} (h:vreadF s=(0,n,l)):rightV l∧1≤n∧n≤s.length∧vwriteL l=s.take n:=by
 rcases intL_cases s 16 with ⟨e,hi,he,_⟩ | ⟨k,j,hi,hk,hj1,hj2,hj3,hp⟩
 · rw [vread_few hi he] at h
   simp only [Prod.mk.injEq] at h
   exact absurd h.1 he
 · match hr:rdA k (s.drop j) j 0 [] with
   | .inl e =>
     rw [vread_bad hi hr] at h
     simp only [Prod.mk.injEq] at h
     obtain ⟨rfl,_⟩:=h
     exact absurd hr (by
       have hgr:∀ (s:List UInt8) (least:Int),getR s 0 least []≠.inl 0:=by
         have htm:∀ (k:Nat) (s:List UInt8) (used:Nat) (r:Int) (acc:List Ent),tmA k s used r acc≠.inl 0:=by
           intro k
           induction k with
           | zero=>intro s used r acc h;cases h
           | succ k ih =>
             intro s used r acc h
             rcases intL_cases s 1099511627776 with ⟨e,hi,he,_⟩ | ⟨t,j,hi,_⟩
             · rw [tmA_bad hi he] at h;injection h with h;exact he h
             · rw [tmA_ok hi] at h;exact ih _ _ _ _ h
         intro s least h
         rcases intL_cases s 200 with ⟨e,hi,he,_⟩ | ⟨g,j,hi,_⟩
         · rw [getR_gap hi he] at h;injection h with h;exact he h
         · rcases intL_cases (s.drop j) 16 with ⟨e,hi2,he,_⟩ | ⟨c,i,hi2,_⟩
           · rw [getR_many hi hi2 he] at h;injection h with h;exact he h
           · rw [getR_ok hi hi2] at h;exact htm _ _ _ _ _ h
       have:∀ (k:Nat) (s:List UInt8) (used:Nat) (least:Int) (acc:List Ent),rdA k s used least acc≠.inl 0:=by
         intro k
         induction k with
         | zero=>intro s used least acc h;cases h
         | succ k ih =>
           intro s used least acc h
           match hg:getR s 0 least [] with
           | .inl e=>rw [rdA_bad hg] at h;injection h with h;subst h;exact hgr _ _ hg
           | .inr (run,j)=>rw [rdA_ok hg] at h;exact ih _ _ _ _ h
       exact this _ _ _ _ _)
   | .inr (m,i) =>
     by_cases hw:(vrightF m).1=0
     · rw [vread_ok hi hr hw] at h
       simp only [Prod.mk.injEq,true_and] at h
       obtain ⟨rfl,rfl⟩:=h
       obtain ⟨R,hl,h2,h3,h4,h5,h6⟩:=rdA_only _ _ _ _ _ _ _ hr
       rw [List.nil_append] at hl
       rw [List.length_drop] at h5
       refine ⟨(vright_ok m).1 hw,by omega,by omega,?_⟩
       have e1:=runs_of h3
       rw [←hl] at e1
       unfold vwriteL
       rw [e1,h2,h6,hp,←List.take_add]
       congr 1;omega
     · rw [vread_wrong hi hr hw] at h
       simp only [Prod.mk.injEq] at h
       exact absurd h.1 hw
end Go.Proofs.YtjkbmfpomgcblaaGreatDoor
namespace Go.Proofs.YtjkbmfpomgcblaaGreatDoor
open Go.RowKit
def spanL (l:List UInt8):List UInt8:=putL l.length ++ l
def spanB (s:ByteArray):ByteArray:=⟨(putL s.size).toArray⟩ ++ s
theorem spanB_data (s:ByteArray):(spanB s).data.toList=spanL s.data.toList:=by unfold spanB spanL;rw [app_data,←size_data]
theorem spanB_size (s:ByteArray):(spanB s).size=(putL s.size).length + s.size:=by unfold spanB;rw [app_size,bs_size]
def getS (l:List UInt8):List UInt8×Nat×Nat :=
 if (getL l).2.2≠0 then ([],0,(getL l).2.2) else if 2000 < (getL l).1 then ([],0,4) else if l.length < (getL l).2.1 + (getL l).1 then ([],0,7)
 else ((l.drop (getL l).2.1).take (getL l).1,(getL l).2.1 + (getL l).1,0)
theorem getS_bad {l:List UInt8} {e:Nat} (h:getL l=(0,0,e)) (he:e≠0):getS l=([],0,e):=by
 unfold getS;rw [h];rw [if_pos (by exact he)]
theorem getS_big {l:List UInt8} {n k:Nat} (h:getL l=(n,k,0)) (hn:2000 < n):getS l=([],0,4):=by
 unfold getS;rw [h];rw [if_neg (by simp),if_pos (by exact hn)]
theorem getS_miss {l:List UInt8} {n k:Nat} (h:getL l=(n,k,0)) (hn:¬ 2000 < n) (hl:l.length < k + n):getS l=([],0,7):=by
 unfold getS;rw [h];rw [if_neg (by simp),if_neg (by exact hn),if_pos (by exact hl)]
theorem getS_ok {l:List UInt8} {n k:Nat} (h:getL l=(n,k,0)) (hn:¬ 2000 < n) (hl:¬ l.length < k + n):getS l=((l.drop k).take n,k + n,0):=by
 unfold getS;rw [h];rw [if_neg (by simp),if_neg (by exact hn),if_neg (by exact hl)]
def spanV (r:List UInt8×Nat×Nat):Value:=.tuple #[.string ⟨r.1.toArray⟩,.int .i64 r.2.1,errV r.2.2]
def spanR (r:List UInt8×Nat×Nat):Value:=.tuple #[.string ⟨r.1.toArray⟩,.int .i64 r.2.1,.int .i64 r.2.2]
theorem clone_any (s:ByteArray) (w:World) (hs:s.size≤281474976710656) :
   Calls Tryz.prog 151 #[.string s] w fun e w'=>e=.returned (.string s)∧Below w.heap.size w w':=by
 go_enter Tryz.func151,Tryz.ntmps151
 go_wp2_with fail
 refine (Tryz.stringslite_Clone s _ hs).mono ?_
 rintro r w1 ⟨rfl,hb⟩
 have HB:=Lib.hid hb
 clear hb
 go_wp2
 go_ret
 exact ⟨rfl,HB.out⟩
set_option maxRecDepth 100000 in
set_option maxHeartbeats 2000000 in
theorem sget_any (s:ByteArray) (w:World) (hs:s.size≤140737488351232) :
   Calls Tryz.prog 179 #[.string s] w fun r w'=>r=.returned (spanV (getS s.data.toList))∧Below w.heap.size w w':=by
 have hs2:s.size≤maxLen:=by unfold maxLen;omega
 rcases getL_cases s.data.toList with ⟨e,hg,he⟩ | ⟨n,k,hg,hn,hk1,hk2,hk3⟩
 · have HP : Hid (spanV (getS s.data.toList) = .tuple #[.string ⟨#[]⟩, .int .i64 0, .iface 44 (.int .i64 e)]) := by
     show spanV _=_
     rw [getS_bad hg he];unfold spanV errV;rw [if_neg he];rfl
   have HG:=Lib.hid hg
   clear hg
   rw [HP.out]
   go_enter Tryz.func179,Tryz.ntmps179
   go_wp2_with (go_at_call 152;refine (get_bad _ _ hs2 e HG.out he).mono ?_;rintro r w' ⟨rfl,rfl⟩)
   go_ret3
   exact ⟨rfl,Below.refl _ _⟩
 · rw [←size_data] at hk3
   by_cases h2:2000 < n
   · have HP : Hid (spanV (getS s.data.toList) = .tuple #[.string ⟨#[]⟩, .int .i64 0, .iface 44 (.int .i64 4)]) := by
       show spanV _=_
       rw [getS_big hg h2];rfl
     have HG:=Lib.hid hg
     clear hg
     rw [HP.out]
     go_enter Tryz.func179,Tryz.ntmps179
     go_wp2_with (go_at_call 152;refine (get_ok _ _ hs2 n k HG.out).mono ?_;rintro r w' ⟨rfl,rfl⟩)
     go_ret3
     exact ⟨rfl,Below.refl _ _⟩
   · have h2':n≤2000:=by omega
     by_cases h3:s.size < k + n
     · have HP : Hid (spanV (getS s.data.toList) = .tuple #[.string ⟨#[]⟩, .int .i64 0, .iface 44 (.int .i64 7)]) := by
         show spanV _=_
         rw [getS_miss hg h2 (by rw [←size_data];exact h3)];rfl
       have HG:=Lib.hid hg
       clear hg h2
       rw [HP.out]
       go_enter Tryz.func179,Tryz.ntmps179
       go_wp2_with (go_at_call 152;refine (get_ok _ _ hs2 n k HG.out).mono ?_;rintro r w' ⟨rfl,rfl⟩)
       go_ret3
       exact ⟨rfl,Below.refl _ _⟩
     · have hx:s.extract k (k + n)=⟨((s.data.toList.drop k).take n).toArray⟩:=bs_ext (by rw [ext_data,List.drop_take,Nat.add_sub_cancel_left])
       have hxs:(s.extract k (k + n)).size≤281474976710656:=by rw [ByteArray.size_extract];omega
       have HP:Hid (spanV (getS s.data.toList)=.tuple #[.string (s.extract k (k + n)),.int .i64 ((k:Int) + n),.nilIface]):=by
         show spanV _=_
         rw [getS_ok hg h2 (by rw [←size_data];exact h3),hx];rfl
       have HG:=Lib.hid hg
       have h3':k + n≤s.size:=by omega
       clear hg h2 h3 hx
       rw [HP.out]
       go_enter Tryz.func179,Tryz.ntmps179
       go_wp2_with (first | (go_at_call 152;refine (get_ok _ _ hs2 n k HG.out).mono ?_;rintro r w' ⟨rfl,rfl⟩) | (go_at_call 151;refine (clone_any _ _ hxs).mono ?_;rintro r w1 ⟨rfl,hb1⟩))
       go_ret3
       exact ⟨rfl,by assumption⟩
end Go.Proofs.YtjkbmfpomgcblaaGreatDoor
namespace Go.Proofs.YtjkbmfpomgcblaaGreatDoor
open Go.RowKit
theorem unvary_ok (s:ByteArray) (w:World) (hs:s.size≤maxLen) (n k:Nat) (h:getL s.data.toList=(n,k,0)) :
   Calls Tryz.prog 129 #[.string s] w fun e w'=>e=.returned (.tuple #[.int .u64 n,.int .i64 k,.int .i64 0])∧w=w' :=
 (unvary_any s w hs).mono fun e w' ⟨h1,h2⟩=>⟨h1.trans (by rw [h];rfl),h2⟩
theorem unvary_bad (s:ByteArray) (w:World) (hs:s.size≤maxLen) (e:Nat) (h:getL s.data.toList=(0,0,e)) :
   Calls Tryz.prog 129 #[.string s] w fun r w'=>r=.returned (.tuple #[.int .u64 0,.int .i64 0,.int .i64 e])∧w=w' :=
 (unvary_any s w hs).mono fun r w' ⟨h1,h2⟩=>⟨h1.trans (by rw [h];rfl),h2⟩
set_option maxRecDepth 100000 in
set_option maxHeartbeats 1000000 in
theorem rint_any (s:ByteArray) (most:Int) (w:World) (hs:s.size≤maxLen) (h0 : -9223372036854775808≤most) (h1:most≤9223372036854775807) :
   Calls Tryz.prog 128 #[.string s,.int .i64 most] w fun r w'=>r=.returned (intR (intL s.data.toList most))∧w=w':=by
 rcases getL_cases s.data.toList with ⟨e,hg,he⟩ | ⟨n,k,hg,hn,hk1,hk2,hk3⟩
 · have HP : Hid (intR (intL s.data.toList most) = .tuple #[.int .i64 0, .int .i64 0, .int .i64 e]) := by
     show intR _=_
     rw [intL_bad hg he];rfl
   have HG:=Lib.hid hg
   have hne:((e:Int) != 0)=true:=by simp;omega
   clear hg
   rw [HP.out]
   go_enter Tryz.func128,Tryz.ntmps128
   go_wp2_with (go_at_call 129;refine (unvary_bad _ _ hs e HG.out).mono ?_;rintro r w' ⟨rfl,rfl⟩)
   go_ret3
   exact ⟨rfl,rfl⟩
 · by_cases hm:most < 0
   · have HP : Hid (intR (intL s.data.toList most) = .tuple #[.int .i64 0, .int .i64 0, .int .i64 2]) := by
       show intR _=_
       rw [intL_range hg (.inl hm)];rfl
     have HG:=Lib.hid hg
     clear hg
     rw [HP.out]
     go_enter Tryz.func128,Tryz.ntmps128
     go_wp2_with (go_at_call 129;refine (unvary_ok _ _ hs n k HG.out).mono ?_;rintro r w' ⟨rfl,rfl⟩)
     go_ret3
     exact ⟨rfl,rfl⟩
   · have hm':0≤most:=by omega
     by_cases hr:most < (n:Int)
     · have HP : Hid (intR (intL s.data.toList most) = .tuple #[.int .i64 0, .int .i64 0, .int .i64 2]) := by
         show intR _=_
         rw [intL_range hg (.inr hr)];rfl
       have HG:=Lib.hid hg
       clear hg hm
       rw [HP.out]
       go_enter Tryz.func128,Tryz.ntmps128
       go_wp2_with (go_at_call 129;refine (unvary_ok _ _ hs n k HG.out).mono ?_;rintro r w' ⟨rfl,rfl⟩)
       go_ret3
       exact ⟨rfl,rfl⟩
     · have HP : Hid (intR (intL s.data.toList most) = .tuple #[.int .i64 n, .int .i64 k, .int .i64 0]) := by
         show intR _=_
         rw [intL_ok hg (by omega)];rfl
       have HG:=Lib.hid hg
       have hr':(n:Int)≤most:=by omega
       clear hg hm hr
       rw [HP.out]
       go_enter Tryz.func128,Tryz.ntmps128
       go_wp2_with (go_at_call 129;refine (unvary_ok _ _ hs n k HG.out).mono ?_;rintro r w' ⟨rfl,rfl⟩)
       go_ret3
       exact ⟨rfl,rfl⟩
end Go.Proofs.YtjkbmfpomgcblaaGreatDoor
namespace Go.Proofs.YtjkbmfpomgcblaaGreatDoor
open Go.RowKit
def numB (K N:Int):ByteArray:=if K=3 then ⟨(putL (zigN N).toNat).toArray⟩ else if K=4 then ⟨(putL N.toNat).toArray⟩ else ⟨#[]⟩
def valB (K:Int) (val:ByteArray):ByteArray:=if hasV K=true then spanB val else ⟨#[]⟩
def tailB (K:Int) (val:ByteArray) (N:Int):ByteArray:=numB K N ++ valB K val
def getN (K:Int) (l:List UInt8):Int×Nat×Nat:=if K=3 then (zagN (getL l).1,(getL l).2.1,(getL l).2.2) else if K=4 then (((intL l 1000).1:Int),(intL l 1000).2.1,(intL l 1000).2.2) else (0,0,0)
def getV (K:Int) (l:List UInt8):List UInt8×Nat×Nat:=if hasV K=true then getS l else ([],0,0)
theorem getN_le (K:Int) (l:List UInt8):(getN K l).2.1≤l.length∧(getN K l).2.1≤10:=by
 unfold getN
 rcases getL_cases l with ⟨e,hg,he⟩ | ⟨n,k,hg,hn,hk1,hk2,hk3⟩
 · split
   · rw [hg];simp
   · split
     · rw [intL_bad hg he];simp
     · simp
 · split
   · rw [hg];simp;omega
   · split
     · by_cases hm:(1000:Int) < 0∨(1000:Int) < n
       · rw [intL_range hg hm];simp
       · rw [intL_ok hg hm];simp;omega
     · simp
end Go.Proofs.YtjkbmfpomgcblaaGreatDoor
namespace Go.Proofs.YtjkbmfpomgcblaaGreatDoor
open Go.RowKit
def ownsR (w:World) (base:Nat) (v:Value) (l:List Value):Prop:=w.ownsRow base 22 1 v l.length l
theorem ownsR.alloc {w:World} {base:Nat} {v:Value} {l:List Value} (h:ownsR w base v l) (o:Obj):ownsR (w.alloc o) base v l:=World.ownsRow.alloc h o
theorem ownsR.drewN {w:World} {base:Nat} {v:Value} {l:List Value} (h:ownsR w base v l) (n:Nat):ownsR (w.drewN n) base v l:=h
theorem ownsR.lt {w:World} {base:Nat} {v:Value} {l:List Value} (h:ownsR w base v l):∀ k,v.ownBlock=some k→base≤k∧k < w.heap.size:=World.ownsRow.lt h
theorem ownsR.below {w w':World} {base:Nat} {v:Value} {l:List Value} (h:ownsR w base v l) (hb:Below w.heap.size w w'):ownsR w' base v l:=by
 refine World.ownsRow.kept h (row:=none) ⟨hb.os,hb.tape,hb.output,hb.size,fun k hk _=>hb.block k hk⟩ ?_
 cases hv:v.ownBlock with
 | none=>exact .inl rfl
 | some g=>exact .inr (by simp)
theorem ownsR.forms {w:World} {base:Nat} {v:Value} {l:List Value} (h:ownsR w base v l) :
   (v=.slice none 0 0∧l=[])∨∃ g cap,v=.slice (some ⟨g,0,none⟩) l.length cap∧base≤g∧g < w.heap.size∧(∃ cur,w.heap[g]? = some (.cells cur 22 (0,0)))∧∀ j u,l[j]? = some u→w.cell? ⟨g,j,none⟩=some u:=by
 have hall:=h
 obtain ⟨h0,h1⟩:=h
 rcases h1 with ⟨rfl,hn⟩ | ⟨g,cap,cur,rfl,hb,hh,hc,hm,hs,ht⟩
 · exact .inl ⟨rfl,List.length_eq_zero_iff.1 hn⟩
 · refine .inr ⟨g,cap,rfl,hb,(World.ownsRow.lt hall g rfl).2,⟨cur,hh⟩,fun j u hj=>?_⟩
   have hjl:j < l.length:=(List.getElem?_eq_some_iff.1 hj).1
   rw [World.ownsRow.cellAt hall j (by omega)]
   exact hj
end Go.Proofs.YtjkbmfpomgcblaaGreatDoor
