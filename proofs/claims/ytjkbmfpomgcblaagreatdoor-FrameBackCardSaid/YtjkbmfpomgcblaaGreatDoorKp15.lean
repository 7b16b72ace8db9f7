import Derived.Test.YtjkbmfpomgcblaaGreatDoorKp13
namespace Go.Proofs.YtjkbmfpomgcblaaGreatDoor
def consec:Int→List Ent→Prop
 | _,[]=>True
 | r,e :: t=>e.rep=r∧consec (r + 1) t
theorem consec_snoc {l:List Ent} {e:Ent}:∀ {r:Int},consec r l→e.rep=r + l.length→consec r (l ++ [e]):=by
 induction l with
 | nil=>intro r _ h;exact ⟨by simpa using h,trivial⟩
 | cons d t ih=>intro r h he;exact ⟨h.1,ih h.2 (by rw [he,List.length_cons];omega)⟩
theorem consec_head {l:List Ent} {r:Int} (h:consec r l) (h0:l≠[]):(l.headD ⟨0,0⟩).rep=r:=by
 cases l with
 | nil=>exact absurd rfl h0
 | cons e t=>exact h.1
theorem consec_last {l:List Ent}:∀ {r:Int},consec r l→l≠[]→(l.getLastD ⟨0,0⟩).rep=r + l.length - 1:=by
 induction l with
 | nil=>intro r _ h0;exact absurd rfl h0
 | cons e t ih =>
   intro r h _
   cases t with
   | nil=>have:=h.1;simp;omega
   | cons d u =>
     have h3:=ih h.2 (by simp)
     rw [List.getLastD_cons] at h3 ⊢
     rw [List.getLastD_cons]
     simp only [List.length_cons] at h3 ⊢
     omega
def isRuns:Int→List (List Ent)→Prop
 | _,[]=>True
 | least,run :: rs=>run≠[]∧least≤(run.headD ⟨0,0⟩).rep∧consec (run.headD ⟨0,0⟩).rep run∧isRuns ((run.getLastD ⟨0,0⟩).rep + 2) rs
def cutA:List Ent→List Ent→List (List Ent)
 | _,[]=>[]
 | cur,[e]=>[cur ++ [e]]
 | cur,e :: d :: r=>if e.rep + 1 < d.rep then (cur ++ [e]) :: cutA [] (d :: r) else cutA (cur ++ [e]) (d :: r)
def runsL (l:List Ent):List (List Ent):=cutA [] l
theorem cutA_one (cur:List Ent) (e:Ent):cutA cur [e]=[cur ++ [e]]:=rfl
theorem cutA_cut {cur r:List Ent} {e d:Ent} (h:e.rep + 1 < d.rep):cutA cur (e :: d :: r)=(cur ++ [e]) :: cutA [] (d :: r):=by rw [cutA,if_pos h]
theorem cutA_on {cur r:List Ent} {e d:Ent} (h:¬ e.rep + 1 < d.rep):cutA cur (e :: d :: r)=cutA (cur ++ [e]) (d :: r):=by rw [cutA,if_neg h]
theorem headD_app {l:List Ent} (m:List Ent) (h:l≠[]) (d:Ent):(l ++ m).headD d=l.headD d:=by
 cases l with
 | nil=>exact absurd rfl h
 | cons e t=>rfl
theorem getLastD_snoc (l:List Ent) (e d:Ent):(l ++ [e]).getLastD d=e:=by
 simp
theorem cutA_is (r:List Ent):∀ (cur:List Ent) (e:Ent) (least last:Int),okV last (e :: r)→(cur=[]→least≤e.rep)→(cur≠[]→least≤(cur.headD ⟨0,0⟩).rep∧consec (cur.headD ⟨0,0⟩).rep cur∧e.rep=(cur.headD ⟨0,0⟩).rep + cur.length) →
   isRuns least (cutA cur (e :: r))∧(cutA cur (e :: r)).flatten=cur ++ e :: r:=by
 induction r with
 | nil =>
   intro cur e least last h h0 h1
   rw [cutA_one]
   refine ⟨⟨by simp,?_,?_,trivial⟩,by simp⟩
   · by_cases hc:cur=[]
     · subst hc;exact h0 rfl
     · rw [headD_app _ hc];exact (h1 hc).1
   · by_cases hc:cur=[]
     · subst hc;exact ⟨rfl,trivial⟩
     · rw [headD_app _ hc];exact consec_snoc (h1 hc).2.1 (h1 hc).2.2
 | cons d r ih =>
   intro cur e least last h h0 h1
   have hd:=h.2.1
   rw [wrE_ok] at hd
   have hcons:consec ((cur ++ [e]).headD ⟨0,0⟩).rep (cur ++ [e]):=by
     by_cases hc:cur=[]
     · subst hc;exact ⟨rfl,trivial⟩
     · rw [headD_app _ hc];exact consec_snoc (h1 hc).2.1 (h1 hc).2.2
   have hlow:least≤((cur ++ [e]).headD ⟨0,0⟩).rep:=by
     by_cases hc:cur=[]
     · subst hc;exact h0 rfl
     · rw [headD_app _ hc];exact (h1 hc).1
   by_cases hg:e.rep + 1 < d.rep
   · rw [cutA_cut hg]
     obtain ⟨i1,i2⟩:=ih [] d (e.rep + 2) e.rep h.2 (fun _=>by omega) (fun hn=>absurd rfl hn)
     refine ⟨⟨by simp,hlow,hcons,?_⟩,?_⟩
     · rw [getLastD_snoc];exact i1
     · rw [List.flatten_cons,i2];simp
   · rw [cutA_on hg]
     obtain ⟨i1,i2⟩:=ih (cur ++ [e]) d least e.rep h.2 (fun hn=>absurd hn (by simp)) (fun _=>⟨hlow,hcons,by
       have:=consec_last hcons (by simp)
       rw [getLastD_snoc] at this
       omega⟩)
     exact ⟨i1,by rw [i2];simp⟩
theorem runs_is {l:List Ent} (h:okV (-1) l):isRuns 0 (runsL l)∧(runsL l).flatten=l:=by
 cases l with
 | nil=>exact ⟨trivial,rfl⟩
 | cons e r =>
   have:=h.1
   rw [wrE_ok] at this
   have h2:=cutA_is r [] e 0 (-1) h (fun _=>by omega) (fun hn=>absurd rfl hn)
   exact h2
theorem cutA_run (run:List Ent):∀ (cur:List Ent) (r:Int) (rest:List Ent),consec r run→run≠[]→(∀ e t,rest=e :: t→(run.getLastD ⟨0,0⟩).rep + 1 < e.rep) →
   cutA cur (run ++ rest)=(cur ++ run) :: cutA [] rest:=by
 induction run with
 | nil=>intro _ _ _ _ h;exact absurd rfl h
 | cons e t ih =>
   intro cur r rest h _ hr
   cases t with
   | nil =>
     cases rest with
     | nil=>rfl
     | cons d u =>
       have:=hr d u rfl
       exact cutA_cut (by simpa using this)
   | cons d u =>
     have e1:=h.1
     have e2:=h.2.1
     show cutA cur (e :: d :: (u ++ rest))=_
     rw [cutA_on (by omega)]
     have:=ih (cur ++ [e]) (r + 1) rest h.2 (by simp) (fun x y hx=>by
       have:=hr x y hx
       rw [List.getLastD_cons,List.getLastD_cons] at this
       rw [List.getLastD_cons]
       exact this)
     rw [show d :: (u ++ rest)=(d :: u) ++ rest from rfl,this]
     simp
theorem runs_of {R:List (List Ent)}:∀ {least:Int},isRuns least R→runsL R.flatten=R:=by
 induction R with
 | nil=>intro _ _;rfl
 | cons run rs ih =>
   intro least h
   obtain ⟨h1,h2,h3,h4⟩:=h
   unfold runsL
   rw [List.flatten_cons,cutA_run run [] _ _ h3 h1]
   · have:=ih h4
     unfold runsL at this
     rw [this];rfl
   · intro e t he
     cases rs with
     | nil=>cases he
     | cons run2 rs2 =>
       obtain ⟨g1,g2,g3,_⟩:=h4
       rw [List.flatten_cons] at he
       cases run2 with
       | nil=>exact absurd rfl g1
       | cons d u =>
         simp only [List.cons_append,List.cons.injEq] at he
         obtain ⟨rfl,_⟩:=he
         simp only [List.headD_cons] at g2
         omega
def timesB (l:List Ent):List UInt8:=l.flatMap fun e=>putL e.time.toNat
def runB (least:Int) (run:List Ent):List UInt8:=putL ((run.headD ⟨0,0⟩).rep - least).toNat ++ putL (run.length - 1) ++ timesB run
def runsB:Int→List (List Ent)→List UInt8
 | _,[]=>[]
 | least,run :: rs=>runB least run ++ runsB ((run.getLastD ⟨0,0⟩).rep + 2) rs
def vwriteL (l:List Ent):List UInt8:=putL (runsL l).length ++ runsB 0 (runsL l)
def vwriteF (l:List Ent):List UInt8:=if (vrightF l).1=0 then vwriteL l else []
theorem timesB_cons (e:Ent) (l:List Ent):timesB (e :: l)=putL e.time.toNat ++ timesB l:=by simp [timesB]
theorem timesB_app (a b:List Ent):timesB (a ++ b)=timesB a ++ timesB b:=by simp [timesB]
def tmA:Nat→List UInt8→Nat→Int→List Ent→Nat ⊕ (List Ent×Nat)
 | 0,_,used,_,acc=>.inr (acc,used)
 | k + 1,s,used,r,acc =>
   if (intL s 1099511627776).2.2≠0 then .inl (intL s 1099511627776).2.2
   else tmA k (s.drop (intL s 1099511627776).2.1) (used + (intL s 1099511627776).2.1) (r + 1) (acc ++ [⟨r,(intL s 1099511627776).1⟩])
theorem tmA_bad {k:Nat} {s:List UInt8} {used e:Nat} {r:Int} {acc:List Ent} (h:intL s 1099511627776=(0,0,e)) (he:e≠0):tmA (k + 1) s used r acc=.inl e:=by
 rw [tmA,h,if_pos he]
theorem tmA_ok {k:Nat} {s:List UInt8} {used n j:Nat} {r:Int} {acc:List Ent} (h:intL s 1099511627776=(n,j,0)):tmA (k + 1) s used r acc=tmA k (s.drop j) (used + j) (r + 1) (acc ++ [⟨r,n⟩]):=by
 rw [tmA,h,if_neg (by simp)]
def getR (s:List UInt8) (used:Nat) (least:Int) (acc:List Ent):Nat ⊕ (List Ent×Nat) :=
 if (intL s 200).2.2≠0 then .inl (intL s 200).2.2
 else if (intL (s.drop (intL s 200).2.1) 16).2.2≠0 then .inl (intL (s.drop (intL s 200).2.1) 16).2.2
 else tmA ((intL (s.drop (intL s 200).2.1) 16).1 + 1) ((s.drop (intL s 200).2.1).drop (intL (s.drop (intL s 200).2.1) 16).2.1) (used + (intL s 200).2.1 + (intL (s.drop (intL s 200).2.1) 16).2.1) (least + (intL s 200).1) acc
theorem getR_gap {s:List UInt8} {used e:Nat} {least:Int} {acc:List Ent} (h:intL s 200=(0,0,e)) (he:e≠0):getR s used least acc=.inl e:=by
 unfold getR;rw [h,if_pos he]
theorem getR_many {s:List UInt8} {used e g j:Nat} {least:Int} {acc:List Ent} (h:intL s 200=(g,j,0)) (h2:intL (s.drop j) 16=(0,0,e)) (he:e≠0):getR s used least acc=.inl e:=by
 unfold getR;rw [h];simp only;rw [h2,if_neg (by simp),if_pos he]
theorem getR_ok {s:List UInt8} {used g j c i:Nat} {least:Int} {acc:List Ent} (h:intL s 200=(g,j,0)) (h2:intL (s.drop j) 16=(c,i,0)):getR s used least acc=tmA (c + 1) ((s.drop j).drop i) (used + j + i) (least + g) acc:=by
 unfold getR;rw [h];simp only;rw [h2,if_neg (by simp),if_neg (by simp)]
def rdA:Nat→List UInt8→Nat→Int→List Ent→Nat ⊕ (List Ent×Nat)
 | 0,_,used,_,acc=>.inr (acc,used)
 | k + 1,s,used,least,acc=>match getR s 0 least [] with
   | .inl e=>.inl e
   | .inr (run,j)=>rdA k (s.drop j) (used + j) ((run.getLastD ⟨0,0⟩).rep + 2) (acc ++ run)
theorem rdA_bad {k:Nat} {s:List UInt8} {used e:Nat} {least:Int} {acc:List Ent} (h:getR s 0 least []=.inl e):rdA (k + 1) s used least acc=.inl e:=by rw [rdA,h]
theorem rdA_ok {k:Nat} {s:List UInt8} {used j:Nat} {least:Int} {acc run:List Ent} (h:getR s 0 least []=.inr (run,j)):rdA (k + 1) s used least acc=rdA k (s.drop j) (used + j) ((run.getLastD ⟨0,0⟩).rep + 2) (acc ++ run):=by rw [rdA,h]
def vreadF (s:List UInt8):Nat×Nat×List Ent :=
 if (intL s 16).2.2≠0 then ((intL s 16).2.2,0,[]) else match rdA (intL s 16).1 (s.drop (intL s 16).2.1) (intL s 16).2.1 0 [] with
   | .inl e=>(e,0,[])
   | .inr (l,n)=>if (vrightF l).1≠0 then ((vrightF l).1,0,[]) else (0,n,l)
theorem vread_few {s:List UInt8} {e:Nat} (h:intL s 16=(0,0,e)) (he:e≠0):vreadF s=(e,0,[]):=by unfold vreadF;rw [h,if_pos he]
theorem vread_bad {s:List UInt8} {k j e:Nat} (h:intL s 16=(k,j,0)) (h2:rdA k (s.drop j) j 0 []=.inl e):vreadF s=(e,0,[]):=by unfold vreadF;rw [h,if_neg (by simp)];simp only;rw [h2]
theorem vread_wrong {s:List UInt8} {k j n:Nat} {l:List Ent} (h:intL s 16=(k,j,0)) (h2:rdA k (s.drop j) j 0 []=.inr (l,n)) (h3:(vrightF l).1≠0):vreadF s=((vrightF l).1,0,[]):=by
 unfold vreadF;rw [h,if_neg (by simp)];simp only;rw [h2];simp only;rw [if_pos h3]
theorem vread_ok {s:List UInt8} {k j n:Nat} {l:List Ent} (h:intL s 16=(k,j,0)) (h2:rdA k (s.drop j) j 0 []=.inr (l,n)) (h3:(vrightF l).1=0):vreadF s=(0,n,l):=by
 unfold vreadF;rw [h,if_neg (by simp)];simp only;rw [h2];simp only;rw [if_neg (by simpa using h3)]
theorem intL_cases (l:List UInt8) (most:Int):(∃ e,intL l most=(0,0,e)∧e≠0∧(e=7∨e=4∨e=3∨e=2))∨∃ n k,intL l most=(n,k,0)∧(n:Int)≤most∧1≤k∧k≤10∧k≤l.length∧putL n=l.take k:=by
 rcases getL_cases l with ⟨e,hg,he⟩ | ⟨n,k,hg,hn,hk1,hk2,hk3⟩
 · have h3:=getL_err l
   rw [hg] at h3
   simp only at h3
   exact .inl ⟨e,intL_bad hg he,he,by omega⟩
 · by_cases hm:most < 0∨most < n
   · exact .inl ⟨2,intL_range hg hm,by decide,by omega⟩
   · exact .inr ⟨n,k,intL_ok hg hm,by omega,hk1,hk2,hk3,(getL_only hg).2.2⟩
theorem intL_put (n:Nat) (more:List UInt8) (most:Int) (h:(n:Int)≤most) (hn:n≤1099511627776):intL (putL n ++ more) most=(n,(putL n).length,0) :=
 intL_ok (getL_put n more (by omega)) (by omega)
theorem tmA_put (run:List Ent):∀ (r:Int) (more:List UInt8) (used:Nat) (acc:List Ent),consec r run→(∀ e∈run,0≤e.time∧e.time≤1099511627776) →
   tmA run.length (timesB run ++ more) used r acc=.inr (acc ++ run,used + (timesB run).length):=by
 induction run with
 | nil=>intro r more used acc _ _;simp [tmA,timesB]
 | cons e t ih =>
   intro r more used acc h hb
   have hb1:=hb e List.mem_cons_self
   rw [timesB_cons,List.length_cons,List.append_assoc,tmA_ok (intL_put e.time.toNat _ _ (by omega) (by omega)),List.drop_left,ih _ _ _ _ h.2 (fun x hx=>hb x (List.mem_cons_of_mem _ hx))]
   have e1:(⟨r,(e.time.toNat:Nat)⟩:Ent)=e:=by
     have:=h.1
     cases e;simp only at this hb1 ⊢;congr 1 <;> omega
   rw [e1,List.length_append]
   simp;omega
theorem getR_put {run:List Ent} {least:Int} (more:List UInt8) (used:Nat) (acc:List Ent) (h0:run≠[]) (h1:least≤(run.headD ⟨0,0⟩).rep) (h2:consec (run.headD ⟨0,0⟩).rep run) (hg:(run.headD ⟨0,0⟩).rep - least≤200) (hl:run.length≤17)
   (hb:∀ e∈run,0≤e.time∧e.time≤1099511627776):getR (runB least run ++ more) used least acc=.inr (acc ++ run,used + (runB least run).length):=by
 have hlen:0 < run.length:=List.length_pos_iff.2 h0
 unfold runB
 rw [List.append_assoc,List.append_assoc]
 have e1:=intL_put ((run.headD ⟨0,0⟩).rep - least).toNat (putL (run.length - 1) ++ (timesB run ++ more)) 200 (by omega) (by omega)
 rw [getR_ok e1 (c:=run.length - 1) (i:=(putL (run.length - 1)).length) (by rw [List.drop_left];exact intL_put _ _ _ (by omega) (by omega)),List.drop_left,List.drop_left]
 rw [show run.length - 1 + 1=run.length by omega,show least + ((((run.headD ⟨0,0⟩).rep - least).toNat:Nat):Int)=(run.headD ⟨0,0⟩).rep by omega,tmA_put run _ _ _ _ h2 hb]
 simp only [List.length_append]
 congr 2;omega
theorem rdA_put (R:List (List Ent)):∀ (least:Int) (more:List UInt8) (used:Nat) (acc:List Ent),isRuns least R→0≤least→(∀ run∈R,run.length≤17∧∀ e∈run,0≤e.rep∧e.rep≤200∧0≤e.time∧e.time≤1099511627776) →
   rdA R.length (runsB least R ++ more) used least acc=.inr (acc ++ R.flatten,used + (runsB least R).length):=by
 induction R with
 | nil=>intro least more used acc _ _ _;simp [rdA,runsB]
 | cons run rs ih =>
   intro least more used acc h hl0 hb
   obtain ⟨h1,h2,h3,h4⟩:=h
   obtain ⟨hl,he⟩:=hb run List.mem_cons_self
   have hlast:=consec_last h3 h1
   have hlen:0 < run.length:=List.length_pos_iff.2 h1
   have hhead:(run.headD ⟨0,0⟩).rep≤200:=by
     cases run with
     | nil=>exact absurd rfl h1
     | cons e t=>exact (he e List.mem_cons_self).2.1
   rw [runsB,List.append_assoc,List.length_cons,rdA_ok (getR_put _ 0 [] h1 h2 h3 (by omega) hl (fun e hm=>(he e hm).2.2)),List.nil_append,Nat.zero_add,List.drop_left,
     ih _ _ _ _ h4 (by omega) (fun r hr=>hb r (List.mem_cons_of_mem _ hr))]
   rw [List.flatten_cons,List.length_append,List.append_assoc]
   congr 2;omega
theorem vread_write {l:List Ent} (h:rightV l) (more:List UInt8):vreadF (vwriteL l ++ more)=(0,(vwriteL l).length,l):=by
 obtain ⟨h1,h2⟩:=runs_is h.2
 have hall:∀ run∈runsL l,run.length≤17∧∀ e∈run,0≤e.rep∧e.rep≤200∧0≤e.time∧e.time≤1099511627776:=by
   intro run hr
   have hsub:∀ e∈run,e∈l:=fun e he=>by rw [←h2];exact List.mem_flatten.2 ⟨run,hr,he⟩
   have hle:run.length≤l.length:=by rw [←h2];exact (List.sublist_flatten_of_mem hr).length_le
   refine ⟨by have:=h.1;omega,fun e he=>?_⟩
   have:=okV_mem h.2 e (hsub e he);omega
 have hnum:(runsL l).length≤l.length:=by
   have:∀ (R:List (List Ent)) (least:Int),isRuns least R→R.length≤R.flatten.length:=by
     intro R
     induction R with
     | nil=>intro _ _;exact Nat.le_refl _
     | cons run rs ih =>
       intro least hR
       have:=ih _ hR.2.2.2
       have h3:0 < run.length:=List.length_pos_iff.2 hR.1
       rw [List.flatten_cons,List.length_append,List.length_cons];omega
   have h4:=this _ _ h1
   rw [h2] at h4;exact h4
 have hl:=h.1
 unfold vwriteL
 rw [List.append_assoc]
 have e1:=intL_put (runsL l).length (runsB 0 (runsL l) ++ more) 16 (by omega) (by omega)
 have e2:=rdA_put (runsL l) 0 more (putL (runsL l).length).length [] h1 (Int.le_refl _) hall
 rw [List.nil_append,h2] at e2
 rw [vread_ok e1 (by rw [List.drop_left];exact e2) ((vright_ok l).2 h),List.length_append]
theorem tmA_only (k:Nat):∀ (s:List UInt8) (used:Nat) (r:Int) (acc l:List Ent) (n:Nat),tmA k s used r acc=.inr (l,n) →
   ∃ run,l=acc ++ run∧run.length=k∧consec r run∧used≤n∧n≤used + s.length∧timesB run=s.take (n - used)∧∀ e∈run,0≤e.time∧e.time≤1099511627776:=by
 induction k with
 | zero =>
   intro s used r acc l n h
   rw [tmA] at h
   injection h with h
   injection h with h1 h2
   subst h1;subst h2
   exact ⟨[],by simp,rfl,trivial,Nat.le_refl _,by omega,by simp [timesB],fun e h=>by cases h⟩
 | succ k ih =>
   intro s used r acc l n h
   rcases intL_cases s 1099511627776 with ⟨e,hi,he,_⟩ | ⟨t,j,hi,ht,hj1,hj2,hj3,hp⟩
   · rw [tmA_bad hi he] at h;cases h
   · rw [tmA_ok hi] at h
     obtain ⟨run,rfl,h2,h3,h4,h5,h6,h7⟩:=ih _ _ _ _ _ _ h
     rw [List.length_drop] at h5
     refine ⟨⟨r,t⟩ :: run,by simp,by simp [h2],⟨rfl,h3⟩,by omega,by omega,?_,?_⟩
     · rw [timesB_cons,h6]
       simp only [Int.toNat_natCast]
       rw [hp,←List.take_add,show j + (n - (used + j))=n - used by omega]
     · intro e he
       rcases List.mem_cons.1 he with rfl | he
       · simp only;omega
       · exact h7 e he
theorem getR_only {s:List UInt8} {used n:Nat} {least:Int} {acc l:List Ent} (h:getR s used least acc=.inr (l,n)) :
   ∃ run,l=acc ++ run∧run≠[]∧run.length≤17∧least≤(run.headD ⟨0,0⟩).rep∧(run.headD ⟨0,0⟩).rep≤least + 200∧consec (run.headD ⟨0,0⟩).rep run∧used≤n∧n≤used + s.length∧runB least run=s.take (n - used)∧∀ e∈run,0≤e.time∧e.time≤1099511627776:=by
 rcases intL_cases s 200 with ⟨e,hi,he,_⟩ | ⟨g,j,hi,hg,hj1,hj2,hj3,hp⟩
 · rw [getR_gap hi he] at h;cases h
 · rcases intL_cases (s.drop j) 16 with ⟨e,hi2,he,_⟩ | ⟨c,i,hi2,hc,hi1,hi3,hi4,hp2⟩
   · rw [getR_many hi hi2 he] at h;cases h
   · rw [getR_ok hi hi2] at h
     obtain ⟨run,rfl,h2,h3,h4,h5,h6,h7⟩:=tmA_only _ _ _ _ _ _ _ h
     have hne:run≠[]:=by intro e;rw [e] at h2;simp at h2
     have hh:=consec_head h3 hne
     rw [List.length_drop] at hi4
     rw [List.length_drop,List.length_drop] at h5
     refine ⟨run,rfl,hne,by omega,by omega,by omega,by rw [hh];exact h3,by omega,by omega,?_,h7⟩
     unfold runB
     rw [hh,h6,show (least + (g:Int) - least).toNat=g by omega,show run.length - 1=c by omega,hp,hp2,←List.take_add,List.drop_drop,←List.take_add]
     congr 1;omega
theorem rdA_only (k:Nat):∀ (s:List UInt8) (used:Nat) (least:Int) (acc l:List Ent) (n:Nat),rdA k s used least acc=.inr (l,n) →
   ∃ R,l=acc ++ R.flatten∧R.length=k∧isRuns least R∧used≤n∧n≤used + s.length∧runsB least R=s.take (n - used):=by
 induction k with
 | zero =>
   intro s used least acc l n h
   rw [rdA] at h
   injection h with h
   injection h with h1 h2
   subst h1;subst h2
   exact ⟨[],by simp,rfl,trivial,Nat.le_refl _,by omega,by simp [runsB]⟩
 | succ k ih =>
   intro s used least acc l n h
   match hg:getR s 0 least [] with
   | .inl e=>rw [rdA_bad hg] at h;cases h
   | .inr (run,j) =>
     rw [rdA_ok hg] at h
     obtain ⟨run',hr,g1,_,g3,_,g4,g5,g6,g7,g8⟩:=getR_only hg
     rw [List.nil_append] at hr
     subst hr
     obtain ⟨R,rfl,h2,h3,h4,h5,h6⟩:=ih _ _ _ _ _ _ h
     rw [List.length_drop] at h5
     refine ⟨run :: R,by simp,by simp [h2],⟨g1,g3,g4,h3⟩,by omega,by omega,?_⟩
     rw [runsB,g7,h6,Nat.sub_zero,←List.take_add]
     congr 1;omega
theorem vread_only {s:List UInt8} {n:Nat} {l:List Ent} (h:vreadF s=(0,n,l)):rightV l∧1≤n∧n≤s.length∧vwriteL l=s.take n:=by
 rcases intL_cases s 16 with ⟨e,hi,he,_⟩ | ⟨k,j,hi,hk,hj1,hj2,hj3,hp⟩
 · rw [vread_few hi he] at h
   simp only [Prod.mk.injEq] at h
   exact absurd h.1 he
 · match hr:rdA k (s.drop j) j 0 [] with
   | .inl e =>
     rw [vread_bad hi hr] at h
     simp only [Prod.mk.injEq] at h
     obtain ⟨rfl,_⟩:=h
     exact absurd hr (by
       have hgr:∀ (s:List UInt8) (least:Int),getR s 0 least []≠.inl 0:=by
         have htm:∀ (k:Nat) (s:List UInt8) (used:Nat) (r:Int) (acc:List Ent),tmA k s used r acc≠.inl 0:=by
           intro k
           induction k with
           | zero=>intro s used r acc h;cases h
           | succ k ih =>
             intro s used r acc h
             rcases intL_cases s 1099511627776 with ⟨e,hi,he,_⟩ | ⟨t,j,hi,_⟩
             · rw [tmA_bad hi he] at h;injection h with h;exact he h
             · rw [tmA_ok hi] at h;exact ih _ _ _ _ h
         intro s least h
         rcases intL_cases s 200 with ⟨e,hi,he,_⟩ | ⟨g,j,hi,_⟩
         · rw [getR_gap hi he] at h;injection h with h;exact he h
         · rcases intL_cases (s.drop j) 16 with ⟨e,hi2,he,_⟩ | ⟨c,i,hi2,_⟩
           · rw [getR_many hi hi2 he] at h;injection h with h;exact he h
           · rw [getR_ok hi hi2] at h;exact htm _ _ _ _ _ h
       have:∀ (k:Nat) (s:List UInt8) (used:Nat) (least:Int) (acc:List Ent),rdA k s used least acc≠.inl 0:=by
         intro k
         induction k with
         | zero=>intro s used least acc h;cases h
         | succ k ih =>
           intro s used least acc h
           match hg:getR s 0 least [] with
           | .inl e=>rw [rdA_bad hg] at h;injection h with h;subst h;exact hgr _ _ hg
           | .inr (run,j)=>rw [rdA_ok hg] at h;exact ih _ _ _ _ h
       exact this _ _ _ _ _)
   | .inr (m,i) =>
     by_cases hw:(vrightF m).1=0
     · rw [vread_ok hi hr hw] at h
       simp only [Prod.mk.injEq,true_and] at h
       obtain ⟨rfl,rfl⟩:=h
       obtain ⟨R,hl,h2,h3,h4,h5,h6⟩:=rdA_only _ _ _ _ _ _ _ hr
       rw [List.nil_append] at hl
       rw [List.length_drop] at h5
       refine ⟨(vright_ok m).1 hw,by omega,by omega,?_⟩
       have e1:=runs_of h3
       rw [←hl] at e1
       unfold vwriteL
       rw [e1,h2,h6,hp,←List.take_add]
       congr 1;omega
     · rw [vread_wrong hi hr hw] at h
       simp only [Prod.mk.injEq] at h
       exact absurd h.1 hw
end Go.Proofs.YtjkbmfpomgcblaaGreatDoor
namespace Go.Proofs.YtjkbmfpomgcblaaGreatDoor
open Go.RowKit
def spanL (l:List UInt8):List UInt8:=putL l.length ++ l
def spanB (s:ByteArray):ByteArray:=⟨(putL s.size).toArray⟩ ++ s
theorem spanB_data (s:ByteArray):(spanB s).data.toList=spanL s.data.toList:=by unfold spanB spanL;rw [app_data,←size_data]
theorem spanB_size (s:ByteArray):(spanB s).size=(putL s.size).length + s.size:=by unfold spanB;rw [app_size,bs_size]
def getS (l:List UInt8):List UInt8×Nat×Nat :=
 if (getL l).2.2≠0 then ([],0,(getL l).2.2) else if 2000 < (getL l).1 then ([],0,4) else if l.length < (getL l).2.1 + (getL l).1 then ([],0,7)
 else ((l.drop (getL l).2.1).take (getL l).1,(getL l).2.1 + (getL l).1,0)
theorem getS_bad {l:List UInt8} {e:Nat} (h:getL l=(0,0,e)) (he:e≠0):getS l=([],0,e):=by
 unfold getS;rw [h];rw [if_pos (by exact he)]
theorem getS_big {l:List UInt8} {n k:Nat} (h:getL l=(n,k,0)) (hn:2000 < n):getS l=([],0,4):=by
 unfold getS;rw [h];rw [if_neg (by simp),if_pos (by exact hn)]
theorem getS_miss {l:List UInt8} {n k:Nat} (h:getL l=(n,k,0)) (hn:¬ 2000 < n) (hl:l.length < k + n):getS l=([],0,7):=by
 unfold getS;rw [h];rw [if_neg (by simp),if_neg (by exact hn),if_pos (by exact hl)]
theorem getS_ok {l:List UInt8} {n k:Nat} (h:getL l=(n,k,0)) (hn:¬ 2000 < n) (hl:¬ l.length < k + n):getS l=((l.drop k).take n,k + n,0):=by
 unfold getS;rw [h];rw [if_neg (by simp),if_neg (by exact hn),if_neg (by exact hl)]
def spanV (r:List UInt8×Nat×Nat):Value:=.tuple #[.string ⟨r.1.toArray⟩,.int .i64 r.2.1,errV r.2.2]
theorem clone_any (s:ByteArray) (w:World) (hs:s.size≤281474976710656) :
   Calls Tryz.prog 151 #[.string s] w fun e w'=>e=.returned (.string s)∧Below w.heap.size w w':=by
 go_enter Tryz.func151,Tryz.ntmps151
 go_wp2_with fail
 refine (Tryz.stringslite_Clone s _ hs).mono ?_
 rintro r w1 ⟨rfl,hb⟩
 have HB:=Lib.hid hb
 clear hb
 go_wp2
 go_ret
 exact ⟨rfl,HB.out⟩
set_option maxRecDepth 100000 in
set_option maxHeartbeats 1000000 in
theorem sput_ok (s:ByteArray) (w:World) (hs:s.size≤2000) :
   Calls Tryz.prog 93 #[.string s] w fun r w'=>r=.returned (.tuple #[.string (spanB s),.nilIface])∧Below w.heap.size w w':=by
 have hl:=putL_le10 (n:=s.size) (by omega)
 have HP:Hid (spanB s=⟨(putL s.size).toArray⟩ ++ s):=rfl
 go_enter Tryz.func93,Tryz.ntmps93
 go_wp2_with (go_at_call 89;refine (put_nat s.size _ (by omega)).mono ?_;rintro r w1 ⟨rfl,hb1⟩)
 go_ret2
 exact ⟨by rw [HP.out];rfl,by assumption⟩
set_option maxRecDepth 100000 in
set_option maxHeartbeats 2000000 in
theorem sget_any (s:ByteArray) (w:World) (hs:s.size≤140737488351232) :
   Calls Tryz.prog 179 #[.string s] w fun r w'=>r=.returned (spanV (getS s.data.toList))∧Below w.heap.size w w':=by
 have hs2:s.size≤maxLen:=by unfold maxLen;omega
 rcases getL_cases s.data.toList with ⟨e,hg,he⟩ | ⟨n,k,hg,hn,hk1,hk2,hk3⟩
 · have HP : Hid (spanV (getS s.data.toList) = .tuple #[.string ⟨#[]⟩, .int .i64 0, .iface 44 (.int .i64 e)]) := by
     show spanV _=_
     rw [getS_bad hg he];unfold spanV errV;rw [if_neg he];rfl
   have HG:=Lib.hid hg
   clear hg
   rw [HP.out]
   go_enter Tryz.func179,Tryz.ntmps179
   go_wp2_with (go_at_call 152;refine (get_bad _ _ hs2 e HG.out he).mono ?_;rintro r w' ⟨rfl,rfl⟩)
   go_ret3
   exact ⟨rfl,Below.refl _ _⟩
 · rw [←size_data] at hk3
   by_cases h2:2000 < n
   · have HP : Hid (spanV (getS s.data.toList) = .tuple #[.string ⟨#[]⟩, .int .i64 0, .iface 44 (.int .i64 4)]) := by
       show spanV _=_
       rw [getS_big hg h2];rfl
     have HG:=Lib.hid hg
     clear hg
     rw [HP.out]
     go_enter Tryz.func179,Tryz.ntmps179
     go_wp2_with (go_at_call 152;refine (get_ok _ _ hs2 n k HG.out).mono ?_;rintro r w' ⟨rfl,rfl⟩)
     go_ret3
     exact ⟨rfl,Below.refl _ _⟩
   · have h2':n≤2000:=by omega
     by_cases h3:s.size < k + n
     · have HP : Hid (spanV (getS s.data.toList) = .tuple #[.string ⟨#[]⟩, .int .i64 0, .iface 44 (.int .i64 7)]) := by
         show spanV _=_
         rw [getS_miss hg h2 (by rw [←size_data];exact h3)];rfl
       have HG:=Lib.hid hg
       clear hg h2
       rw [HP.out]
       go_enter Tryz.func179,Tryz.ntmps179
       go_wp2_with (go_at_call 152;refine (get_ok _ _ hs2 n k HG.out).mono ?_;rintro r w' ⟨rfl,rfl⟩)
       go_ret3
       exact ⟨rfl,Below.refl _ _⟩
     · have hx:s.extract k (k + n)=⟨((s.data.toList.drop k).take n).toArray⟩:=bs_ext (by rw [ext_data,List.drop_take,Nat.add_sub_cancel_left])
       have hxs:(s.extract k (k + n)).size≤281474976710656:=by rw [ByteArray.size_extract];omega
       have HP:Hid (spanV (getS s.data.toList)=.tuple #[.string (s.extract k (k + n)),.int .i64 ((k:Int) + n),.nilIface]):=by
         show spanV _=_
         rw [getS_ok hg h2 (by rw [←size_data];exact h3),hx];rfl
       have HG:=Lib.hid hg
       have h3':k + n≤s.size:=by omega
       clear hg h2 h3 hx
       rw [HP.out]
       go_enter Tryz.func179,Tryz.ntmps179
       go_wp2_with (first | (go_at_call 152;refine (get_ok _ _ hs2 n k HG.out).mono ?_;rintro r w' ⟨rfl,rfl⟩) | (go_at_call 151;refine (clone_any _ _ hxs).mono ?_;rintro r w1 ⟨rfl,hb1⟩))
       go_ret3
       exact ⟨rfl,by assumption⟩
end Go.Proofs.YtjkbmfpomgcblaaGreatDoor
