import Derived.Test.YtddbpnplbcjpgaaGreatDoorLp09
namespace Go.Proofs.YtddbpnplbcjpgaaGreatDoor
def maxT (l:List Ent):Int:=l.foldl (fun a e=>max a e.time) 0
theorem maxT_from (l:List Ent):∀ a:Int,a≤l.foldl (fun a e=>max a e.time) a∧∀ e∈l,e.time≤l.foldl (fun a e=>max a e.time) a:=by
 induction l with
 | nil=>intro a;exact ⟨Int.le_refl _,fun e h=>(by cases h)⟩
 | cons d r ih =>
   intro a
   rw [List.foldl_cons]
   obtain ⟨h1,h2⟩:=ih (max a d.time)
   refine ⟨by omega,fun e he=>?_⟩
   rcases List.mem_cons.1 he with rfl | he
   · omega
   · exact h2 e he
theorem maxT_pos (l:List Ent):0≤maxT l:=(maxT_from l 0).1
theorem ofF_maxT (l:List Ent) (r:Int):ofF l r≤maxT l:=by
 by_cases h:ofF l r=0
 · have:=maxT_pos l;omega
 · obtain ⟨e,he,_,h2⟩:=ofF_has h
   have:=(maxT_from l 0).2 e he
   unfold maxT
   omega
def lcW (s:LogS) (w:Wr):Wr:={ w with time:=maxT s.hv + 1,rep:=s.rep }
def lcJ (s:LogS):Nat×List Ent:=joinR s.hv [⟨s.rep,maxT s.hv + 1⟩]
def lcE (s:LogS) (w:Wr):Nat:=if 1099511627776≤maxT s.hv then 4 else if wE (lcW s w)≠0 then wE (lcW s w) else if 300≤s.ws.length then 12 else (lcJ s).1
def lcS (s:LogS) (w:Wr):LogS:=⟨s.rep,(lcJ s).2,s.ws ++ [lcW s w]⟩
theorem lcE_ok {s:LogS} {w:Wr} (h:lcE s w=0):maxT s.hv < 1099511627776∧wE (lcW s w)=0∧s.ws.length < 300∧(lcJ s).1=0:=by
 unfold lcE at h
 split at h
 · cases h
 · split at h
   · rename_i h2;exact absurd h h2
   · split at h
     · cases h
     · rename_i h1 h2 h3;exact ⟨by omega,by simpa using h2,by omega,h⟩
theorem joinR_right {a b:List Ent} (h:(joinR a b).1=0):rightV a∧rightV b∧rightV (joinR a b).2∧∀ r,ofF (joinR a b).2 r=max (ofF a r) (ofF b r):=by
 by_cases h1:(vrightF a).1=0
 · by_cases h2:(vrightF b).1=0
   · by_cases h3:16 < (joinL a b).length
     · rw [joinR_many h1 h2 h3] at h;cases h
     · rw [joinR_ok h1 h2 h3]
       have ra:=(vright_ok a).1 h1
       have rb:=(vright_ok b).1 h2
       exact ⟨ra,rb,⟨(by show (joinL a b).length≤16;omega),join_okV ra.2 rb.2⟩,join_of ra.2 rb.2⟩
   · rw [joinR_b h1 h2] at h;exact absurd h h2
 · rw [joinR_a h1] at h;exact absurd h h1
theorem ofF_one (r t x:Int):ofF [⟨r,t⟩] x=if r=x then t else 0:=by
 by_cases h:r=x
 · rw [ofF_at h,if_pos h]
 · rw [ofF_on h,if_neg h];rfl
theorem lcJ_of {s:LogS} (hs:LogOk s) (h:(lcJ s).1=0) (x:Int):ofF (lcJ s).2 x=if s.rep=x then maxT s.hv + 1 else ofF s.hv x:=by
 have h1:=(joinR_right h).2.2.2 x
 unfold lcJ
 rw [h1,ofF_one]
 have h2:=ofF_maxT s.hv x
 have h3:=ofF_bd hs.hv.2 x
 split <;> omega
theorem local_ok {s:LogS} (hs:LogOk s) {w:Wr} (h:lcE s w=0):LogOk (lcS s w):=by
 obtain ⟨h1,h2,h3,h4⟩:=lcE_ok h
 refine ⟨hs.rep,(joinR_right h4).2.2.1,?_,fun x hx=>?_,?_⟩
 · show (s.ws ++ [lcW s w]).Pairwise late
   rw [List.pairwise_append]
   refine ⟨hs.srt,List.pairwise_singleton _ _,fun a ha b hb=>?_⟩
   obtain rfl:=List.mem_singleton.1 hb
   have h5:=(hs.mem a ha).2
   have h6:=ofF_maxT s.hv a.rep
   exact late_lt.2 (.inl (by show a.time < maxT s.hv + 1;omega))
 · have hx':x∈s.ws ++ [lcW s w]:=hx
   show wE x=0∧x.time≤ofF (lcJ s).2 x.rep
   rw [lcJ_of hs h4]
   rcases List.mem_append.1 hx' with hx | hx
   · obtain ⟨g1,g2⟩:=hs.mem x hx
     refine ⟨g1,?_⟩
     have h6:=ofF_maxT s.hv x.rep
     split <;> omega
   · obtain rfl:=List.mem_singleton.1 hx
     refine ⟨h2,?_⟩
     rw [if_pos (show s.rep=(lcW s w).rep from rfl)]
     exact Int.le_refl _
 · show (s.ws ++ [lcW s w]).length≤300
   rw [List.length_append];simp;omega
def clash (ws:List Wr) (x:Wr):Prop:=∃ y∈ws,wid y=wid x∧y≠x
open Classical in
noncomputable def twA (ws:List Wr):List Wr→Nat→Option Nat
 | [],_=>none
 | x :: r,i=>if clash ws x then some i else twA ws r (i + 1)
def freshW (ws b:List Wr):List Wr:=b.filter (fun x=>!ws.any (fun y=>decide (wid y=wid x)))
noncomputable def accE (s:LogS) (f h:List Ent) (b:List Wr):Nat×Int :=
 if (batF f h b).1≠0 then batF f h b else if covB s.hv f=false then (10,-1) else if (joinR s.hv h).1≠0 then ((joinR s.hv h).1,-1) else
   match twA s.ws b 0 with
   | some i=>(9,(i:Int))
   | none=>if 300 < s.ws.length + (freshW s.ws b).length then (12,-1) else (0,-1)
def accS (s:LogS) (h:List Ent) (b:List Wr):LogS:=⟨s.rep,(joinR s.hv h).2,sortW (s.ws ++ freshW s.ws b)⟩
theorem twA_none {ws:List Wr} (b:List Wr):∀ i,twA ws b i=none↔∀ x∈b,¬ clash ws x:=by
 induction b with
 | nil=>intro i;exact ⟨fun _ x h=>(by cases h),fun _=>rfl⟩
 | cons x r ih =>
   intro i
   rw [twA]
   by_cases h:clash ws x
   · rw [if_pos h]
     exact ⟨fun e=>(by cases e),fun k=>absurd h (k x List.mem_cons_self)⟩
   · rw [if_neg h,ih]
     exact ⟨fun k y hy=>by
       rcases List.mem_cons.1 hy with rfl | hy
       · exact h
       · exact k y hy,fun k y hy=>k y (List.mem_cons_of_mem _ hy)⟩
theorem freshW_mem {ws b:List Wr} {x:Wr}:x∈freshW ws b↔x∈b∧∀ y∈ws,wid y≠wid x:=by
 unfold freshW
 rw [List.mem_filter]
 simp
theorem accE_ok {s:LogS} {f h:List Ent} {b:List Wr} (ha:(accE s f h b).1=0):rightB f h b∧covB s.hv f=true∧(joinR s.hv h).1=0∧(∀ x∈b,¬ clash s.ws x)∧s.ws.length + (freshW s.ws b).length≤300:=by
 unfold accE at ha
 split at ha
 · rename_i h1;exact absurd ha h1
 · rename_i h1
   split at ha
   · simp at ha
   · rename_i h2
     split at ha
     · rename_i h3;exact absurd ha h3
     · rename_i h3
       split at ha
       · simp at ha
       · rename_i h4
         split at ha
         · simp at ha
         · rename_i h5
           exact ⟨by unfold rightB;simpa using h1,by simpa using h2,by simpa using h3,(twA_none b 0).1 h4,by omega⟩
theorem accept_ok {s:LogS} (hs:LogOk s) {f h:List Ent} {b:List Wr} (ha:(accE s f h b).1=0):LogOk (accS s h b):=by
 obtain ⟨h1,_,h3,_,h5⟩:=accE_ok ha
 obtain ⟨_,_,hr,hj⟩:=joinR_right h3
 have hb:=(rightB_iff.1 h1).2.2
 refine ⟨hs.rep,hr,?_,fun x hx=>?_,?_⟩
 · refine sortW_late ?_
   show (s.ws ++ freshW s.ws b).Pairwise _
   rw [List.pairwise_append]
   exact ⟨late_idsOk hs.srt,late_idsOk (hb.2.filter _),fun a ha c hc=>(freshW_mem.1 hc).2 a ha⟩
 · have hx':x∈s.ws ++ freshW s.ws b:=sortW_mem.1 hx
   show wE x=0∧x.time≤ofF (joinR s.hv h).2 x.rep
   rw [hj]
   rcases List.mem_append.1 hx' with hx | hx
   · obtain ⟨g1,g2⟩:=hs.mem x hx
     exact ⟨g1,by omega⟩
   · obtain ⟨g1,g2⟩:=hb.1 x (freshW_mem.1 hx).1
     refine ⟨g1,?_⟩
     unfold wiF wid at g2
     simp only [Bool.and_eq_true,decide_eq_true_eq] at g2
     omega
 · show (sortW (s.ws ++ freshW s.ws b)).length≤300
   rw [sortW_len,List.length_append];exact h5
structure Party (U:List Wr) (L:List LogS):Prop where
 ids:∀ x∈U,∀ y∈U,wid x=wid y→x=y
 ok:∀ s∈L,LogOk s
 rep:∀ (i:Nat) s,L[i]? = some s→s.rep=i
 own:∀ (i:Nat) s,L[i]? = some s→∀ x∈U,x.rep=i→x.time≤ofF s.hv i
 cov:∀ (i:Nat) s,L[i]? = some s→∀ t∈L,ofF t.hv i≤ofF s.hv i
 out:∀ s∈L,∀ r:Int,(r < 0∨(L.length:Int)≤r)→ofF s.hv r=0
 ws:∀ s∈L,∀ x,x∈s.ws↔x∈U∧x.time≤ofF s.hv x.rep
theorem set_at {α:Type} {L:List α} {i j:Nat} {a b:α} (h:(L.set i a)[j]? = some b):(j=i∧b=a)∨(j≠i∧L[j]? = some b):=by
 by_cases e:j=i
 · subst e
   rw [List.getElem?_set_self' ] at h
   cases h2:L[j]? with
   | none=>rw [h2] at h;cases h
   | some c=>rw [h2] at h;left;exact ⟨rfl,(Option.some.inj h).symm⟩
 · right
   rw [List.getElem?_set_ne (fun e2=>e e2.symm)] at h
   exact ⟨e,h⟩
theorem set_mem {α:Type} {L:List α} {i:Nat} {a b:α} (h:b∈L.set i a):b=a∨b∈L:=by
 rcases List.mem_or_eq_of_mem_set h with h | h
 · exact .inr h
 · exact .inl h
end Go.Proofs.YtddbpnplbcjpgaaGreatDoor
namespace Go.Proofs.YtddbpnplbcjpgaaGreatDoor
def accW (ws b:List Wr):List Wr:=sortW (ws ++ freshW ws b)
theorem accW_mem {ws b:List Wr} {x:Wr}:x∈accW ws b↔x∈ws∨x∈freshW ws b:=by unfold accW;rw [sortW_mem,List.mem_append]
theorem accW_len (ws b:List Wr):(accW ws b).length=ws.length + (freshW ws b).length:=by unfold accW;rw [sortW_len,List.length_append]
theorem accW_late {ws b:List Wr} (hw:ws.Pairwise late) (hb:b.Pairwise late):(accW ws b).Pairwise late:=by
 refine sortW_late ?_
 show (ws ++ freshW ws b).Pairwise _
 rw [List.pairwise_append]
 exact ⟨late_idsOk hw,late_idsOk (hb.filter _),fun a ha c hc=>(freshW_mem.1 hc).2 a ha⟩
theorem accW_nil {ws:List Wr} (hw:ws.Pairwise late):accW ws []=ws :=
 late_ext (accW_late hw List.Pairwise.nil) hw (fun c=>by rw [accW_mem,freshW_mem];simp)
theorem take_late {b:List Wr} (hb:b.Pairwise late) (k:Nat):(b.take k).Pairwise late:=hb.sublist (List.take_sublist k b)
theorem take_one {b:List Wr} {k:Nat} {x:Wr} (hx:b[k]? = some x):b.take (k + 1)=b.take k ++ [x]:=by rw [List.take_add_one,hx];rfl
theorem take_ne {b:List Wr} (hb:b.Pairwise late) {k:Nat} {x:Wr} (hx:b[k]? = some x):∀ y∈b.take k,wid y≠wid x:=by
 intro y hy
 have h:=take_late hb (k + 1)
 rw [take_one hx,List.pairwise_append] at h
 exact late_ne (h.2.2 y hy x List.mem_cons_self)
theorem fresh_snoc {ws b:List Wr} {k:Nat} {x:Wr} (hx:b[k]? = some x) (y:Wr):y∈freshW ws (b.take (k + 1))↔y∈freshW ws (b.take k)∨y=x∧∀ z∈ws,wid z≠wid x:=by
 rw [take_one hx,freshW_mem,freshW_mem,List.mem_append,List.mem_singleton]
 constructor
 · rintro ⟨h | rfl,h2⟩
   · exact .inl ⟨h,h2⟩
   · exact .inr ⟨rfl,h2⟩
 · rintro (⟨h,h2⟩ | ⟨rfl,h2⟩)
   · exact ⟨.inl h,h2⟩
   · exact ⟨.inr rfl,h2⟩
theorem accW_there {ws b:List Wr} (hw:ws.Pairwise late) (hb:b.Pairwise late) {k:Nat} {x y:Wr} (hx:b[k]? = some x) (hy:y∈ws) (e:wid y=wid x):accW ws (b.take (k + 1))=accW ws (b.take k) :=
 late_ext (accW_late hw (take_late hb _)) (accW_late hw (take_late hb _)) (fun c=>by
   rw [accW_mem,accW_mem,fresh_snoc hx]
   constructor
   · rintro (h | h | ⟨rfl,h⟩)
     · exact .inl h
     · exact .inr h
     · exact absurd e (h y hy)
   · rintro (h | h)
     · exact .inl h
     · exact .inr (.inl h))
theorem accW_own {ws b:List Wr} (hb:b.Pairwise late) {k:Nat} {x y:Wr} (hx:b[k]? = some x) (hy:y∈accW ws (b.take k)) (e:wid y=wid x):y∈ws:=by
 rcases accW_mem.1 hy with h | h
 · exact h
 · exact absurd e (take_ne hb hx y (freshW_mem.1 h).1)
theorem accW_ins {ws b:List Wr} (hw:ws.Pairwise late) (hb:b.Pairwise late) {k:Nat} {x:Wr} (hx:b[k]? = some x) {p:Nat} (hp:p≤(accW ws (b.take k)).length)
   (h1:∀ i y,i < p→(accW ws (b.take k))[i]? = some y→late y x) (h2:∀ i y,p≤i→(accW ws (b.take k))[i]? = some y→late x y) :
   accW ws (b.take (k + 1))=(accW ws (b.take k)).take p ++ x :: (accW ws (b.take k)).drop p:=by
 obtain ⟨A,hA⟩:∃ A,A=accW ws (b.take k):=⟨_,rfl⟩
 have hl:A.Pairwise late:=by rw [hA];exact accW_late hw (take_late hb _)
 have hm:∀ c,c∈A↔c∈ws∨c∈freshW ws (b.take k):=fun c=>by rw [hA,accW_mem]
 rw [←hA] at h1 h2 hp ⊢
 have t1:∀ y∈A.take p,late y x:=fun y hy=>by
   obtain ⟨i,hi,e⟩:=List.getElem_of_mem hy
   have hip:i < p:=by rw [List.length_take] at hi;omega
   refine h1 i y hip ?_
   rw [←List.getElem?_take_of_lt hip,List.getElem?_eq_getElem hi,e]
 have t2:∀ y∈A.drop p,late x y:=fun y hy=>by
   obtain ⟨i,hi,e⟩:=List.getElem_of_mem hy
   refine h2 (p + i) y (by omega) ?_
   rw [←List.getElem?_drop,List.getElem?_eq_getElem hi,e]
 have hn:∀ z∈A,wid z≠wid x:=fun z hz=>by
   rw [←List.take_append_drop p A] at hz
   rcases List.mem_append.1 hz with hz | hz
   · exact late_ne (t1 z hz)
   · exact fun e=>late_ne (t2 z hz) e.symm
 refine late_ext (accW_late hw (take_late hb _)) ?_ (fun c=>?_)
 · rw [List.pairwise_append,List.pairwise_cons]
   have hs:=hl
   rw [←List.take_append_drop p A,List.pairwise_append] at hs
   refine ⟨hs.1,⟨t2,hs.2.1⟩,fun a ha c hc=>?_⟩
   rcases List.mem_cons.1 hc with rfl | hc
   · exact t1 a ha
   · exact hs.2.2 a ha c hc
 · rw [accW_mem,fresh_snoc hx,List.mem_append,List.mem_cons]
   have hd:c∈A↔c∈A.take p∨c∈A.drop p:=by rw [←List.mem_append,List.take_append_drop]
   constructor
   · rintro (h | h | ⟨rfl,_⟩)
     · rcases hd.1 ((hm c).2 (.inl h)) with h | h
       · exact .inl h
       · exact .inr (.inr h)
     · rcases hd.1 ((hm c).2 (.inr h)) with h | h
       · exact .inl h
       · exact .inr (.inr h)
     · exact .inr (.inl rfl)
   · rintro (h | rfl | h)
     · rcases (hm c).1 (hd.2 (.inl h)) with h | h
       · exact .inl h
       · exact .inr (.inl h)
     · exact .inr (.inr ⟨rfl,fun z hz=>hn z ((hm z).2 (.inl hz))⟩)
     · rcases (hm c).1 (hd.2 (.inr h)) with h | h
       · exact .inl h
       · exact .inr (.inl h)
theorem twA_some {ws:List Wr} (b:List Wr):∀ (k i:Nat) (x:Wr),(∀ y∈b.take k,¬ clash ws y)→b[k]? = some x→clash ws x→twA ws b i=some (i + k):=by
 induction b with
 | nil=>intro k i x _ h;cases h
 | cons c r ih =>
   intro k i x hn hx hc
   rw [twA]
   cases k with
   | zero =>
     obtain rfl:c=x:=by simpa using hx
     rw [if_pos hc];rfl
   | succ k =>
     rw [if_neg (hn c (by simp)),ih k (i + 1) x (fun y hy=>hn y (by simp [hy])) (by simpa using hx) hc]
     congr 1;omega
noncomputable def togE (ws b:List Wr):Nat×Int :=
 match twA ws b 0 with
 | some i=>(9,(i:Int))
 | none=>if 300 < ws.length + (freshW ws b).length then (12,-1) else (0,-1)
end Go.Proofs.YtddbpnplbcjpgaaGreatDoor
namespace Go.Proofs.YtddbpnplbcjpgaaGreatDoor
def reachL (f:List Ent) (l:List Wr):List Ent:=tab (fun r=>topT f l (r:Int)) 201
theorem topT_snoc (f:List Ent) (l:List Wr) (x:Wr) (r:Int):topT f (l ++ [x]) r=if x.rep=r then max (topT f l r) x.time else topT f l r:=by
 unfold topT;rw [List.foldl_append];rfl
theorem reach_nil {f:List Ent} (hf:rightV f):reachL f []=f:=tab_self hf.2
def InV (hv:List Ent) (l:List Wr):Prop:=∀ x∈l,0≤x.rep∧x.rep≤200∧1≤x.time∧x.time≤1099511627776∧x.time≤ofF hv x.rep
theorem reach_of {hv f:List Ent} {l:List Wr} (hh:rightV hv) (hf:rightV f) (hc:∀ r,ofF f r≤ofF hv r) (hl:InV hv l) :
   (∀ r,ofF f r≤topT f l r∧topT f l r≤ofF hv r)∧(∀ r,ofF (reachL f l) r=topT f l r)∧rightV (reachL f l):=by
 have hT:∀ r:Int,ofF f r≤topT f l r∧topT f l r≤ofF hv r:=by
   intro r
   refine ⟨(topT_ge r l _).1,?_⟩
   rcases topT_is r l (ofF f r) with h | ⟨x,hx,hr,h⟩
   · unfold topT;rw [h];exact hc r
   · unfold topT;rw [h,←hr];exact (hl x hx).2.2.2.2
 have hof:∀ r,ofF (reachL f l) r=topT f l r:=by
   intro r
   unfold reachL
   rw [ofF_tab]
   have h1:=hT r
   have h2:=ofF_bd hf.2 r
   by_cases hr:0≤r∧r≤200
   · have e:(r.toNat:Int)=r:=by omega
     rw [e]
     split
     · rfl
     · omega
   · have h3:=ofF_out hf.2 (x:=r) (by omega)
     have h4:=ofF_out hh.2 (x:=r) (by omega)
     rw [if_neg (by omega)]
     omega
 have hov:okV (-1) (reachL f l):=tab_okV (f:=fun r=>topT f l (r:Int)) (fun r=>Int.le_trans (hT r).2 (ofF_bd hh.2 _).2) (Nat.le_refl 201)
 refine ⟨hT,hof,?_,hov⟩
 have hsub:∀ e∈reachL f l,∃ d∈hv,d.rep=e.rep:=by
   intro e he
   have h1:=ofF_mem hov he
   have h2:=okV_mem hov e he
   have h3:=hof e.rep
   have h4:=(hT e.rep).2
   obtain ⟨d,hd,h5,_⟩:=ofF_has (l:=hv) (x:=e.rep) (by omega)
   exact ⟨d,hd,h5⟩
 have hnd:∀ {l:List Ent} {a:Int},okV a l→(l.map (·.rep)).Nodup:=by
   intro l
   induction l with
   | nil=>intro a _;exact List.nodup_nil
   | cons e r ih =>
     intro a h
     rw [List.map_cons,List.nodup_cons]
     refine ⟨fun hm=>?_,ih h.2⟩
     obtain ⟨d,hd,he⟩:=List.mem_map.1 hm
     have:=okV_mem h.2 d hd
     omega
 have h5:=(hnd hov).length_le_of_subset (l₂:=hv.map (·.rep)) (fun r hr=>by
   obtain ⟨e,he,rfl⟩:=List.mem_map.1 hr
   obtain ⟨d,hd,h6⟩:=hsub e he
   exact List.mem_map.2 ⟨d,hd,h6⟩)
 rw [List.length_map,List.length_map] at h5
 exact Nat.le_trans h5 hh.1
theorem reach_step {hv f:List Ent} {l:List Wr} {x:Wr} (hh:rightV hv) (hf:rightV f) (hc:∀ r,ofF f r≤ofF hv r) (hl:InV hv (l ++ [x])) :
   joinR (reachL f l) [⟨x.rep,x.time⟩]=(0,reachL f (l ++ [x])):=by
 have hx:=hl x (by simp)
 obtain ⟨_,h2,h3⟩:=reach_of hh hf hc (l:=l) (fun y hy=>hl y (List.mem_append_left _ hy))
 obtain ⟨_,h5,h6⟩:=reach_of hh hf hc hl
 have h7:rightV [(⟨x.rep,x.time⟩:Ent)]:=by
   refine ⟨by simp,?_⟩
   exact ⟨wrE_ok.2 ⟨hx.1,hx.2.1,hx.2.2.1,hx.2.2.2.1,by show (-1:Int) < x.rep;omega⟩,trivial⟩
 have hj:joinL (reachL f l) [⟨x.rep,x.time⟩]=reachL f (l ++ [x]):=ok_ext (join_okV h3.2 h7.2) h6.2 (fun r=>by
   rw [join_of h3.2 h7.2,h2,h5,topT_snoc,ofF_one]
   split
   · rfl
   · have:=(topT_ge r l (ofF f r)).1
     have h8:=ofF_bd hf.2 r
     have h9:topT f l r=l.foldl (fun a w=>if w.rep=r then max a w.time else a) (ofF f r):=rfl
     omega)
 rw [joinR_ok ((vright_ok _).2 h3) ((vright_ok _).2 h7) (by rw [hj];have:=h6.1;omega),hj]
theorem inV_of {s:LogS} (ok:LogOk s) {l:List Wr} (h:∀ x∈l,x∈s.ws):InV s.hv l:=fun x hx=>by
 have h1:=ok.mem x (h x hx)
 have h2:=wE_id h1.1
 exact ⟨h2.2.2.1,h2.2.2.2,h2.1,h2.2.1,h1.2⟩
end Go.Proofs.YtddbpnplbcjpgaaGreatDoor
namespace Go.Proofs.YtddbpnplbcjpgaaGreatDoor
open Go.RowKit
theorem cI_is (x1 x2 y1 y2:Int):cI (x1,x2) (y1,y2)=if x1 < y1∨x1=y1∧x2 < y2 then -1 else if x1=y1∧x2=y2 then 0 else 1:=by
 unfold cI orF cmpF
 simp only
 repeat' split
 all_goals omega
set_option maxRecDepth 100000 in
theorem rcmp_as (x1 x2 y1 y2 c:Int) (w:World) (h:cI (x1,x2) (y1,y2)=c):Calls Tryz.prog 51 #[.agg #[.int .i64 x1,.int .i64 x2],.agg #[.int .i64 y1,.int .i64 y2]] w fun e w'=>e=.returned (.int .i64 c)∧Below w.heap.size w w':=by
 subst h
 have hc:=cI_is x1 x2 y1 y2
 by_cases h1:x1 < y1
 · have HW:Hid (cI (x1,x2) (y1,y2)=-1):=Lib.hid (by rw [hc,if_pos (.inl h1)])
   clear hc
   go_enter Tryz.func51,Tryz.ntmps51
   go_wp2
   go_ret
   exact ⟨by rw [HW.out];rfl,((Below.refl _ _).alloc (Nat.le_refl _) _).alloc (by simp) _⟩
 · by_cases h2:x1=y1
   · subst h2
     by_cases h3:x2 < y2
     · have HW:Hid (cI (x1,x2) (x1,y2)=-1):=Lib.hid (by rw [hc,if_pos (.inr ⟨rfl,h3⟩)])
       clear hc h1
       go_enter Tryz.func51,Tryz.ntmps51
       go_wp2
       go_ret
       exact ⟨by rw [HW.out];rfl,((Below.refl _ _).alloc (Nat.le_refl _) _).alloc (by simp) _⟩
     · by_cases h4:x2=y2
       · subst h4
         have HW:Hid (cI (x1,x2) (x1,x2)=0):=Lib.hid (by rw [hc,if_neg (by omega),if_pos ⟨rfl,rfl⟩])
         clear hc h1 h3
         go_enter Tryz.func51,Tryz.ntmps51
         go_wp2
         go_ret
         exact ⟨by rw [HW.out];rfl,((Below.refl _ _).alloc (Nat.le_refl _) _).alloc (by simp) _⟩
       · have HW:Hid (cI (x1,x2) (x1,y2)=1):=Lib.hid (by rw [hc,if_neg (by omega),if_neg (by omega)])
         have b1:(x2 == y2)=false:=by simpa using h4
         have d3:y2 < x2:=by omega
         have d4:decide (x2 < y2)=false:=decide_eq_false h3
         clear hc h1 h3
         go_enter Tryz.func51,Tryz.ntmps51
         go_wp2
         go_ret
         exact ⟨by rw [HW.out];rfl,((Below.refl _ _).alloc (Nat.le_refl _) _).alloc (by simp) _⟩
   · have HW:Hid (cI (x1,x2) (y1,y2)=1):=Lib.hid (by rw [hc,if_neg (by omega),if_neg (by omega)])
     have b1:(x1 == y1)=false:=by simpa using h2
     have d4:decide (x1 < y1)=false:=decide_eq_false h1
     clear hc
     go_enter Tryz.func51,Tryz.ntmps51
     go_wp2
     go_ret
     exact ⟨by rw [HW.out];rfl,((Below.refl _ _).alloc (Nat.le_refl _) _).alloc (by simp) _⟩
set_option maxRecDepth 100000 in
set_option maxHeartbeats 2000000 in
theorem rwithin_as (x1 x2:Int) (vf vh:Value) (f h:List Ent) (w:World) (hf:IsEnts w vf f) (hh:IsEnts w vh h) (hlf:f.length≤9223372036854775807) (hlh:h.length≤9223372036854775807) (b:Bool) (hb:wiF (x1,x2) f h=b) :
   Calls Tryz.prog 67 #[.agg #[.int .i64 x1,.int .i64 x2],vf,vh] w fun e w'=>e=.returned (.bool b)∧Below w.heap.size w w':=by
 subst hb
 obtain ⟨p,hp⟩:∃ p,ofF f x2=p:=⟨_,rfl⟩
 obtain ⟨q,hq⟩:∃ q,ofF h x2=q:=⟨_,rfl⟩
 have HP:=Lib.hid hp
 have HQ:=Lib.hid hq
 have HLF:=Lib.hid hlf
 have HLH:=Lib.hid hlh
 have HF:Hid (IsEnts (w.alloc (.cells #[.int .i64 x1,.int .i64 x2] 24)) vf f):=Lib.hid (hf.alloc _)
 have HH:Hid (IsEnts (w.alloc (.cells #[.int .i64 x1,.int .i64 x2] 24)) vh h):=Lib.hid (hh.alloc _)
 have hval:wiF (x1,x2) f h=(decide (p < x1) && decide (x1≤q)):=by unfold wiF;simp only;rw [hp,hq]
 by_cases h1:p < x1
 · by_cases h2:x1≤q
   · have HW:Hid (wiF (x1,x2) f h=true):=Lib.hid (by rw [hval,decide_eq_true h1,decide_eq_true h2];rfl)
     clear hf hh hp hq hlf hlh hval
     rw [HW.out]
     go_enter Tryz.func67,Tryz.ntmps67
     go_wp2
     go_quiet ((first | (go_at_call 40;with_reducible exact rofI_q vf f x2 p _ _ HF.out HLF.out HP.out) | (go_at_call 40;with_reducible exact rofI_q vh h x2 q _ _ HH.out HLH.out HQ.out)))
     go_wp2
     go_ret
     exact ⟨rfl,below_drewN ((Below.refl _ _).alloc (Nat.le_refl _) _) _⟩
   · have HW:Hid (wiF (x1,x2) f h=false):=Lib.hid (by rw [hval,decide_eq_true h1,decide_eq_false h2];rfl)
     have d7:decide (x1≤q)=false:=decide_eq_false h2
     clear hf hh hp hq hlf hlh hval h2
     rw [HW.out]
     go_enter Tryz.func67,Tryz.ntmps67
     go_wp2
     go_quiet ((first | (go_at_call 40;with_reducible exact rofI_q vf f x2 p _ _ HF.out HLF.out HP.out) | (go_at_call 40;with_reducible exact rofI_q vh h x2 q _ _ HH.out HLH.out HQ.out)))
     go_wp2
     go_ret
     exact ⟨rfl,below_drewN ((Below.refl _ _).alloc (Nat.le_refl _) _) _⟩
 · have HW:Hid (wiF (x1,x2) f h=false):=Lib.hid (by rw [hval,decide_eq_false h1];rfl)
   have d6:decide (p < x1)=false:=decide_eq_false h1
   clear hf hh hp hq hlf hlh hval h1
   rw [HW.out]
   go_enter Tryz.func67,Tryz.ntmps67
   go_wp2
   go_quiet ((first | (go_at_call 40;with_reducible exact rofI_q vf f x2 p _ _ HF.out HLF.out HP.out)))
   go_wp2
   go_ret
   exact ⟨rfl,below_drewN ((Below.refl _ _).alloc (Nat.le_refl _) _) _⟩
end Go.Proofs.YtddbpnplbcjpgaaGreatDoor
namespace Go.Proofs.YtddbpnplbcjpgaaGreatDoor
open Go.RowKit
theorem within_as (x1 x2:Int) (vf vh:Value) (f h:List Ent) (b:Bool) (w:World) (hf:IsEnts w vf f) (hh:IsEnts w vh h) (hlf:f.length≤9223372036854775807) (hlh:h.length≤9223372036854775807) (hb:wiF (x1,x2) f h=b) :
   Calls Tryz.prog 89 #[.agg #[.int .i64 x1,.int .i64 x2],vf,vh] w fun e w'=>e=.returned (.bool b)∧Below w.heap.size w w':=within_any x1 x2 vf vh f h w hf hh hlf hlh b hb
end Go.Proofs.YtddbpnplbcjpgaaGreatDoor
