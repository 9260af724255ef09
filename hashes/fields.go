package hashes

import "cistern/api"

// fieldsOf gives the fields whose names and values stand in turns, of which there is an even number.
func fieldsOf(words ...string) []api.Field {
	fields := make([]api.Field, 0, len(words)/2)
	for i := 0; i < len(words); i += 2 {
		fields = append(fields, api.Field{Name: words[i], Value: words[i+1]})
	}
	return fields
}

// inTurns gives the names and values of fields in turns.
func inTurns(fields ...api.Field) []string {
	texts := make([]string, 0, 2*len(fields))
	for _, f := range fields {
		texts = append(texts, f.Name, f.Value)
	}
	return texts
}

func namesOf(fields ...api.Field) []string {
	names := make([]string, len(fields))
	for i, f := range fields {
		names[i] = f.Name
	}
	return names
}

func valuesOf(fields ...api.Field) []string {
	values := make([]string, len(fields))
	for i, f := range fields {
		values[i] = f.Value
	}
	return values
}
